/- Part of a proof. -/
import Derived.Test.YtjllhcifmfhkmaaGreatAuv
import Derived.Test.YtjllhcifmfhkmaaGreatR
import Derived.Test.YtjllhcifmfhkmaaGreatYa
import Derived.Test.YtjllhcifmfhkmaaGreatYj
import Derived.Test.YtjllhcifmfhkmaaGreatYm
import Derived.Test.YtjllhcifmfhkmaaGreatBw
import Derived.Test.YtjllhcifmfhkmaaGreatYd
import Derived.Test.YtjllhcifmfhkmaaGreatUg
set_option maxHeartbeats 4000000
namespace Go.Proofs.YtjllhcifmfhkmaaGreat.Oct
open Go.RowKit
def chaK (P:Nat→List Int) (t:List Int) (a i:Nat):Nat→List Int:=fun j=>if a≤j∧j<a+i then sealL (cpg t (ups a (ned t.length)) (j-a)) else P j
theorem chaK_zero (P:Nat→List Int) (t:List Int) (a:Nat):chaK P t a 0=P:=by
 funext j
 unfold chaK;rw [if_neg (by omega)]
theorem chaK_succ (P:Nat→List Int) (t:List Int) (a i:Nat):putP (chaK P t a i) (a+i) (sealL (cpg t (ups a (ned t.length)) i))=chaK P t a (i+1):=by
 funext j
 unfold putP chaK;by_cases h:j=a+i
 ·rw [if_pos h,if_pos (by omega),show j-a=i from by omega]
 ·rw [if_neg h];by_cases h2:a≤j∧j<a+i
  ·rw [if_pos h2,if_pos (by omega)]
  ·rw [if_neg h2,if_neg (by omega)]
theorem cha_chaK (P:Nat→List Int) (t:List Int) (a:Nat):Cha (chaK P t a (ned t.length)) t a:=fun i hi=>by
 unfold chaK;rw [if_pos (by omega),show a+i-a=i from by omega]
theorem Row.keep1 {w w':World} {g off cap:Nat} {zs:List Int} (h:Row w (some ⟨g,off,none⟩) cap zs) (k:w'.heap[g]?=w.heap[g]?):Row w' (some ⟨g,off,none⟩) cap zs:=by
 obtain ⟨h1,h2,h3,h4⟩:=h;refine ⟨h1,h2,h3,?_⟩;rcases h4 with h4|⟨b,o,e,hi⟩
 ·exact .inl h4
 ·cases e;exact .inr ⟨g,off,rfl,fun i hl=>(World.cell?_of_block (w:=w) (a:=⟨g,off+i,none⟩) k).trans (hi i hl)⟩
theorem Row.drew' {w:World} {a:Option Addr} {cap:Nat} {zs:List Int} (h:Row w a cap zs):Row w.drew a cap zs:=h
def ImM (base:Nat) (w:World) (g n cap N:Nat) (P:Nat→List Int):Prop:=∃L,Own base w (.slice (some ⟨g,0,none⟩) n cap) L∧Im N L P
theorem ImM.kept {base g n cap N:Nat} {w w':World} {P:Nat→List Int} (h:ImM base w g n cap N P) (hk:w'.heap[g]?=w.heap[g]?):ImM base w' g n cap N P:=by
 obtain ⟨L,h1,h2⟩:=h;exact ⟨L,h1.kept hk,h2⟩
theorem ImM.lt {base g n cap N:Nat} {w:World} {P:Nat→List Int} (h:ImM base w g n cap N P):base≤g∧g<w.heap.size∧n=N*256:=by
 obtain ⟨L,h1,h2⟩:=h;exact ⟨h1.lt2.1,h1.lt2.2,by rw [h1.cap'.1,h2.len]⟩
theorem ImM.lay {base g n cap N k:Nat} {w:World} {P:Nat→List Int} {Z:List Int} {a:Option Addr} {cz:Nat} (h:ImM base w g n cap N P) (hN:N≤4096) (hk:k<N) (hz:Row w a cz Z) (h256:Z.length=256) (hng:∀x,a=some x→x.block≠g):
  Calls Tryz.prog 30 #[.slice (some ⟨g,0,none⟩) n cap,.int .i64 (k:Nat),.slice a 256 cz] w fun e w'=>e=.returned (.tuple #[])∧ImM base w' g n cap N (putP P k Z)∧Ch w.heap.size (fun x=>x=g) w w':=by
 have hn:=h.lt.2.2;obtain ⟨L,h1,h2⟩:=h;refine (lay_v h1 hz h256 (k:=k) (by omega) (by omega) hng).mono ?_;rintro e w' ⟨rfl,h3,h4⟩;exact ⟨rfl,⟨_,h3,h2.lay hk h256 hz.1⟩,h4⟩
set_option maxRecDepth 4000 in
theorem blob_v {base g n cap N b m c:Nat} {w:World} {P:Nat→List Int} {a:Option Addr} {t:List Int} (h:ImM base w g n cap N P) (hN:N≤4096) (ht:Row w a c t) (hnil:a=none→c=0) (hl:t.length=m) (h2:2≤b) (hb:b+ned m≤N):
  Calls Tryz.prog 35 #[.slice (some ⟨g,0,none⟩) n cap,.slice a m c,.int .i64 (b:Nat)] w fun e w'=>e=.returned (.tuple #[.int .i64 (if m=0 then 0 else (b:Nat)),.int .i64 ((b+ned m:Nat):Int)])∧ImM base w' g n cap N (chaK P t b (ned m))∧Ch w.heap.size (fun x=>x=g) w w':=by
 have hm4:m≤1000000:=by unfold ned at hb;omega
 by_cases h0:m=0
 ·have HE:Hid (ImM base w g n cap N (chaK P t b (ned m))):=by
   rw [h0,show ned 0=0 from rfl,chaK_zero];exact h
  subst h0;clear h ht hl;go_enter Tryz.func35,Tryz.ntmps35
  go_wp2;go_ret2
  exact ⟨by simp [ned],HE.out,Ch.refl _ _ _⟩
 ·obtain ⟨gl,hgl,hnn'⟩:=h.lt;have HNN:Hid (n=N*256):=hnn';have hn4:n≤1048576:=by omega
  clear hnn';have HT:Hid (Row w a c t∧t.length=m∧ImM base w g n cap N P):=⟨ht,hl,h⟩;have hnd:= @rNeed_any (m:Int);rw [nedI_nat] at hnd;obtain ⟨q,hq⟩:∃q,ned m=q:=⟨_,rfl⟩;have HQ:Hid (ned m=q∧0<q∧q≤4096):=⟨hq,by rw [←hq];unfold ned;omega,by omega⟩;rw [hq] at hnd hb;have hq4:q≤4096:=HQ.out.2.2;clear ht hl h hq;have h0':((m:Int)==0)=false:=by rw [beq_eq_false_iff_ne];omega
  have HL0:Hid (OwnI w.heap.size w (.slice none 0 0) (ups b 0)∧Below w.heap.size w w):=⟨⟨rfl,.inl ⟨rfl,rfl⟩⟩,Below.refl _ _⟩;go_enter Tryz.func35,Tryz.ntmps35
  go_wp2_with fail
  go_loopg [8,9] q (fun gh v i wr=>∃j:Nat,j≤q∧gh=q-j∧i=.int .i64 j∧Hid (OwnI w.heap.size wr v (ups b j)∧Below w.heap.size w wr))
  case atStart=>exact ⟨0,Nat.zero_le _,rfl,rfl,HL0.out⟩
  case round=>
   clear HL0;obtain ⟨j,hj,hgk,rfl,HI⟩:=hrel;have HGK:Hid (gk=q-j):=hgk;clear hgk;by_cases hlt:j<q
   ·have hsz:=HI.out.2.size;have hln:=ups_len b j;go_wp2_with fail
    refine (hnd wr (by omega) (by omega)).mono ?_;rintro e w' ⟨rfl,rfl⟩;go_wp2_with (at_builtin;refine appI wr rfl _ _ rfl w.heap.size u8 (ups b j) ((b:Int)+(j:Int)) rfl HI.out.1 rfl (by omega) hsz ?_;intro v4 w4 ho4 hb4;have H4:Hid (OwnI w.heap.size w4 v4 (ups b (j+1))∧Below w.heap.size w w4):=(by show _∧_;rw [ups_succ,Int.natCast_add];exact ⟨ho4,HI.out.2.trans hb4⟩);clear ho4 hb4)
    go_roundg (q-(j+1))
    case rel=>exact ⟨j+1,by omega,rfl,by go_num,H4.out⟩
    case measure=>have:=HGK.out;omega
   ·obtain rfl:j=q:=by omega
    obtain ⟨al,cl,hv,hrl⟩:=HI.out.1.row;rw [ups_len] at hv;subst hv;go_wp2_with fail
    refine (hnd wr (by omega) (by omega)).mono ?_;rintro e w' ⟨rfl,rfl⟩;have hct:=rCut_any a c t al cl (ups b j) wr (HT.out.1.below HI.out.2) hnil hrl (by rw [HT.out.2.1];omega);rw [ups_len,HT.out.2.1] at hct;go_wp2_with fail
    refine hct.mono ?_;clear hct;rintro e w3 ⟨v3,rfl,hpg,hb3⟩;have hce:ctE t (ups b j)=0:=ctE_ok (by rw [ups_len,HT.out.2.1,HQ.out.1]) (ups_ok h2 (by omega)) (by rw [HT.out.2.1];omega);have hcz:ctZ t (ups b j)=ctL t (ups b j):=by unfold ctZ;rw [if_pos hce]
    rw [hce];rw [hcz] at hpg;have hcl:(ctL t (ups b j)).length=j:=by rw [ctL_len,ups_len]
    have hat:=fun i (hi:i<j)=>hpg.at i (by rw [hcl];exact hi)
    have hgt:∀i,i<j→(ctL t (ups b j)).getD i []=sealL (cpg t (ups b (ned t.length)) i):=fun i hi=>by
     rw [HT.out.2.1,HQ.out.1];unfold ctL;rw [ups_len];simp [List.getD_eq_getElem?_getD,hi]
    obtain ⟨q3,c3,-,-,rfl,hc3,hm3,-⟩:=hat 0 HQ.out.2.1
    have HP:Hid ((∀i,i<j→∃gi ci,w3.cell? ⟨q3,i,none⟩=some (.slice (some ⟨gi,0,none⟩) 256 ci)∧Row w3 (some ⟨gi,0,none⟩) ci (sealL (cpg t (ups b (ned t.length)) i))∧(¬gi=g∧gi<w3.heap.size))∧q3<w3.heap.size∧¬q3=g):=by
     have hq3:=World.ownsRow.lt hpg.choose_spec.1 q3 rfl;have:=HI.out.2.size;refine ⟨fun i hi=>?_,hq3.2,by omega⟩;obtain ⟨q',c',gi,ci,e,-,-,h1,h2',-⟩:=hat i hi;cases e;rw [hgt i hi,cpg_256] at h1 h2';have hlt':=h2'.lt2;exact ⟨gi,ci,h1,(h2'.row' (seal_bys (cpg_bys HT.out.1.1 i))).2,by omega,hlt'.2⟩
    rw [hcl] at hc3 ⊢
    obtain ⟨bl,ol,rfl,hcl2⟩:∃bl ol,al=some ⟨bl,ol,none⟩∧∀i,i<j→wr.cell? ⟨bl,ol+i,none⟩=some (.int .i64 ((b+i:Nat):Int)):=by
     rcases hrl.2.2 with h|⟨bl,ol,e,h⟩
     ·have:=congrArg List.length h;rw [ups_len] at this;have:=HQ.out.2.1;simp at*;omega
     ·refine ⟨bl,ol,e,fun i hi=>?_⟩;rw [h i (by rw [ups_len];exact hi),ups_at hi]
    have hbl:=World.ownsRow.lt HI.out.1 bl rfl;have hcl1:=hrl.1;have hcl3:=hrl.2.1;rw [ups_len] at hcl1;unfold maxLen at hcl3 hm3;have HR:Hid (∀i,i<j→w3.cell? ⟨bl,ol+i,none⟩=some (.int .i64 ((b+i:Nat):Int))):=fun i hi=>(hb3.cell (p:=⟨bl,ol+i,none⟩) hbl.2).trans (hcl2 i hi)
    have hblg:¬bl=g:=by omega
    have HB3:Hid (Below w.heap.size w w3∧bl<w3.heap.size):=⟨HI.out.2.trans (hb3.mono HI.out.2.size),by have:=hb3.size;omega⟩;have HM0:Hid (ImM base w3 g n cap N (chaK P t b 0)∧Ch w3.heap.size (fun x=>x=g) w3 w3):=⟨by rw [chaK_zero];exact HT.out.2.2.kept (HB3.out.1.block g hgl),Ch.refl _ _ _⟩;have hq3g:=HP.out.2.2;clear hat hpg hb3 hbl hcl2 hrl HI hnd hce hcz hcl hgt hj hlt HGK;go_wp2_with fail
    go_loopg [12] j (fun gh i wx=>∃k:Nat,k≤j∧gh=j-k∧i=.int .i64 k∧Hid (ImM base wx g n cap N (chaK P t b k)∧Ch w3.heap.size (fun x=>x=g) w3 wx))
    case atStart=>exact ⟨0,Nat.zero_le _,rfl,rfl,HM0.out⟩
    case round=>
     clear HM0;obtain ⟨k,hk,hgk,rfl,HI⟩:=hrel;have HGK:Hid (gk=j-k):=hgk;clear hgk;by_cases hlt:k<j
     ·have ck:=(HI.out.2.cell (p:=⟨bl,ol+k,none⟩) HB3.out.2 hblg).trans (HR.out k hlt);obtain ⟨gi,ci,hci,hri,hgi,hgl3⟩:=HP.out.1 k hlt;have cp:=(HI.out.2.cell (p:=⟨q3,k,none⟩) HP.out.2.1 hq3g).trans hci;have hly:=(HI.out.1.kept (w':=wr.drew) rfl).lay hN (k:=b+k) (by omega) ((hri.keep1 (HI.out.2.block gi hgl3 hgi)).drew') (cpg_256 ..) (fun x e=>by cases e;exact hgi);have HS:Hid (Ch w3.heap.size (fun x=>x=g) w3 wr.drew):=HI.out.2.drew;have hbk:b+k<4096:=by omega
      clear HI hci hri;go_wp2_with fail
      go_region_held3 (fun w'=>w'.cell? ⟨bl,ol+k,none⟩=some (.int .i64 ((b+k:Nat):Int))∧w'.cell? ⟨q3,k,none⟩=some (.slice (some ⟨gi,0,none⟩) 256 ci)) (first|go_keep|exact ⟨by assumption,by assumption⟩) (first|(go_at_call 30;refine hly.mono ?_;rintro e w5 ⟨rfl,hm5,hc5⟩;have k1:=(hc5.cell (p:=⟨bl,ol+k,none⟩) (Nat.lt_of_lt_of_le HB3.out.2 HS.out.size) hblg).trans ck;have k2:=(hc5.cell (p:=⟨q3,k,none⟩) (Nat.lt_of_lt_of_le HP.out.2.1 HS.out.size) hq3g).trans cp;have H5:Hid (ImM base w5 g n cap N (chaK P t b (k+1))∧Ch w3.heap.size (fun x=>x=g) w3 w5):=(by show _∧_;rw [←chaK_succ];exact ⟨hm5,HS.out.trans (hc5.mono HS.out.size (fun _ _ h=>h))⟩);clear hm5 hc5))
      go_wp2;go_roundg (j-(k+1))
      case rel=>exact ⟨k+1,by omega,rfl,by go_num,H5.out⟩
      case measure=>have:=HGK.out;omega
     ·obtain rfl:k=j:=by omega
      have HE:Hid (ImM base wr g n cap N (chaK P t b (ned m))∧Ch w.heap.size (fun x=>x=g) w wr):=by
       rw [HQ.out.1];exact ⟨HI.out.1,(Ch.of _ HB3.out.1).trans (HI.out.2.mono HB3.out.1.size (fun _ _ h=>h))⟩
      have HQE:Hid (ned m=k):=HQ.out.1;clear HI HP HR;go_wp2;go_ret2
      exact ⟨by simp [HQE.out],HE.out⟩
def chn (r:Nat):Nat:=if 20<r∧r<30 then 10 else min r 20
structure GrI (l:List C4) (m i:Nat) (D:List (List C4)):Prop where
 fl:D.flatten=l.take i
 le:i≤m
 sz:∀c∈D,c.length≤20
 lo:(∀c∈D,10≤c.length)∨(i=m∧D.length=1)
 rest:i=0∨i=m∨10≤m-i
 z0:D.length=0↔i=0
 cnt:D.length*20=i∨(D.length*20=i+10∧11≤m-i∧m-i≤19)∨(i=m∧D.length*20≤m+19)
theorem chn_bd {r:Nat} (h:0<r):1≤chn r∧chn r≤20∧chn r≤r:=by unfold chn;split<;>omega
theorem GrI.next {l:List C4} {m i:Nat} {D:List (List C4)} (h:GrI l m i D) (hm:l.length=m) (hi:i<m):GrI l m (i+chn (m-i)) (D++[(l.drop i).take (chn (m-i))]):=by
 obtain ⟨fl,le,sz,lo,rest,z0,cnt⟩:=h;have hb:=chn_bd (r:=m-i) (by omega);have hlen:((l.drop i).take (chn (m-i))).length=chn (m-i):=by rw [List.length_take,List.length_drop];omega
 have hall:∀c∈D,10≤c.length:=by
  rcases lo with h|h
  ·exact h
  ·omega
 refine ⟨?_,by omega,fun c hc=>?_,?_,?_,by simp;omega,?_⟩
 ·rw [List.flatten_append,fl,List.flatten_singleton,List.take_add]
 ·rcases List.mem_append.1 hc with h|h
  ·exact sz c h
  ·rw [List.mem_singleton.1 h,hlen];exact hb.2.1
 ·by_cases h10:10≤chn (m-i)
  ·left;intro c hc;rcases List.mem_append.1 hc with h|h
   ·exact hall c h
   ·rw [List.mem_singleton.1 h,hlen];exact h10
  ·right;have hx:¬(20<m-i∧m-i<30):=fun h=>h10 (by unfold chn;rw [if_pos h];omega)
   have:chn (m-i)=m-i:=by unfold chn at h10 ⊢;rw [if_neg hx] at h10 ⊢;omega
   simp only [List.length_append,List.length_singleton];omega
 ·unfold chn;split<;>omega
 ·simp only [List.length_append,List.length_singleton];unfold chn;split<;>omega
structure GrM (base:Nat) (w wr:World) (g n cap N:Nat) (P:Nat→List Int) (b:Nat) (D:List (List C4)) (v:Value) (P':Nat→List Int):Prop where
 kd:OwnC 130 w.heap.size wr v (kidsL b D)
 im:ImM base wr g n cap N P'
 far:∀j,(j<b∨b+D.length≤j)→P' j=P j
 pg:∀k,k<D.length→P' (b+k)=layZ false 0 (D.getD k [])
 ch:Ch w.heap.size (fun x=>x=g) w wr
theorem GrM.next {base g n cap N b:Nat} {w wo w7:World} {P P':Nat→List Int} {D:List (List C4)} {v v':Value} {ch:List C4} (h:GrM base w wo g n cap N P b D v P') (him:ImM base w7 g n cap N (putP P' (b+D.length) (layZ false 0 ch))) (hkd:OwnC 130 w.heap.size w7 v' (kidsL b D++[kidOf (b+D.length) ch])) (hch:Ch w.heap.size (fun x=>x=g) w w7):GrM base w w7 g n cap N P b (D++[ch]) v' (putP P' (b+D.length) (layZ false 0 ch)):=by
 refine ⟨by rw [kidsL_snoc];exact hkd,him,fun j hj=>?_,fun k hk=>?_,hch⟩
 ·rw [List.length_append,List.length_singleton] at hj;unfold putP;rw [if_neg (by omega)];exact h.far j (by omega)
 ·rw [List.length_append,List.length_singleton] at hk;unfold putP;by_cases e:k=D.length
  ·rw [if_pos (by omega),e,List.getD_eq_getElem?_getD,List.getElem?_append_right (Nat.le_refl _)];simp
  ·rw [if_neg (by omega),h.pg k (by omega),List.getD_eq_getElem?_getD,List.getD_eq_getElem?_getD,List.getElem?_append_left (by omega)]
theorem RowC.keep1 {w w':World} {b off cap:Nat} {l:List C4} (h:RowC w (some ⟨b,off,none⟩) cap l) (k:w'.heap[b]?=w.heap[b]?):RowC w' (some ⟨b,off,none⟩) cap l:=by
 obtain ⟨h0,h1,h2,h3⟩:=h;refine ⟨h0,h1,h2,?_⟩;rcases h3 with h3|⟨b',o,e,hi⟩
 ·exact .inl h3
 ·cases e;exact .inr ⟨b,off,rfl,fun i hl=>(hi i hl).same k⟩
theorem kidsL_wf:∀(D:List (List C4)) (a:Nat),(∀c∈D,c.length≤20)→(∀x∈D.flatten,okC false x=true)→a+D.length≤4096→∀k∈kidsL a D,wfC k
 |[],a,_,_,_,k,hk=>by cases hk
 |c::D,a,hc,hl,hN,k,hk=>by
  have h1:=hc c List.mem_cons_self;rw [List.length_cons] at hN;unfold kidsL at hk;rcases List.mem_cons.1 hk with rfl|hk
  ·have:=sum_le (l:=c) (fun x hx=>hl x (by rw [List.flatten_cons];exact List.mem_append_left _ hx));unfold wfC kidOf wf1;simp only;omega
  ·exact kidsL_wf D (a+1) (fun x hx=>hc x (List.mem_cons_of_mem _ hx)) (fun x hx=>hl x (by rw [List.flatten_cons];exact List.mem_append_right _ hx)) (by omega) k hk
def GrE (base:Nat) (w:World) (g n cap N:Nat) (P:Nat→List Int) (l:List C4) (b:Nat) (e:Ending) (w':World):Prop:=
 ∃(r h b':Nat) (P':Nat→List Int),e=.returned (.tuple #[.int .i64 (r:Int),.int .i64 (h:Int),.int .i64 (b':Int)])∧ImM base w' g n cap N P'∧Tre P' l b r h b'∧b'≤b+(l.length+19)/20+1∧(∀j,(j<b∨b'≤j)→P' j=P j)∧Ch w.heap.size (fun x=>x=g) w w'
theorem sumI_snoc (l:List Int) (x:Int):(l++[x]).sum=l.sum+x:=by simp
theorem take_succ' (l:List C4) (k:Nat) (hk:k<l.length):l.take (k+1)=l.take k++[l.getD k c40]:=by
 rw [List.take_succ_eq_append_getElem hk,List.getD_eq_getElem?_getD,List.getElem?_eq_getElem hk,Option.getD_some]
theorem RowC.part {w:World} {b off cap:Nat} {l:List C4} (h:RowC w (some ⟨b,off,none⟩) cap l) (i k:Nat) (hk:i+k≤l.length):RowC w (some ⟨b,off+i*4,none⟩) (cap-i) ((l.drop i).take k):=by
 obtain ⟨h0,h1,h2,h3⟩:=h;have hl:((l.drop i).take k).length=k:=by rw [List.length_take,List.length_drop];omega
 refine ⟨fun q hq=>h0 q (List.mem_of_mem_drop (List.mem_of_mem_take hq)),by rw [hl];omega,by omega,?_⟩;rcases h3 with h3|⟨b',off',e,hc⟩
 ·left;rw [h3];simp
 ·cases e;refine .inr ⟨b,off+i*4,rfl,fun j hj=>?_⟩;rw [hl] at hj;have:=hc (i+j) (by omega);rw [show off+i*4+j*4=off+(i+j)*4 from by omega];rw [List.getD_eq_getElem?_getD,List.getElem?_take,if_pos hj,List.getElem?_drop,←List.getD_eq_getElem?_getD];exact this
theorem part_next {l:List C4} {m i k cn:Nat} (hm:l.length=m) (hk:k<cn) (hi:i+cn≤m) (hok:∀x∈l,okC false x=true):
  (((l.drop i).take (k+1)).map (·.c)).sum=(((l.drop i).take k).map (·.c)).sum+(l.getD (i+k) c40).c∧(((l.drop i).take (k+1)).map (·.d)).sum=(((l.drop i).take k).map (·.d)).sum+(l.getD (i+k) c40).d∧(1≤(l.getD (i+k) c40).c∧(l.getD (i+k) c40).c≤248)∧(0≤(l.getD (i+k) c40).d∧(l.getD (i+k) c40).d≤248)∧(0≤(((l.drop i).take k).map (·.c)).sum∧(((l.drop i).take k).map (·.c)).sum≤248*(k:Int))∧(0≤(((l.drop i).take k).map (·.d)).sum∧(((l.drop i).take k).map (·.d)).sum≤248*(k:Int)):=by
 have hg:(l.drop i).getD k c40=l.getD (i+k) c40:=by rw [List.getD_eq_getElem?_getD,List.getElem?_drop,←List.getD_eq_getElem?_getD]
 have ht:=take_succ' (l.drop i) k (by rw [List.length_drop];omega);rw [hg] at ht;have hs:=sum_le (l:=(l.drop i).take k) (fun x hx=>hok x (List.mem_of_mem_drop (List.mem_of_mem_take hx)));rw [List.length_take,List.length_drop,Nat.min_eq_left (by omega)] at hs;have hx:=hok (l.getD (i+k) c40) (by rw [List.getD_eq_getElem?_getD,List.getElem?_eq_getElem (by omega),Option.getD_some];exact List.getElem_mem _);unfold okC at hx;simp only [decide_eq_true_eq] at hx;refine ⟨by rw [ht,List.map_append,List.map_singleton,sumI_snoc],by rw [ht,List.map_append,List.map_singleton,sumI_snoc],by omega,by omega,by omega,by omega⟩
def KdAt (w:World) (b:Nat) (q:C4):Prop:=w.heap[b]?=some (.cells #[.int .i64 q.a,.int .i64 q.b,.int .i64 q.c,.int .i64 q.d] 130 (0,0))
theorem KdAt.at {w:World} {b:Nat} {q:C4} (h:KdAt w b q):w.cell? ⟨b,0,none⟩=some (.int .i64 q.a)∧w.cell? ⟨b,1,none⟩=some (.int .i64 q.b)∧w.cell? ⟨b,2,none⟩=some (.int .i64 q.c)∧w.cell? ⟨b,3,none⟩=some (.int .i64 q.d)∧∀i,w.frozen? ⟨b,i,none⟩=false:=by
 have hc:∀i,w.cell? ⟨b,i,none⟩=_:=fun i=>cell_of_row w b i _ _ (0,0) h
 refine ⟨by rw [hc];rfl,by rw [hc];rfl,by rw [hc];rfl,by rw [hc];rfl,fun i=>?_⟩;unfold World.frozen?;rw [h];simp
theorem KdAt.set2 {w:World} {b:Nat} {q:C4} (h:KdAt w b q) (x:Int):KdAt (w.setCell ⟨b,2,none⟩ (.int .i64 x)) b {q with c:=x}:=by unfold KdAt;rw [setCell_heap _ _ _ _ _ _ _ h];rfl
theorem KdAt.set3 {w:World} {b:Nat} {q:C4} (h:KdAt w b q) (x:Int):KdAt (w.setCell ⟨b,3,none⟩ (.int .i64 x)) b {q with d:=x}:=by unfold KdAt;rw [setCell_heap _ _ _ _ _ _ _ h];rfl
set_option maxRecDepth 8000 in
theorem grow_v {base g n cap N b m c:Nat} {w:World} {P:Nat→List Int} {a:Option Addr} {l:List C4} (h:ImM base w g n cap N P) (hN:N≤4096) (hr:RowC w a c l) (hag:∀x,a=some x→x.block≠g) (hok:∀x∈l,okC false x=true) (hl:l.length=m) (hm:m≤150) (h2:2≤b) (hb:b+(m+19)/20+1≤N):
  Calls Tryz.prog 34 #[.slice (some ⟨g,0,none⟩) n cap,.slice a m c,.int .i64 (b:Nat)] w fun e w'=>GrE base w g n cap N P l b e w':=by
 by_cases h0:m=0
 ·have HE:Hid (GrE base w g n cap N P l b (.returned (.tuple #[.int .i64 ((0:Nat):Int),.int .i64 ((0:Nat):Int),.int .i64 (b:Int)])) w):=⟨0,0,b,P,rfl,h,.inl ⟨List.length_eq_zero_iff.1 (by omega),rfl,rfl,rfl⟩,by omega,fun _ _=>rfl,Ch.refl _ _ _⟩;subst h0;clear h hr hl hok;go_enter Tryz.func34,Tryz.ntmps34
  go_wp2;go_ret3
  exact HE.out
 ·obtain ⟨gl,hgl,hnn'⟩:=h.lt;have hn4:n≤1048576:=by omega
  obtain ⟨ab,ao,rfl⟩:=hr.some' (by omega);have hcl:=hr.cells;have hc1:=hr.2.1;have hc2:=hr.2.2.1;unfold maxLen at hc2;rw [hl] at hc1 hcl;have hnab:¬ab=g:=hag _ rfl;have habl:ab<w.heap.size:=(hcl 0 (by omega)).lt;have HR:Hid (RowC w (some ⟨ab,ao,none⟩) c l∧l.length=m∧(∀i,i<m→At4 w ab (ao+i*4) (l.getD i c40))∧(∀x∈l,okC false x=true)):=⟨hr,hl,hcl,hok⟩;have HI0:Hid (GrI l m 0 []∧GrM base w w g n cap N P b [] (.slice none 0 0) P):=⟨⟨by simp,Nat.zero_le _,by simp,by simp,.inl rfl,by simp,.inl rfl⟩,⟨ownC_nil ..,h,fun _ _=>rfl,by simp,Ch.refl _ _ _⟩⟩;have hm0:((m:Int)==0)=false:=by rw [beq_eq_false_iff_ne];omega
  clear hnn' hcl hl hr h hag hok;go_enter Tryz.func34,Tryz.ntmps34
  go_wp2_with fail
  go_loopg [2,9,10] m (fun gh at' v i wr=>∃(ii:Nat) (D:List (List C4)) (P':Nat→List Int) (dl:Nat),gh=m-ii∧dl≤20∧ii≤m∧at'=.int .i64 ((b+dl:Nat):Int)∧i=.int .i64 (ii:Int)∧Hid (D.length=dl∧GrI l m ii D∧GrM base w wr g n cap N P b D v P'))
  case atStart=>exact ⟨0,[],P,0,rfl,by omega,by omega,by simp,rfl,rfl,HI0.out⟩
  case round=>
   clear HI0;obtain ⟨ii,D,P',dl,hgk,hdl,hii,rfl,rfl,HI⟩:=hrel;have HGK:Hid (gk=m-ii):=hgk;clear hgk;by_cases hlt:ii<m
   ·obtain ⟨wo,rfl⟩:∃wo,wo=wr:=⟨_,rfl⟩;have hnext:=HI.out.2.1.next HR.out.2.1 hlt;obtain ⟨cn,hcn⟩:∃cn,chn (m-ii)=cn:=⟨_,rfl⟩;have hcb:=chn_bd (r:=m-ii) (by omega);rw [hcn] at hnext hcb;have HX:Hid (GrI l m (ii+cn) (D++[(l.drop ii).take cn])∧1≤cn∧cn≤20∧ii+cn≤m):=⟨hnext,by omega,by omega,by omega⟩;have hd8:dl*20≤150:=by have:=HI.out.2.1.cnt;have:=HI.out.1;omega
    have hdb:b+dl+1≤N:=by have hc:=hnext.cnt;have hd:=HI.out.1;simp only [List.length_append,List.length_singleton] at hc;omega
    unfold chn at hcn;clear hnext;by_cases h20:m-ii≤20
    ·have hc':cn=m-ii:=by rw [if_neg (by omega)] at hcn;omega
     have q1:min ((m:Int)-(ii:Int)) 20=(cn:Int):=by omega
     have q0:(m:Int)-(ii:Int)=(cn:Int):=by omega
     have q9:min (cn:Int) 20=(cn:Int):=by omega
     have q2:decide ((m:Int)-(ii:Int)>(cn:Int))=false:=decide_eq_false (by omega);have HC':Hid (cn=m-ii):=hc';clear hcn hc';go_wp2_with fail
     try simp only [q0]
     try simp only [q9]
     obtain ⟨w1,hw1⟩:∃w1,wo.alloc (.cells #[.int .i64 ((b:Int)+(dl:Int)),.int .i64 (cn:Int),.int .i64 0,.int .i64 0] 130)=w1:=⟨_,rfl⟩;rw [hw1]
     have HK0:Hid (KdAt w1 wo.heap.size ⟨((b+dl:Nat):Int),(cn:Int),(((l.drop ii).take 0).map (·.c)).sum,(((l.drop ii).take 0).map (·.d)).sum⟩∧Below wo.heap.size wo w1):=by
      rw [←hw1];refine ⟨?_,(Below.refl _ wo).alloc (Nat.le_refl _) _⟩;unfold KdAt;rw [heap_alloc_new];simp
      try omega
     obtain ⟨kb,hkb⟩:∃kb,wo.heap.size=kb:=⟨_,rfl⟩;rw [hkb] at HK0 ⊢;have HKB:Hid (wo.heap.size=kb):=hkb;have HC:Hid (Ch w.heap.size (fun x=>x=g) w wo∧w.heap.size≤kb):=⟨HI.out.2.2.ch,by rw [←HKB.out];exact HI.out.2.2.ch.size⟩;clear hw1 hkb q1 q2;go_loopg [13] cn (fun gh i wx=>∃k:Nat,k≤cn∧gh=cn-k∧i=.int .i64 ((ii+k:Nat):Int)∧Hid (KdAt wx kb ⟨((b+dl:Nat):Int),(cn:Int),(((l.drop ii).take k).map (·.c)).sum,(((l.drop ii).take k).map (·.d)).sum⟩∧Below kb wo wx))
     case atStart=>exact ⟨0,Nat.zero_le _,rfl,by simp,HK0.out⟩
     case round=>
      clear HK0;obtain ⟨k,hk,hgk,rfl,HJ⟩:=hrel;have HGK2:Hid (gk=cn-k):=hgk;clear hgk;by_cases hltk:k<cn
      ·obtain ⟨n1,n2,n3,n4,n5,n6⟩:=part_next (k:=k) HR.out.2.1 hltk HX.out.2.2.2 HR.out.2.2.2;have hcell:∀o,wr.cell? ⟨ab,o,none⟩=w.cell? ⟨ab,o,none⟩:=fun o=>(HJ.out.2.cell (p:=⟨ab,o,none⟩) (by show ab<kb;have:=HC.out.2;omega)).trans (HC.out.1.cell (p:=⟨ab,o,none⟩) habl hnab)
       obtain ⟨-,-,ca2,ca3⟩:=HR.out.2.2.1 (ii+k) (by have:=HX.out.2.2.2;omega);rw [←hcell] at ca2 ca3;obtain ⟨-,-,k2,k3,kf⟩:=HJ.out.1.at;have f2:=kf 2;have f3:=kf 3
       have HS:Hid (KdAt ((wr.setCell ⟨kb,2,none⟩ (.int .i64 ((((l.drop ii).take k).map (·.c)).sum+(l.getD (ii+k) c40).c))).setCell ⟨kb,3,none⟩ (.int .i64 ((((l.drop ii).take k).map (·.d)).sum+(l.getD (ii+k) c40).d))) kb ⟨((b+dl:Nat):Int),(cn:Int),(((l.drop ii).take (k+1)).map (·.c)).sum,(((l.drop ii).take (k+1)).map (·.d)).sum⟩∧Below kb wo ((wr.setCell ⟨kb,2,none⟩ (.int .i64 ((((l.drop ii).take k).map (·.c)).sum+(l.getD (ii+k) c40).c))).setCell ⟨kb,3,none⟩ (.int .i64 ((((l.drop ii).take k).map (·.d)).sum+(l.getD (ii+k) c40).d)))):=by
        rw [n1,n2];exact ⟨(HJ.out.1.set2 _).set3 _,(HJ.out.2.setCell (Nat.le_refl _) _).setCell (Nat.le_refl _) _⟩
       have hiik:ii+k<m:=by have:=HX.out.2.2.2;omega
       clear kf n1 n2 hcell HJ;obtain ⟨sc,hsc⟩:∃sc,(((l.drop ii).take k).map (·.c)).sum=sc:=⟨_,rfl⟩;obtain ⟨sd,hsd⟩:∃sd,(((l.drop ii).take k).map (·.d)).sum=sd:=⟨_,rfl⟩;obtain ⟨xc,hxc⟩:∃xc,(l.getD (ii+k) c40).c=xc:=⟨_,rfl⟩;obtain ⟨xd,hxd⟩:∃xd,(l.getD (ii+k) c40).d=xd:=⟨_,rfl⟩;rw [hsc,hsd,hxc,hxd] at HS;simp only [hsc,hsd,hxc,hxd] at k2 k3 ca2 ca3 n3 n4 n5 n6;clear hsc hsd hxc hxd;have hkbab:¬ab=kb:=by have:=HC.out.2;omega
       go_wp2_with fail
       go_region
       go_wp2_with fail
       go_region
       go_wp2;go_roundg (cn-(k+1))
       case rel=>exact ⟨k+1,by omega,rfl,by go_num,(show _∧_ from ⟨HS.out.1,HS.out.2.drew.drew⟩)⟩
       case measure=>have:=HGK2.out;omega
      ·obtain rfl:k=cn:=by omega
       have hcl:((l.drop ii).take k).length=k:=by rw [List.length_take,List.length_drop,HR.out.2.1];have:=HX.out.2.2.2;omega
       have hlb:layB false 0 ((l.drop ii).take k)=true:=lay_leaf (by rw [hcl];omega) (by rw [hcl];omega) (fun x hx=>HR.out.2.2.2 x (List.mem_of_mem_drop (List.mem_of_mem_take hx)));have hwab:wr.heap[ab]?=w.heap[ab]?:=(HJ.out.2.block ab (by have:=HC.out.2;omega)).trans (HC.out.1.block ab habl hnab);have hlf:=rleaf_v ((l.drop ii).take k) (some ⟨ab,ao+ii*4,none⟩) (c-ii) k wr ((HR.out.1.part ii k (by rw [HR.out.2.1];exact HX.out.2.2.2)).keep1 hwab) hcl 0 (layZ_yes hlb).1 (layZ false 0 ((l.drop ii).take k)) rfl 256 (layZ_len hlb)
       have HQ:Hid (KdAt wr kb (kidOf (b+dl) ((l.drop ii).take k))∧Below kb wo wr∧kb<wr.heap.size):=by
        refine ⟨?_,HJ.out.2,heap_lt HJ.out.1⟩;have:=HJ.out.1;unfold kidOf;rw [hcl];exact this
       have hii2:ii+k≤m:=HX.out.2.2.2;clear HJ hwab;go_wp2_with fail
       refine hlf.mono ?_;clear hlf;rintro e w4 ⟨gz,cz,rfl,hoz,hb4⟩;have hgkb:g<kb:=by have:=HC.out.2;omega
       have hkbw:kb<wr.heap.size:=HQ.out.2.2;have hg4:w4.heap[g]?=wo.heap[g]?:=(hb4.block g (by omega)).trans (HQ.out.2.1.block g hgkb)
       have hly:=(HI.out.2.2.im.kept hg4).lay hN (k:=b+dl) (by omega) (hoz.row' (layZ_bys false 0 _)).2 (layZ_len hlb) (fun x e=>by
        have:=World.ownsRow.lt hoz x.block (by rw [e];rfl);omega)
       have HB4:Hid (Below wr.heap.size wr w4):=hb4;clear hb4 hoz hg4;go_wp2_with fail
       refine (first_v gz 256 cz 0 w4).mono ?_;rintro e w' ⟨rfl,rfl⟩;go_wp2_with fail
       refine hly.mono ?_;clear hly;rintro e w5 ⟨rfl,him,hc5⟩;have HW5:Hid (Below kb wo w'∧Ch w'.heap.size (fun x=>x=g) w' w5∧ImM base w5 g n cap N (putP P' (b+dl) (layZ false 0 ((l.drop ii).take k)))∧kb<w'.heap.size):=⟨HQ.out.2.1.trans (HB4.out.mono (by omega)),hc5,him,by have:=HB4.out.size;omega⟩
       have HK5:Hid (KdAt w5 kb (kidOf (b+dl) ((l.drop ii).take k))∧OwnC 130 w.heap.size w5 u9 (kidsL b D)∧Ch w.heap.size (fun x=>x=g) w w5):=by
        have hs1:=HC.out.2;have hwo:=HKB.out;have hkw:=HW5.out.2.2.2;refine ⟨((hc5.block kb HW5.out.2.2.2 (by omega)).trans (HB4.out.block kb hkbw)).trans HQ.out.1,?_,?_⟩
        ·refine owns_keep HI.out.2.2.kd (fun x hx=>?_);have hlx:=World.ownsRow.lt HI.out.2.2.kd x hx;exact (hc5.block x (by omega) (by omega)).trans (HW5.out.1.block x (by omega))
        ·refine (HC.out.1.trans (Ch.of _ (HW5.out.1.mono hs1))).trans (hc5.mono (by omega) (fun _ _ h=>h))
       obtain ⟨q,hq⟩:∃q,kidOf (b+dl) ((l.drop ii).take k)=q:=⟨_,rfl⟩;rw [hq] at HK5;have HQQ:Hid (kidOf (b+dl) ((l.drop ii).take k)=q):=hq;obtain ⟨z0,z1,z2,z3,-⟩:=HK5.out.1.at;have hs5:=HK5.out.2.2.size;clear hq HQ HB4 hc5 him
       go_wp2_with (at_builtin;refine append_c4n 128 130 Tryz.underlying128 infoK rfl _ _ rfl w.heap.size u9 (kidsL b D) rfl (HK5.out.2.1.below' ((Below.refl _ _).alloc (Nat.le_refl _) _)) q w5.heap.size rfl (at4_new w5 q _) (by rw [kidsL_len,HI.out.1];omega) (Nat.le_trans hs5 (by rw [heap_alloc_size];omega)) dl (by rw [kidsL_len,HI.out.1]) _ rfl ?_;intro b7 c7 w7 ho7 hb7;have H7:Hid (GrM base w w7 g n cap N P b (D++[(l.drop ii).take k]) (.slice b7 (dl+1) c7) (putP P' (b+dl) (layZ false 0 ((l.drop ii).take k)))):=(by
        have hl5:Ch w.heap.size (fun x=>x=g) w w7:=(HK5.out.2.2.alloc hs5 _).trans (Ch.of _ hb7);have hg7:w7.heap[g]?=w5.heap[g]?:=(hb7.block g hgl).trans (heap_alloc_old w5 _ (by omega));have hd:=HI.out.1;have:=HI.out.2.2.next (ch:=(l.drop ii).take k) (w7:=w7) (v':=.slice b7 (dl+1) c7) (by rw [hd];exact HW5.out.2.2.1.kept hg7) (by rw [hd,HQQ.out];exact ho7) hl5;rw [hd] at this;exact this);clear ho7 hb7)
       go_roundg (m-(ii+k))
       case rel=>exact ⟨ii+k,_,_,dl+1,rfl,by omega,by omega,by go_num,by go_num,(show _∧_∧_ from ⟨by simp [HI.out.1],HX.out.1,H7.out⟩)⟩
       case measure=>have:=HGK.out;omega
    ·by_cases h30:m-ii<30
     ·have hc':cn=10:=by rw [if_pos (by omega)] at hcn;omega
      have q1:min ((m:Int)-(ii:Int)) 20=20:=by omega
      have q2:decide ((m:Int)-(ii:Int)>20)=true:=decide_eq_true (by omega);have q3:decide ((m:Int)-(ii:Int)-20<10)=true:=decide_eq_true (by omega);have HC':Hid (cn=10):=hc';have HV:Hid ((10:Int)=(cn:Int)):=(by show _=_;omega);have q4:(cn:Int)≤20:=by omega
      clear hcn hc';go_wp2_with fail
      simp only [HV.out];obtain ⟨w1,hw1⟩:∃w1,wo.alloc (.cells #[.int .i64 ((b:Int)+(dl:Int)),.int .i64 (cn:Int),.int .i64 0,.int .i64 0] 130)=w1:=⟨_,rfl⟩;rw [hw1]
      have HK0:Hid (KdAt w1 wo.heap.size ⟨((b+dl:Nat):Int),(cn:Int),(((l.drop ii).take 0).map (·.c)).sum,(((l.drop ii).take 0).map (·.d)).sum⟩∧Below wo.heap.size wo w1):=by
       rw [←hw1];refine ⟨?_,(Below.refl _ wo).alloc (Nat.le_refl _) _⟩;unfold KdAt;rw [heap_alloc_new];simp
       try omega
      obtain ⟨kb,hkb⟩:∃kb,wo.heap.size=kb:=⟨_,rfl⟩;rw [hkb] at HK0 ⊢;have HKB:Hid (wo.heap.size=kb):=hkb;have HC:Hid (Ch w.heap.size (fun x=>x=g) w wo∧w.heap.size≤kb):=⟨HI.out.2.2.ch,by rw [←HKB.out];exact HI.out.2.2.ch.size⟩;clear hw1 hkb q1 q2;go_loopg [13] cn (fun gh i wx=>∃k:Nat,k≤cn∧gh=cn-k∧i=.int .i64 ((ii+k:Nat):Int)∧Hid (KdAt wx kb ⟨((b+dl:Nat):Int),(cn:Int),(((l.drop ii).take k).map (·.c)).sum,(((l.drop ii).take k).map (·.d)).sum⟩∧Below kb wo wx))
      case atStart=>exact ⟨0,Nat.zero_le _,rfl,by simp,HK0.out⟩
      case round=>
       clear HK0;obtain ⟨k,hk,hgk,rfl,HJ⟩:=hrel;have HGK2:Hid (gk=cn-k):=hgk;clear hgk;by_cases hltk:k<cn
       ·obtain ⟨n1,n2,n3,n4,n5,n6⟩:=part_next (k:=k) HR.out.2.1 hltk HX.out.2.2.2 HR.out.2.2.2;have hcell:∀o,wr.cell? ⟨ab,o,none⟩=w.cell? ⟨ab,o,none⟩:=fun o=>(HJ.out.2.cell (p:=⟨ab,o,none⟩) (by show ab<kb;have:=HC.out.2;omega)).trans (HC.out.1.cell (p:=⟨ab,o,none⟩) habl hnab)
        obtain ⟨-,-,ca2,ca3⟩:=HR.out.2.2.1 (ii+k) (by have:=HX.out.2.2.2;omega);rw [←hcell] at ca2 ca3;obtain ⟨-,-,k2,k3,kf⟩:=HJ.out.1.at;have f2:=kf 2;have f3:=kf 3
        have HS:Hid (KdAt ((wr.setCell ⟨kb,2,none⟩ (.int .i64 ((((l.drop ii).take k).map (·.c)).sum+(l.getD (ii+k) c40).c))).setCell ⟨kb,3,none⟩ (.int .i64 ((((l.drop ii).take k).map (·.d)).sum+(l.getD (ii+k) c40).d))) kb ⟨((b+dl:Nat):Int),(cn:Int),(((l.drop ii).take (k+1)).map (·.c)).sum,(((l.drop ii).take (k+1)).map (·.d)).sum⟩∧Below kb wo ((wr.setCell ⟨kb,2,none⟩ (.int .i64 ((((l.drop ii).take k).map (·.c)).sum+(l.getD (ii+k) c40).c))).setCell ⟨kb,3,none⟩ (.int .i64 ((((l.drop ii).take k).map (·.d)).sum+(l.getD (ii+k) c40).d)))):=by
         rw [n1,n2];exact ⟨(HJ.out.1.set2 _).set3 _,(HJ.out.2.setCell (Nat.le_refl _) _).setCell (Nat.le_refl _) _⟩
        have hiik:ii+k<m:=by have:=HX.out.2.2.2;omega
        clear kf n1 n2 hcell HJ;obtain ⟨sc,hsc⟩:∃sc,(((l.drop ii).take k).map (·.c)).sum=sc:=⟨_,rfl⟩;obtain ⟨sd,hsd⟩:∃sd,(((l.drop ii).take k).map (·.d)).sum=sd:=⟨_,rfl⟩;obtain ⟨xc,hxc⟩:∃xc,(l.getD (ii+k) c40).c=xc:=⟨_,rfl⟩;obtain ⟨xd,hxd⟩:∃xd,(l.getD (ii+k) c40).d=xd:=⟨_,rfl⟩;rw [hsc,hsd,hxc,hxd] at HS;simp only [hsc,hsd,hxc,hxd] at k2 k3 ca2 ca3 n3 n4 n5 n6;clear hsc hsd hxc hxd;have hkbab:¬ab=kb:=by have:=HC.out.2;omega
        go_wp2_with fail
        go_region
        go_wp2_with fail
        go_region
        go_wp2;go_roundg (cn-(k+1))
        case rel=>exact ⟨k+1,by omega,rfl,by go_num,(show _∧_ from ⟨HS.out.1,HS.out.2.drew.drew⟩)⟩
        case measure=>have:=HGK2.out;omega
       ·obtain rfl:k=cn:=by omega
        have hcl:((l.drop ii).take k).length=k:=by rw [List.length_take,List.length_drop,HR.out.2.1];have:=HX.out.2.2.2;omega
        have hlb:layB false 0 ((l.drop ii).take k)=true:=lay_leaf (by rw [hcl];omega) (by rw [hcl];omega) (fun x hx=>HR.out.2.2.2 x (List.mem_of_mem_drop (List.mem_of_mem_take hx)));have hwab:wr.heap[ab]?=w.heap[ab]?:=(HJ.out.2.block ab (by have:=HC.out.2;omega)).trans (HC.out.1.block ab habl hnab);have hlf:=rleaf_v ((l.drop ii).take k) (some ⟨ab,ao+ii*4,none⟩) (c-ii) k wr ((HR.out.1.part ii k (by rw [HR.out.2.1];exact HX.out.2.2.2)).keep1 hwab) hcl 0 (layZ_yes hlb).1 (layZ false 0 ((l.drop ii).take k)) rfl 256 (layZ_len hlb)
        have HQ:Hid (KdAt wr kb (kidOf (b+dl) ((l.drop ii).take k))∧Below kb wo wr∧kb<wr.heap.size):=by
         refine ⟨?_,HJ.out.2,heap_lt HJ.out.1⟩;have:=HJ.out.1;unfold kidOf;rw [hcl];exact this
        have hii2:ii+k≤m:=HX.out.2.2.2;clear HJ hwab;go_wp2_with fail
        refine hlf.mono ?_;clear hlf;rintro e w4 ⟨gz,cz,rfl,hoz,hb4⟩;have hgkb:g<kb:=by have:=HC.out.2;omega
        have hkbw:kb<wr.heap.size:=HQ.out.2.2;have hg4:w4.heap[g]?=wo.heap[g]?:=(hb4.block g (by omega)).trans (HQ.out.2.1.block g hgkb)
        have hly:=(HI.out.2.2.im.kept hg4).lay hN (k:=b+dl) (by omega) (hoz.row' (layZ_bys false 0 _)).2 (layZ_len hlb) (fun x e=>by
         have:=World.ownsRow.lt hoz x.block (by rw [e];rfl);omega)
        have HB4:Hid (Below wr.heap.size wr w4):=hb4;clear hb4 hoz hg4;go_wp2_with fail
        refine (first_v gz 256 cz 0 w4).mono ?_;rintro e w' ⟨rfl,rfl⟩;go_wp2_with fail
        refine hly.mono ?_;clear hly;rintro e w5 ⟨rfl,him,hc5⟩;have HW5:Hid (Below kb wo w'∧Ch w'.heap.size (fun x=>x=g) w' w5∧ImM base w5 g n cap N (putP P' (b+dl) (layZ false 0 ((l.drop ii).take k)))∧kb<w'.heap.size):=⟨HQ.out.2.1.trans (HB4.out.mono (by omega)),hc5,him,by have:=HB4.out.size;omega⟩
        have HK5:Hid (KdAt w5 kb (kidOf (b+dl) ((l.drop ii).take k))∧OwnC 130 w.heap.size w5 u9 (kidsL b D)∧Ch w.heap.size (fun x=>x=g) w w5):=by
         have hs1:=HC.out.2;have hwo:=HKB.out;have hkw:=HW5.out.2.2.2;refine ⟨((hc5.block kb HW5.out.2.2.2 (by omega)).trans (HB4.out.block kb hkbw)).trans HQ.out.1,?_,?_⟩
         ·refine owns_keep HI.out.2.2.kd (fun x hx=>?_);have hlx:=World.ownsRow.lt HI.out.2.2.kd x hx;exact (hc5.block x (by omega) (by omega)).trans (HW5.out.1.block x (by omega))
         ·refine (HC.out.1.trans (Ch.of _ (HW5.out.1.mono hs1))).trans (hc5.mono (by omega) (fun _ _ h=>h))
        obtain ⟨q,hq⟩:∃q,kidOf (b+dl) ((l.drop ii).take k)=q:=⟨_,rfl⟩;rw [hq] at HK5;have HQQ:Hid (kidOf (b+dl) ((l.drop ii).take k)=q):=hq;obtain ⟨z0,z1,z2,z3,-⟩:=HK5.out.1.at;have hs5:=HK5.out.2.2.size;clear hq HQ HB4 hc5 him
        go_wp2_with (at_builtin;refine append_c4n 128 130 Tryz.underlying128 infoK rfl _ _ rfl w.heap.size u9 (kidsL b D) rfl (HK5.out.2.1.below' ((Below.refl _ _).alloc (Nat.le_refl _) _)) q w5.heap.size rfl (at4_new w5 q _) (by rw [kidsL_len,HI.out.1];omega) (Nat.le_trans hs5 (by rw [heap_alloc_size];omega)) dl (by rw [kidsL_len,HI.out.1]) _ rfl ?_;intro b7 c7 w7 ho7 hb7;have H7:Hid (GrM base w w7 g n cap N P b (D++[(l.drop ii).take k]) (.slice b7 (dl+1) c7) (putP P' (b+dl) (layZ false 0 ((l.drop ii).take k)))):=(by
         have hl5:Ch w.heap.size (fun x=>x=g) w w7:=(HK5.out.2.2.alloc hs5 _).trans (Ch.of _ hb7);have hg7:w7.heap[g]?=w5.heap[g]?:=(hb7.block g hgl).trans (heap_alloc_old w5 _ (by omega));have hd:=HI.out.1;have:=HI.out.2.2.next (ch:=(l.drop ii).take k) (w7:=w7) (v':=.slice b7 (dl+1) c7) (by rw [hd];exact HW5.out.2.2.1.kept hg7) (by rw [hd,HQQ.out];exact ho7) hl5;rw [hd] at this;exact this);clear ho7 hb7)
        go_roundg (m-(ii+k))
        case rel=>exact ⟨ii+k,_,_,dl+1,rfl,by omega,by omega,by go_num,by go_num,(show _∧_∧_ from ⟨by simp [HI.out.1],HX.out.1,H7.out⟩)⟩
        case measure=>have:=HGK.out;omega
     ·have hc':cn=20:=by rw [if_neg (by omega)] at hcn;omega
      have q1:min ((m:Int)-(ii:Int)) 20=20:=by omega
      have q2:decide ((m:Int)-(ii:Int)>20)=true:=decide_eq_true (by omega);have q3:decide ((m:Int)-(ii:Int)-20<10)=false:=decide_eq_false (by omega);have HC':Hid (cn=20):=hc';have HV:Hid ((20:Int)=(cn:Int)):=(by show _=_;omega);have q4:(cn:Int)≤20:=by omega
      clear hcn hc';go_wp2_with fail
      simp only [HV.out];obtain ⟨w1,hw1⟩:∃w1,wo.alloc (.cells #[.int .i64 ((b:Int)+(dl:Int)),.int .i64 (cn:Int),.int .i64 0,.int .i64 0] 130)=w1:=⟨_,rfl⟩;rw [hw1]
      have HK0:Hid (KdAt w1 wo.heap.size ⟨((b+dl:Nat):Int),(cn:Int),(((l.drop ii).take 0).map (·.c)).sum,(((l.drop ii).take 0).map (·.d)).sum⟩∧Below wo.heap.size wo w1):=by
       rw [←hw1];refine ⟨?_,(Below.refl _ wo).alloc (Nat.le_refl _) _⟩;unfold KdAt;rw [heap_alloc_new];simp
       try omega
      obtain ⟨kb,hkb⟩:∃kb,wo.heap.size=kb:=⟨_,rfl⟩;rw [hkb] at HK0 ⊢;have HKB:Hid (wo.heap.size=kb):=hkb;have HC:Hid (Ch w.heap.size (fun x=>x=g) w wo∧w.heap.size≤kb):=⟨HI.out.2.2.ch,by rw [←HKB.out];exact HI.out.2.2.ch.size⟩;clear hw1 hkb q1 q2;go_loopg [13] cn (fun gh i wx=>∃k:Nat,k≤cn∧gh=cn-k∧i=.int .i64 ((ii+k:Nat):Int)∧Hid (KdAt wx kb ⟨((b+dl:Nat):Int),(cn:Int),(((l.drop ii).take k).map (·.c)).sum,(((l.drop ii).take k).map (·.d)).sum⟩∧Below kb wo wx))
      case atStart=>exact ⟨0,Nat.zero_le _,rfl,by simp,HK0.out⟩
      case round=>
       clear HK0;obtain ⟨k,hk,hgk,rfl,HJ⟩:=hrel;have HGK2:Hid (gk=cn-k):=hgk;clear hgk;by_cases hltk:k<cn
       ·obtain ⟨n1,n2,n3,n4,n5,n6⟩:=part_next (k:=k) HR.out.2.1 hltk HX.out.2.2.2 HR.out.2.2.2;have hcell:∀o,wr.cell? ⟨ab,o,none⟩=w.cell? ⟨ab,o,none⟩:=fun o=>(HJ.out.2.cell (p:=⟨ab,o,none⟩) (by show ab<kb;have:=HC.out.2;omega)).trans (HC.out.1.cell (p:=⟨ab,o,none⟩) habl hnab)
        obtain ⟨-,-,ca2,ca3⟩:=HR.out.2.2.1 (ii+k) (by have:=HX.out.2.2.2;omega);rw [←hcell] at ca2 ca3;obtain ⟨-,-,k2,k3,kf⟩:=HJ.out.1.at;have f2:=kf 2;have f3:=kf 3
        have HS:Hid (KdAt ((wr.setCell ⟨kb,2,none⟩ (.int .i64 ((((l.drop ii).take k).map (·.c)).sum+(l.getD (ii+k) c40).c))).setCell ⟨kb,3,none⟩ (.int .i64 ((((l.drop ii).take k).map (·.d)).sum+(l.getD (ii+k) c40).d))) kb ⟨((b+dl:Nat):Int),(cn:Int),(((l.drop ii).take (k+1)).map (·.c)).sum,(((l.drop ii).take (k+1)).map (·.d)).sum⟩∧Below kb wo ((wr.setCell ⟨kb,2,none⟩ (.int .i64 ((((l.drop ii).take k).map (·.c)).sum+(l.getD (ii+k) c40).c))).setCell ⟨kb,3,none⟩ (.int .i64 ((((l.drop ii).take k).map (·.d)).sum+(l.getD (ii+k) c40).d)))):=by
         rw [n1,n2];exact ⟨(HJ.out.1.set2 _).set3 _,(HJ.out.2.setCell (Nat.le_refl _) _).setCell (Nat.le_refl _) _⟩
        have hiik:ii+k<m:=by have:=HX.out.2.2.2;omega
        clear kf n1 n2 hcell HJ;obtain ⟨sc,hsc⟩:∃sc,(((l.drop ii).take k).map (·.c)).sum=sc:=⟨_,rfl⟩;obtain ⟨sd,hsd⟩:∃sd,(((l.drop ii).take k).map (·.d)).sum=sd:=⟨_,rfl⟩;obtain ⟨xc,hxc⟩:∃xc,(l.getD (ii+k) c40).c=xc:=⟨_,rfl⟩;obtain ⟨xd,hxd⟩:∃xd,(l.getD (ii+k) c40).d=xd:=⟨_,rfl⟩;rw [hsc,hsd,hxc,hxd] at HS;simp only [hsc,hsd,hxc,hxd] at k2 k3 ca2 ca3 n3 n4 n5 n6;clear hsc hsd hxc hxd;have hkbab:¬ab=kb:=by have:=HC.out.2;omega
        go_wp2_with fail
        go_region
        go_wp2_with fail
        go_region
        go_wp2;go_roundg (cn-(k+1))
        case rel=>exact ⟨k+1,by omega,rfl,by go_num,(show _∧_ from ⟨HS.out.1,HS.out.2.drew.drew⟩)⟩
        case measure=>have:=HGK2.out;omega
       ·obtain rfl:k=cn:=by omega
        have hcl:((l.drop ii).take k).length=k:=by rw [List.length_take,List.length_drop,HR.out.2.1];have:=HX.out.2.2.2;omega
        have hlb:layB false 0 ((l.drop ii).take k)=true:=lay_leaf (by rw [hcl];omega) (by rw [hcl];omega) (fun x hx=>HR.out.2.2.2 x (List.mem_of_mem_drop (List.mem_of_mem_take hx)));have hwab:wr.heap[ab]?=w.heap[ab]?:=(HJ.out.2.block ab (by have:=HC.out.2;omega)).trans (HC.out.1.block ab habl hnab);have hlf:=rleaf_v ((l.drop ii).take k) (some ⟨ab,ao+ii*4,none⟩) (c-ii) k wr ((HR.out.1.part ii k (by rw [HR.out.2.1];exact HX.out.2.2.2)).keep1 hwab) hcl 0 (layZ_yes hlb).1 (layZ false 0 ((l.drop ii).take k)) rfl 256 (layZ_len hlb)
        have HQ:Hid (KdAt wr kb (kidOf (b+dl) ((l.drop ii).take k))∧Below kb wo wr∧kb<wr.heap.size):=by
         refine ⟨?_,HJ.out.2,heap_lt HJ.out.1⟩;have:=HJ.out.1;unfold kidOf;rw [hcl];exact this
        have hii2:ii+k≤m:=HX.out.2.2.2;clear HJ hwab;go_wp2_with fail
        refine hlf.mono ?_;clear hlf;rintro e w4 ⟨gz,cz,rfl,hoz,hb4⟩;have hgkb:g<kb:=by have:=HC.out.2;omega
        have hkbw:kb<wr.heap.size:=HQ.out.2.2;have hg4:w4.heap[g]?=wo.heap[g]?:=(hb4.block g (by omega)).trans (HQ.out.2.1.block g hgkb)
        have hly:=(HI.out.2.2.im.kept hg4).lay hN (k:=b+dl) (by omega) (hoz.row' (layZ_bys false 0 _)).2 (layZ_len hlb) (fun x e=>by
         have:=World.ownsRow.lt hoz x.block (by rw [e];rfl);omega)
        have HB4:Hid (Below wr.heap.size wr w4):=hb4;clear hb4 hoz hg4;go_wp2_with fail
        refine (first_v gz 256 cz 0 w4).mono ?_;rintro e w' ⟨rfl,rfl⟩;go_wp2_with fail
        refine hly.mono ?_;clear hly;rintro e w5 ⟨rfl,him,hc5⟩;have HW5:Hid (Below kb wo w'∧Ch w'.heap.size (fun x=>x=g) w' w5∧ImM base w5 g n cap N (putP P' (b+dl) (layZ false 0 ((l.drop ii).take k)))∧kb<w'.heap.size):=⟨HQ.out.2.1.trans (HB4.out.mono (by omega)),hc5,him,by have:=HB4.out.size;omega⟩
        have HK5:Hid (KdAt w5 kb (kidOf (b+dl) ((l.drop ii).take k))∧OwnC 130 w.heap.size w5 u9 (kidsL b D)∧Ch w.heap.size (fun x=>x=g) w w5):=by
         have hs1:=HC.out.2;have hwo:=HKB.out;have hkw:=HW5.out.2.2.2;refine ⟨((hc5.block kb HW5.out.2.2.2 (by omega)).trans (HB4.out.block kb hkbw)).trans HQ.out.1,?_,?_⟩
         ·refine owns_keep HI.out.2.2.kd (fun x hx=>?_);have hlx:=World.ownsRow.lt HI.out.2.2.kd x hx;exact (hc5.block x (by omega) (by omega)).trans (HW5.out.1.block x (by omega))
         ·refine (HC.out.1.trans (Ch.of _ (HW5.out.1.mono hs1))).trans (hc5.mono (by omega) (fun _ _ h=>h))
        obtain ⟨q,hq⟩:∃q,kidOf (b+dl) ((l.drop ii).take k)=q:=⟨_,rfl⟩;rw [hq] at HK5;have HQQ:Hid (kidOf (b+dl) ((l.drop ii).take k)=q):=hq;obtain ⟨z0,z1,z2,z3,-⟩:=HK5.out.1.at;have hs5:=HK5.out.2.2.size;clear hq HQ HB4 hc5 him
        go_wp2_with (at_builtin;refine append_c4n 128 130 Tryz.underlying128 infoK rfl _ _ rfl w.heap.size u9 (kidsL b D) rfl (HK5.out.2.1.below' ((Below.refl _ _).alloc (Nat.le_refl _) _)) q w5.heap.size rfl (at4_new w5 q _) (by rw [kidsL_len,HI.out.1];omega) (Nat.le_trans hs5 (by rw [heap_alloc_size];omega)) dl (by rw [kidsL_len,HI.out.1]) _ rfl ?_;intro b7 c7 w7 ho7 hb7;have H7:Hid (GrM base w w7 g n cap N P b (D++[(l.drop ii).take k]) (.slice b7 (dl+1) c7) (putP P' (b+dl) (layZ false 0 ((l.drop ii).take k)))):=(by
         have hl5:Ch w.heap.size (fun x=>x=g) w w7:=(HK5.out.2.2.alloc hs5 _).trans (Ch.of _ hb7);have hg7:w7.heap[g]?=w5.heap[g]?:=(hb7.block g hgl).trans (heap_alloc_old w5 _ (by omega));have hd:=HI.out.1;have:=HI.out.2.2.next (ch:=(l.drop ii).take k) (w7:=w7) (v':=.slice b7 (dl+1) c7) (by rw [hd];exact HW5.out.2.2.1.kept hg7) (by rw [hd,HQQ.out];exact ho7) hl5;rw [hd] at this;exact this);clear ho7 hb7)
        go_roundg (m-(ii+k))
        case rel=>exact ⟨ii+k,_,_,dl+1,rfl,by omega,by omega,by go_num,by go_num,(show _∧_∧_ from ⟨by simp [HI.out.1],HX.out.1,H7.out⟩)⟩
        case measure=>have:=HGK.out;omega
   ·obtain rfl:ii=m:=by omega
    have hfl:D.flatten=l:=by rw [HI.out.2.1.fl,←HR.out.2.1,List.take_length]
    have hd0:1≤dl:=by have:=HI.out.2.1.z0;have:=HI.out.1;omega
    have hdc:dl*20≤ii+19:=by have:=HI.out.2.1.cnt;have:=HI.out.1;omega
    have hfo:∀x∈D.flatten,okC false x=true:=by rw [hfl];exact HR.out.2.2.2
    have hkok:∀q∈kidsL b D,wfC q:=kidsL_wf D b HI.out.2.1.sz hfo (by rw [HI.out.1];omega);obtain ⟨ak,ck,hv,hrk,-⟩:=HI.out.2.2.kd.row hkok;rw [kidsL_len,HI.out.1] at hv;subst hv;obtain ⟨kb,ko,rfl⟩:=hrk.some' (by rw [kidsL_len,HI.out.1];omega);have hck1:=hrk.2.1;have hck2:=hrk.2.2.1;rw [kidsL_len,HI.out.1] at hck1;unfold maxLen at hck2;by_cases hd1:dl=1
    ·obtain ⟨c0,hD⟩:∃c0,D=[c0]:=by
      have:=HI.out.1
      match D,this with
      |[x],_=>exact ⟨x,rfl⟩
      |[],h=>simp at h;omega
      |x::y::z,h=>simp at h;omega
     have z0:=(hrk.cells 0 (by rw [kidsL_len,HI.out.1];omega)).1;rw [hD] at z0;have z0':wr.cell? ⟨kb,ko,none⟩=some (.int .i64 ((b:Nat):Int)):=by simpa [kidsL,kidOf] using z0
     have HE:Hid (GrE base w g n cap N P l b (.returned (.tuple #[.int .i64 ((b:Nat):Int),.int .i64 ((1:Nat):Int),.int .i64 ((b+1:Nat):Int)])) wr):=by
      have hpg:=HI.out.2.2.pg 0 (by rw [HI.out.1];omega);have hsz:=HI.out.2.1.sz c0 (by rw [hD];simp);have hfar:=HI.out.2.2.far;rw [hD] at hpg hfl hfar;have hlc:c0=l:=by simpa using hfl
      refine ⟨b,1,b+1,P',rfl,HI.out.2.2.im,.inr (.inl ⟨by rw [HR.out.2.1];omega,by rw [←hlc];exact hsz,rfl,rfl,rfl,by simpa [hlc] using hpg⟩),by rw [HR.out.2.1];omega,fun j hj=>hfar j (by simpa using hj),HI.out.2.2.ch⟩
     subst hd1;clear HI hrk hkok hfl z0 hfo;go_wp2;go_ret3
     exact HE.out
    ·have hall:∀c∈D,10≤c.length∧c.length≤20:=fun x hx=>by
      refine ⟨?_,HI.out.2.1.sz x hx⟩;rcases HI.out.2.1.lo with h|h
      ·exact h x hx
      ·have:=HI.out.1;omega
     have hkb:layB true 1 (kidsL b D)=true:=by
      unfold layB;rw [Bool.and_eq_true,List.all_eq_true,kidsL_len];refine ⟨takes_iff.2 ⟨by decide,?_⟩,kidsL_ok D b hall hfo h2 (by rw [HI.out.1];omega)⟩;rw [HI.out.1];show 1≤(dl:Int)∧(dl:Int)≤12;omega
     have hin:=rinner_v 1 (kidsL b D) (some ⟨kb,ko,none⟩) ck dl wr hrk (by rw [kidsL_len,HI.out.1]) 0 (layZ_yes hkb).1 (layZ true 1 (kidsL b D)) rfl 256 (layZ_len hkb);have hd1':((dl:Int)==1)=false:=by rw [beq_eq_false_iff_ne];omega
     have HF:Hid (D.flatten=l∧(∀c∈D,10≤c.length∧c.length≤20)∧layB true 1 (kidsL b D)=true):=⟨hfl,hall,hkb⟩;have hsz:=HI.out.2.2.ch.size;clear hfl hall hkb hkok hfo;go_wp2_with fail
     refine hin.mono ?_;clear hin;rintro e w4 ⟨gz,cz,rfl,hoz,hb4⟩
     have hly:=(HI.out.2.2.im.kept (w':=w4) (hb4.block g (by omega))).lay hN (k:=b+dl) (by omega) (hoz.row' (layZ_bys true 1 _)).2 (layZ_len HF.out.2.2) (fun x e=>by
      have:=World.ownsRow.lt hoz x.block (by rw [e];rfl);omega)
     have HB4:Hid (Below wr.heap.size wr w4):=hb4;clear hb4 hoz;go_wp2_with fail
     refine (first_v gz 256 cz 0 w4).mono ?_;rintro e w' ⟨rfl,rfl⟩;go_wp2_with fail
     refine hly.mono ?_;clear hly;rintro e w5 ⟨rfl,him,hc5⟩
     have HE:Hid (GrE base w g n cap N P l b (.returned (.tuple #[.int .i64 ((b+dl:Nat):Int),.int .i64 ((2:Nat):Int),.int .i64 ((b+dl+1:Nat):Int)])) w5):=by
      have hd:=HI.out.1;refine ⟨b+dl,2,b+dl+1,_,rfl,him,.inr (.inr ⟨D,HF.out.1,by omega,by omega,HF.out.2.1,by omega,rfl,by omega,fun i hi=>?_,?_⟩),by rw [HR.out.2.1];omega,fun j hj=>?_,?_⟩
      ·unfold putP;rw [if_neg (by omega)];exact HI.out.2.2.pg i hi
      ·unfold putP;rw [if_pos (by omega)]
      ·unfold putP;rw [if_neg (by omega)];exact HI.out.2.2.far j (by omega)
      ·have:=HB4.out.size;exact (HI.out.2.2.ch.trans (Ch.of _ (HB4.out.mono hsz))).trans (hc5.mono (by omega) (fun _ _ h=>h))
     clear HI hrk him hc5 HF;go_wp2;go_ret3
     exact HE.out
theorem and1023' (n:Int):0≤bits .and .i64 n 1023∧bits .and .i64 n 1023≤1023:=by
 have h:bits .and .i64 n 1023=IntKind.i64.wrap ((BitVec.ofInt 64 n &&& BitVec.ofInt 64 1023).toNat:Int):=rfl
 have hb:(BitVec.ofInt 64 n &&& BitVec.ofInt 64 1023).toNat≤1023:=by
  rw [BitVec.toNat_and];exact Nat.le_trans Nat.and_le_right (by decide)
 rw [h,IntKind.wrap_i64];omega
def txK (i n k:Nat):List Int:=(txt i n).take k++List.replicate (n-k) 0
theorem txK_zero (i n:Nat):txK i n 0=List.replicate n 0:=by simp [txK]
theorem txK_all (i n:Nat):txK i n n=txt i n:=by
 unfold txK;rw [List.take_of_length_le (by rw [txt_len];exact Nat.le_refl _),Nat.sub_self,List.replicate_zero,List.append_nil]
theorem txK_len {i n k:Nat} (h:k≤n):(txK i n k).length=n:=by
 simp only [txK,List.length_append,List.length_take,List.length_replicate,txt_len];omega
theorem txt_at {i n k:Nat} (h:k<n):(txt i n).getD k 0=if (i+k)%5=4 then 10 else 97+((i%20:Nat):Int):=by
 unfold txt;simp [List.getD_eq_getElem?_getD,h]
theorem txK_set {i n k:Nat} (h:k<n):(txK i n k).set k ((txt i n).getD k 0)=txK i n (k+1):=by
 have h1:((txt i n).take k).length=k:=by rw [List.length_take,txt_len];omega
 have h2:k<(txt i n).length:=by rw [txt_len];exact h
 unfold txK;rw [List.set_append_right _ _ (by omega),h1,Nat.sub_self,List.take_succ_eq_append_getElem h2,List.append_assoc,List.getD_eq_getElem?_getD,List.getElem?_eq_getElem h2,Option.getD_some,show n-k=(n-(k+1))+1 from by omega,List.replicate_succ,List.set_cons_zero];rfl
def txP (zs:List Int) (i:Nat):Nat→List Int:=fun j=>if 2≤j∧j<2+i then bytZ (txt (j-2) (szn (zs.getD (j-2) 0))) else List.replicate 256 0
theorem txP_zero (zs:List Int):txP zs 0=fun _=>List.replicate 256 0:=by
 funext j
 unfold txP;rw [if_neg (by omega)]
theorem txP_succ (zs:List Int) (i:Nat):putP (txP zs i) (2+i) (bytZ (txt i (szn (zs.getD i 0))))=txP zs (i+1):=by
 funext j
 unfold putP txP;by_cases h:j=2+i
 ·rw [if_pos h,if_pos (by omega),show j-2=i from by omega]
 ·rw [if_neg h];by_cases h2:2≤j∧j<2+i
  ·rw [if_pos h2,if_pos (by omega)]
  ·rw [if_neg h2,if_neg (by omega)]
def SpAt (w:World) (b:Nat) (S:Sp):Prop:=w.heap[b]?=some (.cells #[.int .i64 S.g,.int .i64 S.p,.int .i64 S.r,.int .i64 S.h,.int .i64 S.b,.int .i64 S.l,.int .i64 S.s,.int .i64 S.f] 28 (0,0))
theorem SpAt.cell {w:World} {b:Nat} {S:Sp} (h:SpAt w b S):w.cell? ⟨b,0,none⟩=some (.int .i64 S.g)∧w.cell? ⟨b,1,none⟩=some (.int .i64 S.p)∧w.cell? ⟨b,2,none⟩=some (.int .i64 S.r)∧w.cell? ⟨b,3,none⟩=some (.int .i64 S.h)∧w.cell? ⟨b,4,none⟩=some (.int .i64 S.b)∧w.cell? ⟨b,5,none⟩=some (.int .i64 S.l)∧w.cell? ⟨b,6,none⟩=some (.int .i64 S.s)∧w.cell? ⟨b,7,none⟩=some (.int .i64 S.f):=by
 have hc:∀i,w.cell? ⟨b,i,none⟩=_:=fun i=>cell_of_row w b i _ _ (0,0) h
 refine ⟨?_,?_,?_,?_,?_,?_,?_,?_⟩<;>rw [hc]<;>rfl
theorem SpAt.frz {w:World} {b:Nat} {S:Sp} (h:SpAt w b S) (i:Nat):w.frozen? ⟨b,i,none⟩=false:=by
 unfold World.frozen?;rw [h];simp
theorem SpAt.set0 {w:World} {b:Nat} {S:Sp} (h:SpAt w b S) (x:Int):SpAt (w.setCell ⟨b,0,none⟩ (.int .i64 x)) b {S with g:=x}:=by unfold SpAt;rw [setCell_heap _ _ _ _ _ _ _ h];rfl
theorem SpAt.set1 {w:World} {b:Nat} {S:Sp} (h:SpAt w b S) (x:Int):SpAt (w.setCell ⟨b,1,none⟩ (.int .i64 x)) b {S with p:=x}:=by unfold SpAt;rw [setCell_heap _ _ _ _ _ _ _ h];rfl
theorem SpAt.set2 {w:World} {b:Nat} {S:Sp} (h:SpAt w b S) (x:Int):SpAt (w.setCell ⟨b,2,none⟩ (.int .i64 x)) b {S with r:=x}:=by unfold SpAt;rw [setCell_heap _ _ _ _ _ _ _ h];rfl
theorem SpAt.set3 {w:World} {b:Nat} {S:Sp} (h:SpAt w b S) (x:Int):SpAt (w.setCell ⟨b,3,none⟩ (.int .i64 x)) b {S with h:=x}:=by unfold SpAt;rw [setCell_heap _ _ _ _ _ _ _ h];rfl
theorem SpAt.set4 {w:World} {b:Nat} {S:Sp} (h:SpAt w b S) (x:Int):SpAt (w.setCell ⟨b,4,none⟩ (.int .i64 x)) b {S with b:=x}:=by unfold SpAt;rw [setCell_heap _ _ _ _ _ _ _ h];rfl
theorem SpAt.set5 {w:World} {b:Nat} {S:Sp} (h:SpAt w b S) (x:Int):SpAt (w.setCell ⟨b,5,none⟩ (.int .i64 x)) b {S with l:=x}:=by unfold SpAt;rw [setCell_heap _ _ _ _ _ _ _ h];rfl
theorem SpAt.set6 {w:World} {b:Nat} {S:Sp} (h:SpAt w b S) (x:Int):SpAt (w.setCell ⟨b,6,none⟩ (.int .i64 x)) b {S with s:=x}:=by unfold SpAt;rw [setCell_heap _ _ _ _ _ _ _ h];rfl
theorem SpAt.set7 {w:World} {b:Nat} {S:Sp} (h:SpAt w b S) (x:Int):SpAt (w.setCell ⟨b,7,none⟩ (.int .i64 x)) b {S with f:=x}:=by unfold SpAt;rw [setCell_heap _ _ _ _ _ _ _ h];rfl
def wrS (w:World) (B:Nat) (T:Sp):World:=(((((((w.setCell ⟨B,0,none⟩ (.int .i64 T.g)).setCell ⟨B,1,none⟩ (.int .i64 T.p)).setCell ⟨B,2,none⟩ (.int .i64 T.r)).setCell ⟨B,3,none⟩ (.int .i64 T.h)).setCell ⟨B,4,none⟩ (.int .i64 T.b)).setCell ⟨B,5,none⟩ (.int .i64 T.l)).setCell ⟨B,6,none⟩ (.int .i64 T.s)).setCell ⟨B,7,none⟩ (.int .i64 T.f)
theorem wrS_same (w:World) (B:Nat) (T:Sp) (j:Nat) (h:j≠B):(wrS w B T).heap[j]?=w.heap[j]?:=by
 have ne:∀i,j≠(⟨B,i,none⟩:Addr).block:=fun i=>h
 unfold wrS;rw [Below.heap_setCell _ _ _ _ (ne 7),Below.heap_setCell _ _ _ _ (ne 6),Below.heap_setCell _ _ _ _ (ne 5),Below.heap_setCell _ _ _ _ (ne 4),Below.heap_setCell _ _ _ _ (ne 3),Below.heap_setCell _ _ _ _ (ne 2),Below.heap_setCell _ _ _ _ (ne 1),Below.heap_setCell _ _ _ _ (ne 0)]
theorem wrS_below {w0 w:World} {B C:Nat} (h:Below C w0 w) (hC:C≤B) (T:Sp):Below C w0 (wrS w B T):=
 (((((((h.setCell (p:=⟨B,0,none⟩) hC _).setCell (p:=⟨B,1,none⟩) hC _).setCell (p:=⟨B,2,none⟩) hC _).setCell (p:=⟨B,3,none⟩) hC _).setCell (p:=⟨B,4,none⟩) hC _).setCell (p:=⟨B,5,none⟩) hC _).setCell (p:=⟨B,6,none⟩) hC _).setCell (p:=⟨B,7,none⟩) hC _
theorem SpAt.wrS {w:World} {b:Nat} {S:Sp} (h:SpAt w b S) (T:Sp):SpAt (wrS w b T) b T:=by
 unfold Oct.wrS;exact (((((((h.set0 T.g).set1 T.p).set2 T.r).set3 T.h).set4 T.b).set5 T.l).set6 T.s).set7 T.f
theorem SpAt.drew {w:World} {b:Nat} {S:Sp} (h:SpAt w b S):SpAt w.drew b S:=h
theorem own_drew1 {base g n cap:Nat} {w:World} {zs:List Int} (h:Own base w (.slice (some ⟨g,0,none⟩) n cap) zs):Own base w.drew (.slice (some ⟨g,0,none⟩) n cap) zs:=h
theorem results_tmprow {P:Program} {fn:Func} {u p:Tmp} {ty:TypeId} (h:fn.results= #[.tmp u,.cell p ty]) (tmps:Array Value) (w:World) (g:Nat) (t:TypeId) (cs:Array Value) (fr:Nat × Nat) (d:TypeDesc)
  (hp:tmps.getD p undef=.pointer (some ⟨g,0,none⟩)) (hg:w.heap[g]?=some (.cells cs t fr))
  (hu:P.underlying ty=some d) (hd:(match d with| .struct _| .array _ _=>true|_=>false)=true) (hi:(P.info? ty).map (·.size)=some cs.size):
  (results fn tmps).run P w=.ok (.tuple #[tmps.getD u undef,.agg cs]) w:=by
 have hp':tmps[p]?.getD undef=.pointer (some ⟨g,0,none⟩):=by simpa using hp
 simp [results,h,hp',asAddr,run_loadVar_row w g t ty cs fr d hg hu hd hi]
theorem Tre.mono {P P':Nat→List Int} {l:List C4} {a r h b:Nat} (ht:Tre P l a r h b) (hp:∀j,a≤j→j<b→P' j=P j):Tre P' l a r h b:=by
 rcases ht with h1|⟨h1,h2,h3,h4,h5,h6⟩|⟨D,h1,h2,h3,h4,h5,h6,h7,h8,h9⟩
 ·exact .inl h1
 ·exact .inr (.inl ⟨h1,h2,h3,h4,h5,by rw [hp a (Nat.le_refl _) (by omega)];exact h6⟩)
 ·exact .inr (.inr ⟨D,h1,h2,h3,h4,h5,h6,h7,fun i hi=>by rw [hp _ (by omega) (by omega)];exact h8 i hi,by rw [hp _ (by omega) (by omega)];exact h9⟩)
theorem Tre.facts {P:Nat→List Int} {l:List C4} {a r h b:Nat} (ht:Tre P l a r h b) (ha:2≤a):a≤b∧(r=0↔l.length=0)∧(h=0↔r=0)∧h≤2∧(r=0∨(2≤r∧r<b)):=by
 rcases ht with ⟨rfl,rfl,rfl,rfl⟩|⟨h1,h2,rfl,rfl,rfl,hp⟩|⟨D,rfl,h1,h2,hc,rfl,rfl,rfl,hp,hq⟩
 ·simp
 ·omega
 ·have h0:0<D.length:=by omega
  have hc0:=hc (D[0]) (List.getElem_mem h0)
  have hlen:D.flatten.length≠0:=by
   intro e;have he:=List.flatten_eq_nil_iff.1 (List.length_eq_zero_iff.1 e) _ (List.getElem_mem h0);rw [he] at hc0;simp at hc0
  omega
theorem bd_okS {N k r h b q fb:Nat} {g0 sv:Int} {P:Nat→List Int} {zs:List Int} (ht:Tre P (pcU zs k) (2+k) r h b) (hk:k≤4000) (h8:8≤N) (h4:N≤4096) (hg:0≤g0∧g0≤1023) (hfb:b+ned q=fb) (hN:fb+1≤N) (hsv:(if q=0 then (0:Int) else ((b:Nat):Int))=sv):
  okS ⟨1+g0,(N:Int),(r:Int),(h:Int),((pcU zs k).map (·.c)).sum,((pcU zs k).map (·.d)).sum,sv,(fb:Int)⟩=true:=by
 obtain ⟨hab,hr0,hh0,hh2,hrb⟩:=ht.facts (by omega);have hsum:=sum_le (pcU_ok zs hk);rw [pcU_len] at hsum hr0;rw [okS_all];intro i hi;rcases eight hi with rfl|rfl|rfl|rfl|rfl|rfl|rfl|rfl<;>simp only [fitS,ldB,decide_eq_true_eq]
 ·omega
 ·omega
 ·omega
 ·omega
 ·omega
 ·omega
 ·by_cases h0:q=0
  ·rw [if_pos h0] at hsv;omega
  ·rw [if_neg h0] at hsv;have:=ned_pos (n:=q) (by omega);omega
 ·omega
theorem bd_make {N k r h b q fb nb:Nat} {g0 sv:Int} {P2:Nat→List Int} {zs st:List Int} {S:Sp} (ht:Tre P2 (pcU zs k) (2+k) r h b) (hfar:∀j,(j<2+k∨b≤j)→P2 j=txP zs k j) (hzk:zs.length=k) (hst:st.length=q) (hbs:Bys st) (hk:k≤4000) (h8:8≤N) (h4:N≤4096) (hg:0≤g0∧g0≤1023) (hfb:b+ned q=fb) (hnb:(N+7)/8=nb) (hN:fb+ned nb≤N) (hsv:(if q=0 then (0:Int) else ((b:Nat):Int))=sv)
  (hS:(⟨1+g0,(N:Int),(r:Int),(h:Int),((pcU zs k).map (·.c)).sum,((pcU zs k).map (·.d)).sum,sv,(fb:Int)⟩:Sp)=S):
  Bd N (1+g0).toNat (putP (chaK (chaK P2 st b (ned q)) (bitsP (fun j=>decide (j<fb+ned nb)) N) fb (ned nb)) 0 (enZ S)) zs st S r h b:=by
 obtain ⟨hab,hr0,hh0,hh2,hrb⟩:=ht.facts (by omega);subst hzk hst hfb hnb;have hbl:(bitsP (fun j=>decide (j<b+ned st.length+ned ((N+7)/8))) N).length=(N+7)/8:=bitsP_len _ _
 have low:∀j,¬j=0→j<b→putP (chaK (chaK P2 st b (ned st.length)) (bitsP (fun j=>decide (j<b+ned st.length+ned ((N+7)/8))) N) (b+ned st.length) (ned ((N+7)/8))) 0 (enZ S) j=P2 j:=fun j h0 h1=>by
  unfold putP chaK;rw [if_neg h0,if_neg (by omega),if_neg (by omega)]
 refine ⟨fun i hi=>?_,ht.mono fun j h1 h2=>low j (by omega) h2,fun i hi=>?_,fun i hi=>?_,hN,?_,?_,?_,by omega,by omega,h8,h4,hk,hbs⟩
 ·rw [low _ (by omega) (by omega),hfar _ (.inl (by omega))];unfold txP;rw [if_pos (by omega),show 2+i-2=i from by omega]
 ·have:=cha_chaK P2 st b i hi;unfold putP;rw [if_neg (by omega)];unfold chaK at this ⊢;rw [if_neg (by omega)];exact this
 ·have:=cha_chaK (chaK P2 st b (ned st.length)) (bitsP (fun j=>decide (j<b+ned st.length+ned ((N+7)/8))) N) (b+ned st.length) i hi;unfold putP;rw [if_neg (by omega)];rw [hbl] at this ⊢;exact this
 ·unfold putP;rw [if_pos rfl]
 ·rw [low 1 (by omega) (by omega),hfar 1 (.inl (by omega))];unfold txP;rw [if_neg (by omega)]
 ·rw [←hS,←hsv];have:((1+g0).toNat:Int)=1+g0:=by omega
  rw [this];rfl
structure BdI (base:Nat) (w0 wr:World) (gb n cap N:Nat) (zs:List Int) (i:Nat) (v:Value):Prop where
 im:ImM base wr gb n cap N (txP zs i)
 pc:OwnC 72 w0.heap.size wr v (pcU zs i)
 ch:Ch w0.heap.size (fun x=>x=gb) w0 wr
end Go.Proofs.YtjllhcifmfhkmaaGreat.Oct
