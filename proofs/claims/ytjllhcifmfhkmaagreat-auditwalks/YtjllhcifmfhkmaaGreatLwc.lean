/- Part of a proof. -/
import Derived.Test.YtjllhcifmfhkmaaGreatBu
import Derived.Test.YtjllhcifmfhkmaaGreatYj
import Derived.Test.YtjllhcifmfhkmaaGreatYm
import Derived.Test.YtjllhcifmfhkmaaGreatBw
import Derived.Test.YtjllhcifmfhkmaaGreatYd
import Derived.Test.YtjllhcifmfhkmaaGreatUg
set_option maxHeartbeats 8000000
namespace Go.Proofs.YtjllhcifmfhkmaaGreat.Oct
open Go.RowKit
def chn (r:Nat):Nat:=if 20<r∧r<30 then 10 else min r 20
structure GrI (l:List C4) (m i:Nat) (D:List (List C4)):Prop where
 fl:D.flatten=l.take i
 le:i≤m
 sz:∀c∈D,c.length≤20
 lo:(∀c∈D,10≤c.length)∨(i=m∧D.length=1)
 rest:i=0∨i=m∨10≤m-i
 z0:D.length=0↔i=0
 cnt:D.length*20=i∨(D.length*20=i+10∧11≤m-i∧m-i≤19)∨(i=m∧D.length*20≤m+19)
theorem chn_bd {r:Nat} (h:0<r):1≤chn r∧chn r≤20∧chn r≤r:=by unfold chn;split<;>omega
theorem GrI.next {l:List C4} {m i:Nat} {D:List (List C4)} (h:GrI l m i D) (hm:l.length=m) (hi:i<m):GrI l m (i+chn (m-i)) (D++[(l.drop i).take (chn (m-i))]):=by
 obtain ⟨fl,le,sz,lo,rest,z0,cnt⟩:=h;have hb:=chn_bd (r:=m-i) (by omega);have hlen:((l.drop i).take (chn (m-i))).length=chn (m-i):=by rw [List.length_take,List.length_drop];omega
 have hall:∀c∈D,10≤c.length:=by
  rcases lo with h|h
  ·exact h
  ·omega
 refine ⟨?_,by omega,fun c hc=>?_,?_,?_,by simp;omega,?_⟩
 ·rw [List.flatten_append,fl,List.flatten_singleton,List.take_add]
 ·rcases List.mem_append.1 hc with h|h
  ·exact sz c h
  ·rw [List.mem_singleton.1 h,hlen];exact hb.2.1
 ·by_cases h10:10≤chn (m-i)
  ·left;intro c hc;rcases List.mem_append.1 hc with h|h
   ·exact hall c h
   ·rw [List.mem_singleton.1 h,hlen];exact h10
  ·right;have hx:¬(20<m-i∧m-i<30):=fun h=>h10 (by unfold chn;rw [if_pos h];omega)
   have:chn (m-i)=m-i:=by unfold chn at h10 ⊢;rw [if_neg hx] at h10 ⊢;omega
   simp only [List.length_append,List.length_singleton];omega
 ·unfold chn;split<;>omega
 ·simp only [List.length_append,List.length_singleton];unfold chn;split<;>omega
structure GrM (base:Nat) (w wr:World) (g n cap N:Nat) (P:Nat→List Int) (b:Nat) (D:List (List C4)) (v:Value) (P':Nat→List Int):Prop where
 kd:OwnC 130 w.heap.size wr v (kidsL b D)
 im:ImM base wr g n cap N P'
 far:∀j,(j<b∨b+D.length≤j)→P' j=P j
 pg:∀k,k<D.length→P' (b+k)=layZ false 0 (D.getD k [])
 ch:Ch w.heap.size (fun x=>x=g) w wr
theorem GrM.next {base g n cap N b:Nat} {w wo w7:World} {P P':Nat→List Int} {D:List (List C4)} {v v':Value} {ch:List C4} (h:GrM base w wo g n cap N P b D v P') (him:ImM base w7 g n cap N (putP P' (b+D.length) (layZ false 0 ch))) (hkd:OwnC 130 w.heap.size w7 v' (kidsL b D++[kidOf (b+D.length) ch])) (hch:Ch w.heap.size (fun x=>x=g) w w7):GrM base w w7 g n cap N P b (D++[ch]) v' (putP P' (b+D.length) (layZ false 0 ch)):=by
 refine ⟨by rw [kidsL_snoc];exact hkd,him,fun j hj=>?_,fun k hk=>?_,hch⟩
 ·rw [List.length_append,List.length_singleton] at hj;unfold putP;rw [if_neg (by omega)];exact h.far j (by omega)
 ·rw [List.length_append,List.length_singleton] at hk;unfold putP;by_cases e:k=D.length
  ·rw [if_pos (by omega),e,List.getD_eq_getElem?_getD,List.getElem?_append_right (Nat.le_refl _)];simp
  ·rw [if_neg (by omega),h.pg k (by omega),List.getD_eq_getElem?_getD,List.getD_eq_getElem?_getD,List.getElem?_append_left (by omega)]
theorem RowC.keep1 {w w':World} {b off cap:Nat} {l:List C4} (h:RowC w (some ⟨b,off,none⟩) cap l) (k:w'.heap[b]?=w.heap[b]?):RowC w' (some ⟨b,off,none⟩) cap l:=by
 obtain ⟨h0,h1,h2,h3⟩:=h;refine ⟨h0,h1,h2,?_⟩;rcases h3 with h3|⟨b',o,e,hi⟩
 ·exact .inl h3
 ·cases e;exact .inr ⟨b,off,rfl,fun i hl=>(hi i hl).same k⟩
theorem kidsL_wf:∀(D:List (List C4)) (a:Nat),(∀c∈D,c.length≤20)→(∀x∈D.flatten,okC false x=true)→a+D.length≤4096→∀k∈kidsL a D,wfC k
 |[],a,_,_,_,k,hk=>by cases hk
 |c::D,a,hc,hl,hN,k,hk=>by
  have h1:=hc c List.mem_cons_self;rw [List.length_cons] at hN;unfold kidsL at hk;rcases List.mem_cons.1 hk with rfl|hk
  ·have:=sum_le (l:=c) (fun x hx=>hl x (by rw [List.flatten_cons];exact List.mem_append_left _ hx));unfold wfC kidOf wf1;simp only;omega
  ·exact kidsL_wf D (a+1) (fun x hx=>hc x (List.mem_cons_of_mem _ hx)) (fun x hx=>hl x (by rw [List.flatten_cons];exact List.mem_append_right _ hx)) (by omega) k hk
def GrE (base:Nat) (w:World) (g n cap N:Nat) (P:Nat→List Int) (l:List C4) (b:Nat) (e:Ending) (w':World):Prop:=
 ∃(r h b':Nat) (P':Nat→List Int),e=.returned (.tuple #[.int .i64 (r:Int),.int .i64 (h:Int),.int .i64 (b':Int)])∧ImM base w' g n cap N P'∧Tre P' l b r h b'∧b'≤b+(l.length+19)/20+1∧(∀j,(j<b∨b'≤j)→P' j=P j)∧Ch w.heap.size (fun x=>x=g) w w'
theorem sumI_snoc (l:List Int) (x:Int):(l++[x]).sum=l.sum+x:=by simp
theorem take_succ' (l:List C4) (k:Nat) (hk:k<l.length):l.take (k+1)=l.take k++[l.getD k c40]:=by
 rw [List.take_succ_eq_append_getElem hk,List.getD_eq_getElem?_getD,List.getElem?_eq_getElem hk,Option.getD_some]
theorem RowC.part {w:World} {b off cap:Nat} {l:List C4} (h:RowC w (some ⟨b,off,none⟩) cap l) (i k:Nat) (hk:i+k≤l.length):RowC w (some ⟨b,off+i*4,none⟩) (cap-i) ((l.drop i).take k):=by
 obtain ⟨h0,h1,h2,h3⟩:=h;have hl:((l.drop i).take k).length=k:=by rw [List.length_take,List.length_drop];omega
 refine ⟨fun q hq=>h0 q (List.mem_of_mem_drop (List.mem_of_mem_take hq)),by rw [hl];omega,by omega,?_⟩;rcases h3 with h3|⟨b',off',e,hc⟩
 ·left;rw [h3];simp
 ·cases e;refine .inr ⟨b,off+i*4,rfl,fun j hj=>?_⟩;rw [hl] at hj;have:=hc (i+j) (by omega);rw [show off+i*4+j*4=off+(i+j)*4 from by omega];rw [List.getD_eq_getElem?_getD,List.getElem?_take,if_pos hj,List.getElem?_drop,←List.getD_eq_getElem?_getD];exact this
theorem part_next {l:List C4} {m i k cn:Nat} (hm:l.length=m) (hk:k<cn) (hi:i+cn≤m) (hok:∀x∈l,okC false x=true):
  (((l.drop i).take (k+1)).map (·.c)).sum=(((l.drop i).take k).map (·.c)).sum+(l.getD (i+k) c40).c∧(((l.drop i).take (k+1)).map (·.d)).sum=(((l.drop i).take k).map (·.d)).sum+(l.getD (i+k) c40).d∧(1≤(l.getD (i+k) c40).c∧(l.getD (i+k) c40).c≤248)∧(0≤(l.getD (i+k) c40).d∧(l.getD (i+k) c40).d≤248)∧(0≤(((l.drop i).take k).map (·.c)).sum∧(((l.drop i).take k).map (·.c)).sum≤248*(k:Int))∧(0≤(((l.drop i).take k).map (·.d)).sum∧(((l.drop i).take k).map (·.d)).sum≤248*(k:Int)):=by
 have hg:(l.drop i).getD k c40=l.getD (i+k) c40:=by rw [List.getD_eq_getElem?_getD,List.getElem?_drop,←List.getD_eq_getElem?_getD]
 have ht:=take_succ' (l.drop i) k (by rw [List.length_drop];omega);rw [hg] at ht;have hs:=sum_le (l:=(l.drop i).take k) (fun x hx=>hok x (List.mem_of_mem_drop (List.mem_of_mem_take hx)));rw [List.length_take,List.length_drop,Nat.min_eq_left (by omega)] at hs;have hx:=hok (l.getD (i+k) c40) (by rw [List.getD_eq_getElem?_getD,List.getElem?_eq_getElem (by omega),Option.getD_some];exact List.getElem_mem _);unfold okC at hx;simp only [decide_eq_true_eq] at hx;refine ⟨by rw [ht,List.map_append,List.map_singleton,sumI_snoc],by rw [ht,List.map_append,List.map_singleton,sumI_snoc],by omega,by omega,by omega,by omega⟩
def KdAt (w:World) (b:Nat) (q:C4):Prop:=w.heap[b]?=some (.cells #[.int .i64 q.a,.int .i64 q.b,.int .i64 q.c,.int .i64 q.d] 130 (0,0))
theorem KdAt.at {w:World} {b:Nat} {q:C4} (h:KdAt w b q):w.cell? ⟨b,0,none⟩=some (.int .i64 q.a)∧w.cell? ⟨b,1,none⟩=some (.int .i64 q.b)∧w.cell? ⟨b,2,none⟩=some (.int .i64 q.c)∧w.cell? ⟨b,3,none⟩=some (.int .i64 q.d)∧∀i,w.frozen? ⟨b,i,none⟩=false:=by
 have hc:∀i,w.cell? ⟨b,i,none⟩=_:=fun i=>cell_of_row w b i _ _ (0,0) h
 refine ⟨by rw [hc];rfl,by rw [hc];rfl,by rw [hc];rfl,by rw [hc];rfl,fun i=>?_⟩;unfold World.frozen?;rw [h];simp
theorem KdAt.set2 {w:World} {b:Nat} {q:C4} (h:KdAt w b q) (x:Int):KdAt (w.setCell ⟨b,2,none⟩ (.int .i64 x)) b {q with c:=x}:=by unfold KdAt;rw [setCell_heap _ _ _ _ _ _ _ h];rfl
theorem KdAt.set3 {w:World} {b:Nat} {q:C4} (h:KdAt w b q) (x:Int):KdAt (w.setCell ⟨b,3,none⟩ (.int .i64 x)) b {q with d:=x}:=by unfold KdAt;rw [setCell_heap _ _ _ _ _ _ _ h];rfl
set_option maxRecDepth 8000 in
theorem grow_v {base g n cap N b m c:Nat} {w:World} {P:Nat→List Int} {a:Option Addr} {l:List C4} (h:ImM base w g n cap N P) (hN:N≤4096) (hr:RowC w a c l) (hag:∀x,a=some x→x.block≠g) (hok:∀x∈l,okC false x=true) (hl:l.length=m) (hm:m≤150) (h2:2≤b) (hb:b+(m+19)/20+1≤N):
  Calls Tryz.prog 34 #[.slice (some ⟨g,0,none⟩) n cap,.slice a m c,.int .i64 (b:Nat)] w fun e w'=>GrE base w g n cap N P l b e w':=by
 by_cases h0:m=0
 ·have HE:Hid (GrE base w g n cap N P l b (.returned (.tuple #[.int .i64 ((0:Nat):Int),.int .i64 ((0:Nat):Int),.int .i64 (b:Int)])) w):=⟨0,0,b,P,rfl,h,.inl ⟨List.length_eq_zero_iff.1 (by omega),rfl,rfl,rfl⟩,by omega,fun _ _=>rfl,Ch.refl _ _ _⟩;subst h0;clear h hr hl hok;go_enter Tryz.func34,Tryz.ntmps34
  go_wp2;go_ret3
  exact HE.out
 ·obtain ⟨gl,hgl,hnn'⟩:=h.lt;have hn4:n≤1048576:=by omega
  obtain ⟨ab,ao,rfl⟩:=hr.some' (by omega);have hcl:=hr.cells;have hc1:=hr.2.1;have hc2:=hr.2.2.1;unfold maxLen at hc2;rw [hl] at hc1 hcl;have hnab:¬ab=g:=hag _ rfl;have habl:ab<w.heap.size:=(hcl 0 (by omega)).lt;have HR:Hid (RowC w (some ⟨ab,ao,none⟩) c l∧l.length=m∧(∀i,i<m→At4 w ab (ao+i*4) (l.getD i c40))∧(∀x∈l,okC false x=true)):=⟨hr,hl,hcl,hok⟩;have HI0:Hid (GrI l m 0 []∧GrM base w w g n cap N P b [] (.slice none 0 0) P):=⟨⟨by simp,Nat.zero_le _,by simp,by simp,.inl rfl,by simp,.inl rfl⟩,⟨ownC_nil ..,h,fun _ _=>rfl,by simp,Ch.refl _ _ _⟩⟩;have hm0:((m:Int)==0)=false:=by rw [beq_eq_false_iff_ne];omega
  clear hnn' hcl hl hr h hag hok;go_enter Tryz.func34,Tryz.ntmps34
  go_wp2_with fail
  go_loopg [2,9,10] m (fun gh at' v i wr=>∃(ii:Nat) (D:List (List C4)) (P':Nat→List Int) (dl:Nat),gh=m-ii∧dl≤20∧ii≤m∧at'=.int .i64 ((b+dl:Nat):Int)∧i=.int .i64 (ii:Int)∧Hid (D.length=dl∧GrI l m ii D∧GrM base w wr g n cap N P b D v P'))
  case atStart=>exact ⟨0,[],P,0,rfl,by omega,by omega,by simp,rfl,rfl,HI0.out⟩
  case round=>
   clear HI0;obtain ⟨ii,D,P',dl,hgk,hdl,hii,rfl,rfl,HI⟩:=hrel;have HGK:Hid (gk=m-ii):=hgk;clear hgk;by_cases hlt:ii<m
   ·obtain ⟨wo,rfl⟩:∃wo,wo=wr:=⟨_,rfl⟩;have hnext:=HI.out.2.1.next HR.out.2.1 hlt;obtain ⟨cn,hcn⟩:∃cn,chn (m-ii)=cn:=⟨_,rfl⟩;have hcb:=chn_bd (r:=m-ii) (by omega);rw [hcn] at hnext hcb;have HX:Hid (GrI l m (ii+cn) (D++[(l.drop ii).take cn])∧1≤cn∧cn≤20∧ii+cn≤m):=⟨hnext,by omega,by omega,by omega⟩;have hd8:dl*20≤150:=by have:=HI.out.2.1.cnt;have:=HI.out.1;omega
    have hdb:b+dl+1≤N:=by have hc:=hnext.cnt;have hd:=HI.out.1;simp only [List.length_append,List.length_singleton] at hc;omega
    unfold chn at hcn;clear hnext;by_cases h20:m-ii≤20
    ·have hc':cn=m-ii:=by rw [if_neg (by omega)] at hcn;omega
     have q1:min ((m:Int)-(ii:Int)) 20=(cn:Int):=by omega
     have q0:(m:Int)-(ii:Int)=(cn:Int):=by omega
     have q9:min (cn:Int) 20=(cn:Int):=by omega
     have q2:decide ((m:Int)-(ii:Int)>(cn:Int))=false:=decide_eq_false (by omega);have HC':Hid (cn=m-ii):=hc';clear hcn hc';go_wp2_with fail
     try simp only [q0]
     try simp only [q9]
     obtain ⟨w1,hw1⟩:∃w1,wo.alloc (.cells #[.int .i64 ((b:Int)+(dl:Int)),.int .i64 (cn:Int),.int .i64 0,.int .i64 0] 130)=w1:=⟨_,rfl⟩;rw [hw1]
     have HK0:Hid (KdAt w1 wo.heap.size ⟨((b+dl:Nat):Int),(cn:Int),(((l.drop ii).take 0).map (·.c)).sum,(((l.drop ii).take 0).map (·.d)).sum⟩∧Below wo.heap.size wo w1):=by
      rw [←hw1];refine ⟨?_,(Below.refl _ wo).alloc (Nat.le_refl _) _⟩;unfold KdAt;rw [heap_alloc_new];simp
      try omega
     obtain ⟨kb,hkb⟩:∃kb,wo.heap.size=kb:=⟨_,rfl⟩;rw [hkb] at HK0 ⊢;have HKB:Hid (wo.heap.size=kb):=hkb;have HC:Hid (Ch w.heap.size (fun x=>x=g) w wo∧w.heap.size≤kb):=⟨HI.out.2.2.ch,by rw [←HKB.out];exact HI.out.2.2.ch.size⟩;clear hw1 hkb q1 q2;go_loopg [13] cn (fun gh i wx=>∃k:Nat,k≤cn∧gh=cn-k∧i=.int .i64 ((ii+k:Nat):Int)∧Hid (KdAt wx kb ⟨((b+dl:Nat):Int),(cn:Int),(((l.drop ii).take k).map (·.c)).sum,(((l.drop ii).take k).map (·.d)).sum⟩∧Below kb wo wx))
     case atStart=>exact ⟨0,Nat.zero_le _,rfl,by simp,HK0.out⟩
     case round=>
      clear HK0;obtain ⟨k,hk,hgk,rfl,HJ⟩:=hrel;have HGK2:Hid (gk=cn-k):=hgk;clear hgk;by_cases hltk:k<cn
      ·obtain ⟨n1,n2,n3,n4,n5,n6⟩:=part_next (k:=k) HR.out.2.1 hltk HX.out.2.2.2 HR.out.2.2.2;have hcell:∀o,wr.cell? ⟨ab,o,none⟩=w.cell? ⟨ab,o,none⟩:=fun o=>(HJ.out.2.cell (p:=⟨ab,o,none⟩) (by show ab<kb;have:=HC.out.2;omega)).trans (HC.out.1.cell (p:=⟨ab,o,none⟩) habl hnab)
       obtain ⟨-,-,ca2,ca3⟩:=HR.out.2.2.1 (ii+k) (by have:=HX.out.2.2.2;omega);rw [←hcell] at ca2 ca3;obtain ⟨-,-,k2,k3,kf⟩:=HJ.out.1.at;have f2:=kf 2;have f3:=kf 3
       have HS:Hid (KdAt ((wr.setCell ⟨kb,2,none⟩ (.int .i64 ((((l.drop ii).take k).map (·.c)).sum+(l.getD (ii+k) c40).c))).setCell ⟨kb,3,none⟩ (.int .i64 ((((l.drop ii).take k).map (·.d)).sum+(l.getD (ii+k) c40).d))) kb ⟨((b+dl:Nat):Int),(cn:Int),(((l.drop ii).take (k+1)).map (·.c)).sum,(((l.drop ii).take (k+1)).map (·.d)).sum⟩∧Below kb wo ((wr.setCell ⟨kb,2,none⟩ (.int .i64 ((((l.drop ii).take k).map (·.c)).sum+(l.getD (ii+k) c40).c))).setCell ⟨kb,3,none⟩ (.int .i64 ((((l.drop ii).take k).map (·.d)).sum+(l.getD (ii+k) c40).d)))):=by
        rw [n1,n2];exact ⟨(HJ.out.1.set2 _).set3 _,(HJ.out.2.setCell (Nat.le_refl _) _).setCell (Nat.le_refl _) _⟩
       have hiik:ii+k<m:=by have:=HX.out.2.2.2;omega
       clear kf n1 n2 hcell HJ;obtain ⟨sc,hsc⟩:∃sc,(((l.drop ii).take k).map (·.c)).sum=sc:=⟨_,rfl⟩;obtain ⟨sd,hsd⟩:∃sd,(((l.drop ii).take k).map (·.d)).sum=sd:=⟨_,rfl⟩;obtain ⟨xc,hxc⟩:∃xc,(l.getD (ii+k) c40).c=xc:=⟨_,rfl⟩;obtain ⟨xd,hxd⟩:∃xd,(l.getD (ii+k) c40).d=xd:=⟨_,rfl⟩;rw [hsc,hsd,hxc,hxd] at HS;simp only [hsc,hsd,hxc,hxd] at k2 k3 ca2 ca3 n3 n4 n5 n6;clear hsc hsd hxc hxd;have hkbab:¬ab=kb:=by have:=HC.out.2;omega
       go_wp2_with fail
       go_region
       go_wp2_with fail
       go_region
       go_wp2;go_roundg (cn-(k+1))
       case rel=>exact ⟨k+1,by omega,rfl,by go_num,(show _∧_ from ⟨HS.out.1,HS.out.2.drew.drew⟩)⟩
       case measure=>have:=HGK2.out;omega
      ·obtain rfl:k=cn:=by omega
       have hcl:((l.drop ii).take k).length=k:=by rw [List.length_take,List.length_drop,HR.out.2.1];have:=HX.out.2.2.2;omega
       have hlb:layB false 0 ((l.drop ii).take k)=true:=lay_leaf (by rw [hcl];omega) (by rw [hcl];omega) (fun x hx=>HR.out.2.2.2 x (List.mem_of_mem_drop (List.mem_of_mem_take hx)));have hwab:wr.heap[ab]?=w.heap[ab]?:=(HJ.out.2.block ab (by have:=HC.out.2;omega)).trans (HC.out.1.block ab habl hnab);have hlf:=rleaf_v ((l.drop ii).take k) (some ⟨ab,ao+ii*4,none⟩) (c-ii) k wr ((HR.out.1.part ii k (by rw [HR.out.2.1];exact HX.out.2.2.2)).keep1 hwab) hcl 0 (layZ_yes hlb).1 (layZ false 0 ((l.drop ii).take k)) rfl 256 (layZ_len hlb)
       have HQ:Hid (KdAt wr kb (kidOf (b+dl) ((l.drop ii).take k))∧Below kb wo wr∧kb<wr.heap.size):=by
        refine ⟨?_,HJ.out.2,heap_lt HJ.out.1⟩;have:=HJ.out.1;unfold kidOf;rw [hcl];exact this
       have hii2:ii+k≤m:=HX.out.2.2.2;clear HJ hwab;go_wp2_with fail
       refine hlf.mono ?_;clear hlf;rintro e w4 ⟨gz,cz,rfl,hoz,hb4⟩;have hgkb:g<kb:=by have:=HC.out.2;omega
       have hkbw:kb<wr.heap.size:=HQ.out.2.2;have hg4:w4.heap[g]?=wo.heap[g]?:=(hb4.block g (by omega)).trans (HQ.out.2.1.block g hgkb)
       have hly:=(HI.out.2.2.im.kept hg4).lay hN (k:=b+dl) (by omega) (hoz.row' (layZ_bys false 0 _)).2 (layZ_len hlb) (fun x e=>by
        have:=World.ownsRow.lt hoz x.block (by rw [e];rfl);omega)
       have HB4:Hid (Below wr.heap.size wr w4):=hb4;clear hb4 hoz hg4;go_wp2_with fail
       refine (first_v gz 256 cz 0 w4).mono ?_;rintro e w' ⟨rfl,rfl⟩;go_wp2_with fail
       refine hly.mono ?_;clear hly;rintro e w5 ⟨rfl,him,hc5⟩;have HW5:Hid (Below kb wo w'∧Ch w'.heap.size (fun x=>x=g) w' w5∧ImM base w5 g n cap N (putP P' (b+dl) (layZ false 0 ((l.drop ii).take k)))∧kb<w'.heap.size):=⟨HQ.out.2.1.trans (HB4.out.mono (by omega)),hc5,him,by have:=HB4.out.size;omega⟩
       have HK5:Hid (KdAt w5 kb (kidOf (b+dl) ((l.drop ii).take k))∧OwnC 130 w.heap.size w5 u9 (kidsL b D)∧Ch w.heap.size (fun x=>x=g) w w5):=by
        have hs1:=HC.out.2;have hwo:=HKB.out;have hkw:=HW5.out.2.2.2;refine ⟨((hc5.block kb HW5.out.2.2.2 (by omega)).trans (HB4.out.block kb hkbw)).trans HQ.out.1,?_,?_⟩
        ·refine owns_keep HI.out.2.2.kd (fun x hx=>?_);have hlx:=World.ownsRow.lt HI.out.2.2.kd x hx;exact (hc5.block x (by omega) (by omega)).trans (HW5.out.1.block x (by omega))
        ·refine (HC.out.1.trans (Ch.of _ (HW5.out.1.mono hs1))).trans (hc5.mono (by omega) (fun _ _ h=>h))
       obtain ⟨q,hq⟩:∃q,kidOf (b+dl) ((l.drop ii).take k)=q:=⟨_,rfl⟩;rw [hq] at HK5;have HQQ:Hid (kidOf (b+dl) ((l.drop ii).take k)=q):=hq;obtain ⟨z0,z1,z2,z3,-⟩:=HK5.out.1.at;have hs5:=HK5.out.2.2.size;clear hq HQ HB4 hc5 him
       go_wp2_with (at_builtin;refine append_c4n 128 130 Tryz.underlying128 infoK rfl _ _ rfl w.heap.size u9 (kidsL b D) rfl (HK5.out.2.1.below' ((Below.refl _ _).alloc (Nat.le_refl _) _)) q w5.heap.size rfl (at4_new w5 q _) (by rw [kidsL_len,HI.out.1];omega) (Nat.le_trans hs5 (by rw [heap_alloc_size];omega)) dl (by rw [kidsL_len,HI.out.1]) _ rfl ?_;intro b7 c7 w7 ho7 hb7;have H7:Hid (GrM base w w7 g n cap N P b (D++[(l.drop ii).take k]) (.slice b7 (dl+1) c7) (putP P' (b+dl) (layZ false 0 ((l.drop ii).take k)))):=(by
        have hl5:Ch w.heap.size (fun x=>x=g) w w7:=(HK5.out.2.2.alloc hs5 _).trans (Ch.of _ hb7);have hg7:w7.heap[g]?=w5.heap[g]?:=(hb7.block g hgl).trans (heap_alloc_old w5 _ (by omega));have hd:=HI.out.1;have:=HI.out.2.2.next (ch:=(l.drop ii).take k) (w7:=w7) (v':=.slice b7 (dl+1) c7) (by rw [hd];exact HW5.out.2.2.1.kept hg7) (by rw [hd,HQQ.out];exact ho7) hl5;rw [hd] at this;exact this);clear ho7 hb7)
       go_roundg (m-(ii+k))
       case rel=>exact ⟨ii+k,_,_,dl+1,rfl,by omega,by omega,by go_num,by go_num,(show _∧_∧_ from ⟨by simp [HI.out.1],HX.out.1,H7.out⟩)⟩
       case measure=>have:=HGK.out;omega
    ·by_cases h30:m-ii<30
     ·have hc':cn=10:=by rw [if_pos (by omega)] at hcn;omega
      have q1:min ((m:Int)-(ii:Int)) 20=20:=by omega
      have q2:decide ((m:Int)-(ii:Int)>20)=true:=decide_eq_true (by omega);have q3:decide ((m:Int)-(ii:Int)-20<10)=true:=decide_eq_true (by omega);have HC':Hid (cn=10):=hc';have HV:Hid ((10:Int)=(cn:Int)):=(by show _=_;omega);have q4:(cn:Int)≤20:=by omega
      clear hcn hc';go_wp2_with fail
      simp only [HV.out];obtain ⟨w1,hw1⟩:∃w1,wo.alloc (.cells #[.int .i64 ((b:Int)+(dl:Int)),.int .i64 (cn:Int),.int .i64 0,.int .i64 0] 130)=w1:=⟨_,rfl⟩;rw [hw1]
      have HK0:Hid (KdAt w1 wo.heap.size ⟨((b+dl:Nat):Int),(cn:Int),(((l.drop ii).take 0).map (·.c)).sum,(((l.drop ii).take 0).map (·.d)).sum⟩∧Below wo.heap.size wo w1):=by
       rw [←hw1];refine ⟨?_,(Below.refl _ wo).alloc (Nat.le_refl _) _⟩;unfold KdAt;rw [heap_alloc_new];simp
       try omega
      obtain ⟨kb,hkb⟩:∃kb,wo.heap.size=kb:=⟨_,rfl⟩;rw [hkb] at HK0 ⊢;have HKB:Hid (wo.heap.size=kb):=hkb;have HC:Hid (Ch w.heap.size (fun x=>x=g) w wo∧w.heap.size≤kb):=⟨HI.out.2.2.ch,by rw [←HKB.out];exact HI.out.2.2.ch.size⟩;clear hw1 hkb q1 q2;go_loopg [13] cn (fun gh i wx=>∃k:Nat,k≤cn∧gh=cn-k∧i=.int .i64 ((ii+k:Nat):Int)∧Hid (KdAt wx kb ⟨((b+dl:Nat):Int),(cn:Int),(((l.drop ii).take k).map (·.c)).sum,(((l.drop ii).take k).map (·.d)).sum⟩∧Below kb wo wx))
      case atStart=>exact ⟨0,Nat.zero_le _,rfl,by simp,HK0.out⟩
      case round=>
       clear HK0;obtain ⟨k,hk,hgk,rfl,HJ⟩:=hrel;have HGK2:Hid (gk=cn-k):=hgk;clear hgk;by_cases hltk:k<cn
       ·obtain ⟨n1,n2,n3,n4,n5,n6⟩:=part_next (k:=k) HR.out.2.1 hltk HX.out.2.2.2 HR.out.2.2.2;have hcell:∀o,wr.cell? ⟨ab,o,none⟩=w.cell? ⟨ab,o,none⟩:=fun o=>(HJ.out.2.cell (p:=⟨ab,o,none⟩) (by show ab<kb;have:=HC.out.2;omega)).trans (HC.out.1.cell (p:=⟨ab,o,none⟩) habl hnab)
        obtain ⟨-,-,ca2,ca3⟩:=HR.out.2.2.1 (ii+k) (by have:=HX.out.2.2.2;omega);rw [←hcell] at ca2 ca3;obtain ⟨-,-,k2,k3,kf⟩:=HJ.out.1.at;have f2:=kf 2;have f3:=kf 3
        have HS:Hid (KdAt ((wr.setCell ⟨kb,2,none⟩ (.int .i64 ((((l.drop ii).take k).map (·.c)).sum+(l.getD (ii+k) c40).c))).setCell ⟨kb,3,none⟩ (.int .i64 ((((l.drop ii).take k).map (·.d)).sum+(l.getD (ii+k) c40).d))) kb ⟨((b+dl:Nat):Int),(cn:Int),(((l.drop ii).take (k+1)).map (·.c)).sum,(((l.drop ii).take (k+1)).map (·.d)).sum⟩∧Below kb wo ((wr.setCell ⟨kb,2,none⟩ (.int .i64 ((((l.drop ii).take k).map (·.c)).sum+(l.getD (ii+k) c40).c))).setCell ⟨kb,3,none⟩ (.int .i64 ((((l.drop ii).take k).map (·.d)).sum+(l.getD (ii+k) c40).d)))):=by
         rw [n1,n2];exact ⟨(HJ.out.1.set2 _).set3 _,(HJ.out.2.setCell (Nat.le_refl _) _).setCell (Nat.le_refl _) _⟩
        have hiik:ii+k<m:=by have:=HX.out.2.2.2;omega
        clear kf n1 n2 hcell HJ;obtain ⟨sc,hsc⟩:∃sc,(((l.drop ii).take k).map (·.c)).sum=sc:=⟨_,rfl⟩;obtain ⟨sd,hsd⟩:∃sd,(((l.drop ii).take k).map (·.d)).sum=sd:=⟨_,rfl⟩;obtain ⟨xc,hxc⟩:∃xc,(l.getD (ii+k) c40).c=xc:=⟨_,rfl⟩;obtain ⟨xd,hxd⟩:∃xd,(l.getD (ii+k) c40).d=xd:=⟨_,rfl⟩;rw [hsc,hsd,hxc,hxd] at HS;simp only [hsc,hsd,hxc,hxd] at k2 k3 ca2 ca3 n3 n4 n5 n6;clear hsc hsd hxc hxd;have hkbab:¬ab=kb:=by have:=HC.out.2;omega
        go_wp2_with fail
        go_region
        go_wp2_with fail
        go_region
        go_wp2;go_roundg (cn-(k+1))
        case rel=>exact ⟨k+1,by omega,rfl,by go_num,(show _∧_ from ⟨HS.out.1,HS.out.2.drew.drew⟩)⟩
        case measure=>have:=HGK2.out;omega
       ·obtain rfl:k=cn:=by omega
        have hcl:((l.drop ii).take k).length=k:=by rw [List.length_take,List.length_drop,HR.out.2.1];have:=HX.out.2.2.2;omega
        have hlb:layB false 0 ((l.drop ii).take k)=true:=lay_leaf (by rw [hcl];omega) (by rw [hcl];omega) (fun x hx=>HR.out.2.2.2 x (List.mem_of_mem_drop (List.mem_of_mem_take hx)));have hwab:wr.heap[ab]?=w.heap[ab]?:=(HJ.out.2.block ab (by have:=HC.out.2;omega)).trans (HC.out.1.block ab habl hnab);have hlf:=rleaf_v ((l.drop ii).take k) (some ⟨ab,ao+ii*4,none⟩) (c-ii) k wr ((HR.out.1.part ii k (by rw [HR.out.2.1];exact HX.out.2.2.2)).keep1 hwab) hcl 0 (layZ_yes hlb).1 (layZ false 0 ((l.drop ii).take k)) rfl 256 (layZ_len hlb)
        have HQ:Hid (KdAt wr kb (kidOf (b+dl) ((l.drop ii).take k))∧Below kb wo wr∧kb<wr.heap.size):=by
         refine ⟨?_,HJ.out.2,heap_lt HJ.out.1⟩;have:=HJ.out.1;unfold kidOf;rw [hcl];exact this
        have hii2:ii+k≤m:=HX.out.2.2.2;clear HJ hwab;go_wp2_with fail
        refine hlf.mono ?_;clear hlf;rintro e w4 ⟨gz,cz,rfl,hoz,hb4⟩;have hgkb:g<kb:=by have:=HC.out.2;omega
        have hkbw:kb<wr.heap.size:=HQ.out.2.2;have hg4:w4.heap[g]?=wo.heap[g]?:=(hb4.block g (by omega)).trans (HQ.out.2.1.block g hgkb)
        have hly:=(HI.out.2.2.im.kept hg4).lay hN (k:=b+dl) (by omega) (hoz.row' (layZ_bys false 0 _)).2 (layZ_len hlb) (fun x e=>by
         have:=World.ownsRow.lt hoz x.block (by rw [e];rfl);omega)
        have HB4:Hid (Below wr.heap.size wr w4):=hb4;clear hb4 hoz hg4;go_wp2_with fail
        refine (first_v gz 256 cz 0 w4).mono ?_;rintro e w' ⟨rfl,rfl⟩;go_wp2_with fail
        refine hly.mono ?_;clear hly;rintro e w5 ⟨rfl,him,hc5⟩;have HW5:Hid (Below kb wo w'∧Ch w'.heap.size (fun x=>x=g) w' w5∧ImM base w5 g n cap N (putP P' (b+dl) (layZ false 0 ((l.drop ii).take k)))∧kb<w'.heap.size):=⟨HQ.out.2.1.trans (HB4.out.mono (by omega)),hc5,him,by have:=HB4.out.size;omega⟩
        have HK5:Hid (KdAt w5 kb (kidOf (b+dl) ((l.drop ii).take k))∧OwnC 130 w.heap.size w5 u9 (kidsL b D)∧Ch w.heap.size (fun x=>x=g) w w5):=by
         have hs1:=HC.out.2;have hwo:=HKB.out;have hkw:=HW5.out.2.2.2;refine ⟨((hc5.block kb HW5.out.2.2.2 (by omega)).trans (HB4.out.block kb hkbw)).trans HQ.out.1,?_,?_⟩
         ·refine owns_keep HI.out.2.2.kd (fun x hx=>?_);have hlx:=World.ownsRow.lt HI.out.2.2.kd x hx;exact (hc5.block x (by omega) (by omega)).trans (HW5.out.1.block x (by omega))
         ·refine (HC.out.1.trans (Ch.of _ (HW5.out.1.mono hs1))).trans (hc5.mono (by omega) (fun _ _ h=>h))
        obtain ⟨q,hq⟩:∃q,kidOf (b+dl) ((l.drop ii).take k)=q:=⟨_,rfl⟩;rw [hq] at HK5;have HQQ:Hid (kidOf (b+dl) ((l.drop ii).take k)=q):=hq;obtain ⟨z0,z1,z2,z3,-⟩:=HK5.out.1.at;have hs5:=HK5.out.2.2.size;clear hq HQ HB4 hc5 him
        go_wp2_with (at_builtin;refine append_c4n 128 130 Tryz.underlying128 infoK rfl _ _ rfl w.heap.size u9 (kidsL b D) rfl (HK5.out.2.1.below' ((Below.refl _ _).alloc (Nat.le_refl _) _)) q w5.heap.size rfl (at4_new w5 q _) (by rw [kidsL_len,HI.out.1];omega) (Nat.le_trans hs5 (by rw [heap_alloc_size];omega)) dl (by rw [kidsL_len,HI.out.1]) _ rfl ?_;intro b7 c7 w7 ho7 hb7;have H7:Hid (GrM base w w7 g n cap N P b (D++[(l.drop ii).take k]) (.slice b7 (dl+1) c7) (putP P' (b+dl) (layZ false 0 ((l.drop ii).take k)))):=(by
         have hl5:Ch w.heap.size (fun x=>x=g) w w7:=(HK5.out.2.2.alloc hs5 _).trans (Ch.of _ hb7);have hg7:w7.heap[g]?=w5.heap[g]?:=(hb7.block g hgl).trans (heap_alloc_old w5 _ (by omega));have hd:=HI.out.1;have:=HI.out.2.2.next (ch:=(l.drop ii).take k) (w7:=w7) (v':=.slice b7 (dl+1) c7) (by rw [hd];exact HW5.out.2.2.1.kept hg7) (by rw [hd,HQQ.out];exact ho7) hl5;rw [hd] at this;exact this);clear ho7 hb7)
        go_roundg (m-(ii+k))
        case rel=>exact ⟨ii+k,_,_,dl+1,rfl,by omega,by omega,by go_num,by go_num,(show _∧_∧_ from ⟨by simp [HI.out.1],HX.out.1,H7.out⟩)⟩
        case measure=>have:=HGK.out;omega
     ·have hc':cn=20:=by rw [if_neg (by omega)] at hcn;omega
      have q1:min ((m:Int)-(ii:Int)) 20=20:=by omega
      have q2:decide ((m:Int)-(ii:Int)>20)=true:=decide_eq_true (by omega);have q3:decide ((m:Int)-(ii:Int)-20<10)=false:=decide_eq_false (by omega);have HC':Hid (cn=20):=hc';have HV:Hid ((20:Int)=(cn:Int)):=(by show _=_;omega);have q4:(cn:Int)≤20:=by omega
      clear hcn hc';go_wp2_with fail
      simp only [HV.out];obtain ⟨w1,hw1⟩:∃w1,wo.alloc (.cells #[.int .i64 ((b:Int)+(dl:Int)),.int .i64 (cn:Int),.int .i64 0,.int .i64 0] 130)=w1:=⟨_,rfl⟩;rw [hw1]
      have HK0:Hid (KdAt w1 wo.heap.size ⟨((b+dl:Nat):Int),(cn:Int),(((l.drop ii).take 0).map (·.c)).sum,(((l.drop ii).take 0).map (·.d)).sum⟩∧Below wo.heap.size wo w1):=by
       rw [←hw1];refine ⟨?_,(Below.refl _ wo).alloc (Nat.le_refl _) _⟩;unfold KdAt;rw [heap_alloc_new];simp
       try omega
      obtain ⟨kb,hkb⟩:∃kb,wo.heap.size=kb:=⟨_,rfl⟩;rw [hkb] at HK0 ⊢;have HKB:Hid (wo.heap.size=kb):=hkb;have HC:Hid (Ch w.heap.size (fun x=>x=g) w wo∧w.heap.size≤kb):=⟨HI.out.2.2.ch,by rw [←HKB.out];exact HI.out.2.2.ch.size⟩;clear hw1 hkb q1 q2;go_loopg [13] cn (fun gh i wx=>∃k:Nat,k≤cn∧gh=cn-k∧i=.int .i64 ((ii+k:Nat):Int)∧Hid (KdAt wx kb ⟨((b+dl:Nat):Int),(cn:Int),(((l.drop ii).take k).map (·.c)).sum,(((l.drop ii).take k).map (·.d)).sum⟩∧Below kb wo wx))
      case atStart=>exact ⟨0,Nat.zero_le _,rfl,by simp,HK0.out⟩
      case round=>
       clear HK0;obtain ⟨k,hk,hgk,rfl,HJ⟩:=hrel;have HGK2:Hid (gk=cn-k):=hgk;clear hgk;by_cases hltk:k<cn
       ·obtain ⟨n1,n2,n3,n4,n5,n6⟩:=part_next (k:=k) HR.out.2.1 hltk HX.out.2.2.2 HR.out.2.2.2;have hcell:∀o,wr.cell? ⟨ab,o,none⟩=w.cell? ⟨ab,o,none⟩:=fun o=>(HJ.out.2.cell (p:=⟨ab,o,none⟩) (by show ab<kb;have:=HC.out.2;omega)).trans (HC.out.1.cell (p:=⟨ab,o,none⟩) habl hnab)
        obtain ⟨-,-,ca2,ca3⟩:=HR.out.2.2.1 (ii+k) (by have:=HX.out.2.2.2;omega);rw [←hcell] at ca2 ca3;obtain ⟨-,-,k2,k3,kf⟩:=HJ.out.1.at;have f2:=kf 2;have f3:=kf 3
        have HS:Hid (KdAt ((wr.setCell ⟨kb,2,none⟩ (.int .i64 ((((l.drop ii).take k).map (·.c)).sum+(l.getD (ii+k) c40).c))).setCell ⟨kb,3,none⟩ (.int .i64 ((((l.drop ii).take k).map (·.d)).sum+(l.getD (ii+k) c40).d))) kb ⟨((b+dl:Nat):Int),(cn:Int),(((l.drop ii).take (k+1)).map (·.c)).sum,(((l.drop ii).take (k+1)).map (·.d)).sum⟩∧Below kb wo ((wr.setCell ⟨kb,2,none⟩ (.int .i64 ((((l.drop ii).take k).map (·.c)).sum+(l.getD (ii+k) c40).c))).setCell ⟨kb,3,none⟩ (.int .i64 ((((l.drop ii).take k).map (·.d)).sum+(l.getD (ii+k) c40).d)))):=by
         rw [n1,n2];exact ⟨(HJ.out.1.set2 _).set3 _,(HJ.out.2.setCell (Nat.le_refl _) _).setCell (Nat.le_refl _) _⟩
        have hiik:ii+k<m:=by have:=HX.out.2.2.2;omega
        clear kf n1 n2 hcell HJ;obtain ⟨sc,hsc⟩:∃sc,(((l.drop ii).take k).map (·.c)).sum=sc:=⟨_,rfl⟩;obtain ⟨sd,hsd⟩:∃sd,(((l.drop ii).take k).map (·.d)).sum=sd:=⟨_,rfl⟩;obtain ⟨xc,hxc⟩:∃xc,(l.getD (ii+k) c40).c=xc:=⟨_,rfl⟩;obtain ⟨xd,hxd⟩:∃xd,(l.getD (ii+k) c40).d=xd:=⟨_,rfl⟩;rw [hsc,hsd,hxc,hxd] at HS;simp only [hsc,hsd,hxc,hxd] at k2 k3 ca2 ca3 n3 n4 n5 n6;clear hsc hsd hxc hxd;have hkbab:¬ab=kb:=by have:=HC.out.2;omega
        go_wp2_with fail
        go_region
        go_wp2_with fail
        go_region
        go_wp2;go_roundg (cn-(k+1))
        case rel=>exact ⟨k+1,by omega,rfl,by go_num,(show _∧_ from ⟨HS.out.1,HS.out.2.drew.drew⟩)⟩
        case measure=>have:=HGK2.out;omega
       ·obtain rfl:k=cn:=by omega
        have hcl:((l.drop ii).take k).length=k:=by rw [List.length_take,List.length_drop,HR.out.2.1];have:=HX.out.2.2.2;omega
        have hlb:layB false 0 ((l.drop ii).take k)=true:=lay_leaf (by rw [hcl];omega) (by rw [hcl];omega) (fun x hx=>HR.out.2.2.2 x (List.mem_of_mem_drop (List.mem_of_mem_take hx)));have hwab:wr.heap[ab]?=w.heap[ab]?:=(HJ.out.2.block ab (by have:=HC.out.2;omega)).trans (HC.out.1.block ab habl hnab);have hlf:=rleaf_v ((l.drop ii).take k) (some ⟨ab,ao+ii*4,none⟩) (c-ii) k wr ((HR.out.1.part ii k (by rw [HR.out.2.1];exact HX.out.2.2.2)).keep1 hwab) hcl 0 (layZ_yes hlb).1 (layZ false 0 ((l.drop ii).take k)) rfl 256 (layZ_len hlb)
        have HQ:Hid (KdAt wr kb (kidOf (b+dl) ((l.drop ii).take k))∧Below kb wo wr∧kb<wr.heap.size):=by
         refine ⟨?_,HJ.out.2,heap_lt HJ.out.1⟩;have:=HJ.out.1;unfold kidOf;rw [hcl];exact this
        have hii2:ii+k≤m:=HX.out.2.2.2;clear HJ hwab;go_wp2_with fail
        refine hlf.mono ?_;clear hlf;rintro e w4 ⟨gz,cz,rfl,hoz,hb4⟩;have hgkb:g<kb:=by have:=HC.out.2;omega
        have hkbw:kb<wr.heap.size:=HQ.out.2.2;have hg4:w4.heap[g]?=wo.heap[g]?:=(hb4.block g (by omega)).trans (HQ.out.2.1.block g hgkb)
        have hly:=(HI.out.2.2.im.kept hg4).lay hN (k:=b+dl) (by omega) (hoz.row' (layZ_bys false 0 _)).2 (layZ_len hlb) (fun x e=>by
         have:=World.ownsRow.lt hoz x.block (by rw [e];rfl);omega)
        have HB4:Hid (Below wr.heap.size wr w4):=hb4;clear hb4 hoz hg4;go_wp2_with fail
        refine (first_v gz 256 cz 0 w4).mono ?_;rintro e w' ⟨rfl,rfl⟩;go_wp2_with fail
        refine hly.mono ?_;clear hly;rintro e w5 ⟨rfl,him,hc5⟩;have HW5:Hid (Below kb wo w'∧Ch w'.heap.size (fun x=>x=g) w' w5∧ImM base w5 g n cap N (putP P' (b+dl) (layZ false 0 ((l.drop ii).take k)))∧kb<w'.heap.size):=⟨HQ.out.2.1.trans (HB4.out.mono (by omega)),hc5,him,by have:=HB4.out.size;omega⟩
        have HK5:Hid (KdAt w5 kb (kidOf (b+dl) ((l.drop ii).take k))∧OwnC 130 w.heap.size w5 u9 (kidsL b D)∧Ch w.heap.size (fun x=>x=g) w w5):=by
         have hs1:=HC.out.2;have hwo:=HKB.out;have hkw:=HW5.out.2.2.2;refine ⟨((hc5.block kb HW5.out.2.2.2 (by omega)).trans (HB4.out.block kb hkbw)).trans HQ.out.1,?_,?_⟩
         ·refine owns_keep HI.out.2.2.kd (fun x hx=>?_);have hlx:=World.ownsRow.lt HI.out.2.2.kd x hx;exact (hc5.block x (by omega) (by omega)).trans (HW5.out.1.block x (by omega))
         ·refine (HC.out.1.trans (Ch.of _ (HW5.out.1.mono hs1))).trans (hc5.mono (by omega) (fun _ _ h=>h))
        obtain ⟨q,hq⟩:∃q,kidOf (b+dl) ((l.drop ii).take k)=q:=⟨_,rfl⟩;rw [hq] at HK5;have HQQ:Hid (kidOf (b+dl) ((l.drop ii).take k)=q):=hq;obtain ⟨z0,z1,z2,z3,-⟩:=HK5.out.1.at;have hs5:=HK5.out.2.2.size;clear hq HQ HB4 hc5 him
        go_wp2_with (at_builtin;refine append_c4n 128 130 Tryz.underlying128 infoK rfl _ _ rfl w.heap.size u9 (kidsL b D) rfl (HK5.out.2.1.below' ((Below.refl _ _).alloc (Nat.le_refl _) _)) q w5.heap.size rfl (at4_new w5 q _) (by rw [kidsL_len,HI.out.1];omega) (Nat.le_trans hs5 (by rw [heap_alloc_size];omega)) dl (by rw [kidsL_len,HI.out.1]) _ rfl ?_;intro b7 c7 w7 ho7 hb7;have H7:Hid (GrM base w w7 g n cap N P b (D++[(l.drop ii).take k]) (.slice b7 (dl+1) c7) (putP P' (b+dl) (layZ false 0 ((l.drop ii).take k)))):=(by
         have hl5:Ch w.heap.size (fun x=>x=g) w w7:=(HK5.out.2.2.alloc hs5 _).trans (Ch.of _ hb7);have hg7:w7.heap[g]?=w5.heap[g]?:=(hb7.block g hgl).trans (heap_alloc_old w5 _ (by omega));have hd:=HI.out.1;have:=HI.out.2.2.next (ch:=(l.drop ii).take k) (w7:=w7) (v':=.slice b7 (dl+1) c7) (by rw [hd];exact HW5.out.2.2.1.kept hg7) (by rw [hd,HQQ.out];exact ho7) hl5;rw [hd] at this;exact this);clear ho7 hb7)
        go_roundg (m-(ii+k))
        case rel=>exact ⟨ii+k,_,_,dl+1,rfl,by omega,by omega,by go_num,by go_num,(show _∧_∧_ from ⟨by simp [HI.out.1],HX.out.1,H7.out⟩)⟩
        case measure=>have:=HGK.out;omega
   ·obtain rfl:ii=m:=by omega
    have hfl:D.flatten=l:=by rw [HI.out.2.1.fl,←HR.out.2.1,List.take_length]
    have hd0:1≤dl:=by have:=HI.out.2.1.z0;have:=HI.out.1;omega
    have hdc:dl*20≤ii+19:=by have:=HI.out.2.1.cnt;have:=HI.out.1;omega
    have hfo:∀x∈D.flatten,okC false x=true:=by rw [hfl];exact HR.out.2.2.2
    have hkok:∀q∈kidsL b D,wfC q:=kidsL_wf D b HI.out.2.1.sz hfo (by rw [HI.out.1];omega);obtain ⟨ak,ck,hv,hrk,-⟩:=HI.out.2.2.kd.row hkok;rw [kidsL_len,HI.out.1] at hv;subst hv;obtain ⟨kb,ko,rfl⟩:=hrk.some' (by rw [kidsL_len,HI.out.1];omega);have hck1:=hrk.2.1;have hck2:=hrk.2.2.1;rw [kidsL_len,HI.out.1] at hck1;unfold maxLen at hck2;by_cases hd1:dl=1
    ·obtain ⟨c0,hD⟩:∃c0,D=[c0]:=by
      have:=HI.out.1
      match D,this with
      |[x],_=>exact ⟨x,rfl⟩
      |[],h=>simp at h;omega
      |x::y::z,h=>simp at h;omega
     have z0:=(hrk.cells 0 (by rw [kidsL_len,HI.out.1];omega)).1;rw [hD] at z0;have z0':wr.cell? ⟨kb,ko,none⟩=some (.int .i64 ((b:Nat):Int)):=by simpa [kidsL,kidOf] using z0
     have HE:Hid (GrE base w g n cap N P l b (.returned (.tuple #[.int .i64 ((b:Nat):Int),.int .i64 ((1:Nat):Int),.int .i64 ((b+1:Nat):Int)])) wr):=by
      have hpg:=HI.out.2.2.pg 0 (by rw [HI.out.1];omega);have hsz:=HI.out.2.1.sz c0 (by rw [hD];simp);have hfar:=HI.out.2.2.far;rw [hD] at hpg hfl hfar;have hlc:c0=l:=by simpa using hfl
      refine ⟨b,1,b+1,P',rfl,HI.out.2.2.im,.inr (.inl ⟨by rw [HR.out.2.1];omega,by rw [←hlc];exact hsz,rfl,rfl,rfl,by simpa [hlc] using hpg⟩),by rw [HR.out.2.1];omega,fun j hj=>hfar j (by simpa using hj),HI.out.2.2.ch⟩
     subst hd1;clear HI hrk hkok hfl z0 hfo;go_wp2;go_ret3
     exact HE.out
    ·have hall:∀c∈D,10≤c.length∧c.length≤20:=fun x hx=>by
      refine ⟨?_,HI.out.2.1.sz x hx⟩;rcases HI.out.2.1.lo with h|h
      ·exact h x hx
      ·have:=HI.out.1;omega
     have hkb:layB true 1 (kidsL b D)=true:=by
      unfold layB;rw [Bool.and_eq_true,List.all_eq_true,kidsL_len];refine ⟨takes_iff.2 ⟨by decide,?_⟩,kidsL_ok D b hall hfo h2 (by rw [HI.out.1];omega)⟩;rw [HI.out.1];show 1≤(dl:Int)∧(dl:Int)≤12;omega
     have hin:=rinner_v 1 (kidsL b D) (some ⟨kb,ko,none⟩) ck dl wr hrk (by rw [kidsL_len,HI.out.1]) 0 (layZ_yes hkb).1 (layZ true 1 (kidsL b D)) rfl 256 (layZ_len hkb);have hd1':((dl:Int)==1)=false:=by rw [beq_eq_false_iff_ne];omega
     have HF:Hid (D.flatten=l∧(∀c∈D,10≤c.length∧c.length≤20)∧layB true 1 (kidsL b D)=true):=⟨hfl,hall,hkb⟩;have hsz:=HI.out.2.2.ch.size;clear hfl hall hkb hkok hfo;go_wp2_with fail
     refine hin.mono ?_;clear hin;rintro e w4 ⟨gz,cz,rfl,hoz,hb4⟩
     have hly:=(HI.out.2.2.im.kept (w':=w4) (hb4.block g (by omega))).lay hN (k:=b+dl) (by omega) (hoz.row' (layZ_bys true 1 _)).2 (layZ_len HF.out.2.2) (fun x e=>by
      have:=World.ownsRow.lt hoz x.block (by rw [e];rfl);omega)
     have HB4:Hid (Below wr.heap.size wr w4):=hb4;clear hb4 hoz;go_wp2_with fail
     refine (first_v gz 256 cz 0 w4).mono ?_;rintro e w' ⟨rfl,rfl⟩;go_wp2_with fail
     refine hly.mono ?_;clear hly;rintro e w5 ⟨rfl,him,hc5⟩
     have HE:Hid (GrE base w g n cap N P l b (.returned (.tuple #[.int .i64 ((b+dl:Nat):Int),.int .i64 ((2:Nat):Int),.int .i64 ((b+dl+1:Nat):Int)])) w5):=by
      have hd:=HI.out.1;refine ⟨b+dl,2,b+dl+1,_,rfl,him,.inr (.inr ⟨D,HF.out.1,by omega,by omega,HF.out.2.1,by omega,rfl,by omega,fun i hi=>?_,?_⟩),by rw [HR.out.2.1];omega,fun j hj=>?_,?_⟩
      ·unfold putP;rw [if_neg (by omega)];exact HI.out.2.2.pg i hi
      ·unfold putP;rw [if_pos (by omega)]
      ·unfold putP;rw [if_neg (by omega)];exact HI.out.2.2.far j (by omega)
      ·have:=HB4.out.size;exact (HI.out.2.2.ch.trans (Ch.of _ (HB4.out.mono hsz))).trans (hc5.mono (by omega) (fun _ _ h=>h))
     clear HI hrk him hc5 HF;go_wp2;go_ret3
     exact HE.out
theorem and1023' (n:Int):0≤bits .and .i64 n 1023∧bits .and .i64 n 1023≤1023:=by
 have h:bits .and .i64 n 1023=IntKind.i64.wrap ((BitVec.ofInt 64 n &&& BitVec.ofInt 64 1023).toNat:Int):=rfl
 have hb:(BitVec.ofInt 64 n &&& BitVec.ofInt 64 1023).toNat≤1023:=by
  rw [BitVec.toNat_and];exact Nat.le_trans Nat.and_le_right (by decide)
 rw [h,IntKind.wrap_i64];omega
def txK (i n k:Nat):List Int:=(txt i n).take k++List.replicate (n-k) 0
theorem txK_zero (i n:Nat):txK i n 0=List.replicate n 0:=by simp [txK]
theorem txK_all (i n:Nat):txK i n n=txt i n:=by
 unfold txK;rw [List.take_of_length_le (by rw [txt_len];exact Nat.le_refl _),Nat.sub_self,List.replicate_zero,List.append_nil]
theorem txK_len {i n k:Nat} (h:k≤n):(txK i n k).length=n:=by
 simp only [txK,List.length_append,List.length_take,List.length_replicate,txt_len];omega
theorem txt_at {i n k:Nat} (h:k<n):(txt i n).getD k 0=if (i+k)%5=4 then 10 else 97+((i%20:Nat):Int):=by
 unfold txt;simp [List.getD_eq_getElem?_getD,h]
theorem txK_set {i n k:Nat} (h:k<n):(txK i n k).set k ((txt i n).getD k 0)=txK i n (k+1):=by
 have h1:((txt i n).take k).length=k:=by rw [List.length_take,txt_len];omega
 have h2:k<(txt i n).length:=by rw [txt_len];exact h
 unfold txK;rw [List.set_append_right _ _ (by omega),h1,Nat.sub_self,List.take_succ_eq_append_getElem h2,List.append_assoc,List.getD_eq_getElem?_getD,List.getElem?_eq_getElem h2,Option.getD_some,show n-k=(n-(k+1))+1 from by omega,List.replicate_succ,List.set_cons_zero];rfl
def txP (zs:List Int) (i:Nat):Nat→List Int:=fun j=>if 2≤j∧j<2+i then bytZ (txt (j-2) (szn (zs.getD (j-2) 0))) else List.replicate 256 0
theorem txP_zero (zs:List Int):txP zs 0=fun _=>List.replicate 256 0:=by
 funext j
 unfold txP;rw [if_neg (by omega)]
theorem txP_succ (zs:List Int) (i:Nat):putP (txP zs i) (2+i) (bytZ (txt i (szn (zs.getD i 0))))=txP zs (i+1):=by
 funext j
 unfold putP txP;by_cases h:j=2+i
 ·rw [if_pos h,if_pos (by omega),show j-2=i from by omega]
 ·rw [if_neg h];by_cases h2:2≤j∧j<2+i
  ·rw [if_pos h2,if_pos (by omega)]
  ·rw [if_neg h2,if_neg (by omega)]
def SpAt (w:World) (b:Nat) (S:Sp):Prop:=w.heap[b]?=some (.cells #[.int .i64 S.g,.int .i64 S.p,.int .i64 S.r,.int .i64 S.h,.int .i64 S.b,.int .i64 S.l,.int .i64 S.s,.int .i64 S.f] 28 (0,0))
theorem SpAt.cell {w:World} {b:Nat} {S:Sp} (h:SpAt w b S):w.cell? ⟨b,0,none⟩=some (.int .i64 S.g)∧w.cell? ⟨b,1,none⟩=some (.int .i64 S.p)∧w.cell? ⟨b,2,none⟩=some (.int .i64 S.r)∧w.cell? ⟨b,3,none⟩=some (.int .i64 S.h)∧w.cell? ⟨b,4,none⟩=some (.int .i64 S.b)∧w.cell? ⟨b,5,none⟩=some (.int .i64 S.l)∧w.cell? ⟨b,6,none⟩=some (.int .i64 S.s)∧w.cell? ⟨b,7,none⟩=some (.int .i64 S.f):=by
 have hc:∀i,w.cell? ⟨b,i,none⟩=_:=fun i=>cell_of_row w b i _ _ (0,0) h
 refine ⟨?_,?_,?_,?_,?_,?_,?_,?_⟩<;>rw [hc]<;>rfl
theorem SpAt.frz {w:World} {b:Nat} {S:Sp} (h:SpAt w b S) (i:Nat):w.frozen? ⟨b,i,none⟩=false:=by
 unfold World.frozen?;rw [h];simp
theorem SpAt.set0 {w:World} {b:Nat} {S:Sp} (h:SpAt w b S) (x:Int):SpAt (w.setCell ⟨b,0,none⟩ (.int .i64 x)) b {S with g:=x}:=by unfold SpAt;rw [setCell_heap _ _ _ _ _ _ _ h];rfl
theorem SpAt.set1 {w:World} {b:Nat} {S:Sp} (h:SpAt w b S) (x:Int):SpAt (w.setCell ⟨b,1,none⟩ (.int .i64 x)) b {S with p:=x}:=by unfold SpAt;rw [setCell_heap _ _ _ _ _ _ _ h];rfl
theorem SpAt.set2 {w:World} {b:Nat} {S:Sp} (h:SpAt w b S) (x:Int):SpAt (w.setCell ⟨b,2,none⟩ (.int .i64 x)) b {S with r:=x}:=by unfold SpAt;rw [setCell_heap _ _ _ _ _ _ _ h];rfl
theorem SpAt.set3 {w:World} {b:Nat} {S:Sp} (h:SpAt w b S) (x:Int):SpAt (w.setCell ⟨b,3,none⟩ (.int .i64 x)) b {S with h:=x}:=by unfold SpAt;rw [setCell_heap _ _ _ _ _ _ _ h];rfl
theorem SpAt.set4 {w:World} {b:Nat} {S:Sp} (h:SpAt w b S) (x:Int):SpAt (w.setCell ⟨b,4,none⟩ (.int .i64 x)) b {S with b:=x}:=by unfold SpAt;rw [setCell_heap _ _ _ _ _ _ _ h];rfl
theorem SpAt.set5 {w:World} {b:Nat} {S:Sp} (h:SpAt w b S) (x:Int):SpAt (w.setCell ⟨b,5,none⟩ (.int .i64 x)) b {S with l:=x}:=by unfold SpAt;rw [setCell_heap _ _ _ _ _ _ _ h];rfl
theorem SpAt.set6 {w:World} {b:Nat} {S:Sp} (h:SpAt w b S) (x:Int):SpAt (w.setCell ⟨b,6,none⟩ (.int .i64 x)) b {S with s:=x}:=by unfold SpAt;rw [setCell_heap _ _ _ _ _ _ _ h];rfl
theorem SpAt.set7 {w:World} {b:Nat} {S:Sp} (h:SpAt w b S) (x:Int):SpAt (w.setCell ⟨b,7,none⟩ (.int .i64 x)) b {S with f:=x}:=by unfold SpAt;rw [setCell_heap _ _ _ _ _ _ _ h];rfl
def wrS (w:World) (B:Nat) (T:Sp):World:=(((((((w.setCell ⟨B,0,none⟩ (.int .i64 T.g)).setCell ⟨B,1,none⟩ (.int .i64 T.p)).setCell ⟨B,2,none⟩ (.int .i64 T.r)).setCell ⟨B,3,none⟩ (.int .i64 T.h)).setCell ⟨B,4,none⟩ (.int .i64 T.b)).setCell ⟨B,5,none⟩ (.int .i64 T.l)).setCell ⟨B,6,none⟩ (.int .i64 T.s)).setCell ⟨B,7,none⟩ (.int .i64 T.f)
theorem wrS_same (w:World) (B:Nat) (T:Sp) (j:Nat) (h:j≠B):(wrS w B T).heap[j]?=w.heap[j]?:=by
 have ne:∀i,j≠(⟨B,i,none⟩:Addr).block:=fun i=>h
 unfold wrS;rw [Below.heap_setCell _ _ _ _ (ne 7),Below.heap_setCell _ _ _ _ (ne 6),Below.heap_setCell _ _ _ _ (ne 5),Below.heap_setCell _ _ _ _ (ne 4),Below.heap_setCell _ _ _ _ (ne 3),Below.heap_setCell _ _ _ _ (ne 2),Below.heap_setCell _ _ _ _ (ne 1),Below.heap_setCell _ _ _ _ (ne 0)]
theorem wrS_below {w0 w:World} {B C:Nat} (h:Below C w0 w) (hC:C≤B) (T:Sp):Below C w0 (wrS w B T):=
 (((((((h.setCell (p:=⟨B,0,none⟩) hC _).setCell (p:=⟨B,1,none⟩) hC _).setCell (p:=⟨B,2,none⟩) hC _).setCell (p:=⟨B,3,none⟩) hC _).setCell (p:=⟨B,4,none⟩) hC _).setCell (p:=⟨B,5,none⟩) hC _).setCell (p:=⟨B,6,none⟩) hC _).setCell (p:=⟨B,7,none⟩) hC _
theorem SpAt.wrS {w:World} {b:Nat} {S:Sp} (h:SpAt w b S) (T:Sp):SpAt (wrS w b T) b T:=by
 unfold Oct.wrS;exact (((((((h.set0 T.g).set1 T.p).set2 T.r).set3 T.h).set4 T.b).set5 T.l).set6 T.s).set7 T.f
theorem SpAt.drew {w:World} {b:Nat} {S:Sp} (h:SpAt w b S):SpAt w.drew b S:=h
theorem own_drew1 {base g n cap:Nat} {w:World} {zs:List Int} (h:Own base w (.slice (some ⟨g,0,none⟩) n cap) zs):Own base w.drew (.slice (some ⟨g,0,none⟩) n cap) zs:=h
theorem results_tmprow {P:Program} {fn:Func} {u p:Tmp} {ty:TypeId} (h:fn.results= #[.tmp u,.cell p ty]) (tmps:Array Value) (w:World) (g:Nat) (t:TypeId) (cs:Array Value) (fr:Nat × Nat) (d:TypeDesc)
  (hp:tmps.getD p undef=.pointer (some ⟨g,0,none⟩)) (hg:w.heap[g]?=some (.cells cs t fr))
  (hu:P.underlying ty=some d) (hd:(match d with| .struct _| .array _ _=>true|_=>false)=true) (hi:(P.info? ty).map (·.size)=some cs.size):
  (results fn tmps).run P w=.ok (.tuple #[tmps.getD u undef,.agg cs]) w:=by
 have hp':tmps[p]?.getD undef=.pointer (some ⟨g,0,none⟩):=by simpa using hp
 simp [results,h,hp',asAddr,run_loadVar_row w g t ty cs fr d hg hu hd hi]
theorem Tre.mono {P P':Nat→List Int} {l:List C4} {a r h b:Nat} (ht:Tre P l a r h b) (hp:∀j,a≤j→j<b→P' j=P j):Tre P' l a r h b:=by
 rcases ht with h1|⟨h1,h2,h3,h4,h5,h6⟩|⟨D,h1,h2,h3,h4,h5,h6,h7,h8,h9⟩
 ·exact .inl h1
 ·exact .inr (.inl ⟨h1,h2,h3,h4,h5,by rw [hp a (Nat.le_refl _) (by omega)];exact h6⟩)
 ·exact .inr (.inr ⟨D,h1,h2,h3,h4,h5,h6,h7,fun i hi=>by rw [hp _ (by omega) (by omega)];exact h8 i hi,by rw [hp _ (by omega) (by omega)];exact h9⟩)
theorem Tre.facts {P:Nat→List Int} {l:List C4} {a r h b:Nat} (ht:Tre P l a r h b) (ha:2≤a):a≤b∧(r=0↔l.length=0)∧(h=0↔r=0)∧h≤2∧(r=0∨(2≤r∧r<b)):=by
 rcases ht with ⟨rfl,rfl,rfl,rfl⟩|⟨h1,h2,rfl,rfl,rfl,hp⟩|⟨D,rfl,h1,h2,hc,rfl,rfl,rfl,hp,hq⟩
 ·simp
 ·omega
 ·have h0:0<D.length:=by omega
  have hc0:=hc (D[0]) (List.getElem_mem h0)
  have hlen:D.flatten.length≠0:=by
   intro e;have he:=List.flatten_eq_nil_iff.1 (List.length_eq_zero_iff.1 e) _ (List.getElem_mem h0);rw [he] at hc0;simp at hc0
  omega
theorem bd_okS {N k r h b q fb:Nat} {g0 sv:Int} {P:Nat→List Int} {zs:List Int} (ht:Tre P (pcU zs k) (2+k) r h b) (hk:k≤4000) (h8:8≤N) (h4:N≤4096) (hg:0≤g0∧g0≤1023) (hfb:b+ned q=fb) (hN:fb+1≤N) (hsv:(if q=0 then (0:Int) else ((b:Nat):Int))=sv):
  okS ⟨1+g0,(N:Int),(r:Int),(h:Int),((pcU zs k).map (·.c)).sum,((pcU zs k).map (·.d)).sum,sv,(fb:Int)⟩=true:=by
 obtain ⟨hab,hr0,hh0,hh2,hrb⟩:=ht.facts (by omega);have hsum:=sum_le (pcU_ok zs hk);rw [pcU_len] at hsum hr0;rw [okS_all];intro i hi;rcases eight hi with rfl|rfl|rfl|rfl|rfl|rfl|rfl|rfl<;>simp only [fitS,ldB,decide_eq_true_eq]
 ·omega
 ·omega
 ·omega
 ·omega
 ·omega
 ·omega
 ·by_cases h0:q=0
  ·rw [if_pos h0] at hsv;omega
  ·rw [if_neg h0] at hsv;have:=ned_pos (n:=q) (by omega);omega
 ·omega
theorem bd_make {N k r h b q fb nb:Nat} {g0 sv:Int} {P2:Nat→List Int} {zs st:List Int} {S:Sp} (ht:Tre P2 (pcU zs k) (2+k) r h b) (hfar:∀j,(j<2+k∨b≤j)→P2 j=txP zs k j) (hzk:zs.length=k) (hst:st.length=q) (hbs:Bys st) (hk:k≤4000) (h8:8≤N) (h4:N≤4096) (hg:0≤g0∧g0≤1023) (hfb:b+ned q=fb) (hnb:(N+7)/8=nb) (hN:fb+ned nb≤N) (hsv:(if q=0 then (0:Int) else ((b:Nat):Int))=sv)
  (hS:(⟨1+g0,(N:Int),(r:Int),(h:Int),((pcU zs k).map (·.c)).sum,((pcU zs k).map (·.d)).sum,sv,(fb:Int)⟩:Sp)=S):
  Bd N (1+g0).toNat (putP (chaK (chaK P2 st b (ned q)) (bitsP (fun j=>decide (j<fb+ned nb)) N) fb (ned nb)) 0 (enZ S)) zs st S r h b:=by
 obtain ⟨hab,hr0,hh0,hh2,hrb⟩:=ht.facts (by omega);subst hzk hst hfb hnb;have hbl:(bitsP (fun j=>decide (j<b+ned st.length+ned ((N+7)/8))) N).length=(N+7)/8:=bitsP_len _ _
 have low:∀j,¬j=0→j<b→putP (chaK (chaK P2 st b (ned st.length)) (bitsP (fun j=>decide (j<b+ned st.length+ned ((N+7)/8))) N) (b+ned st.length) (ned ((N+7)/8))) 0 (enZ S) j=P2 j:=fun j h0 h1=>by
  unfold putP chaK;rw [if_neg h0,if_neg (by omega),if_neg (by omega)]
 refine ⟨fun i hi=>?_,ht.mono fun j h1 h2=>low j (by omega) h2,fun i hi=>?_,fun i hi=>?_,hN,?_,?_,?_,by omega,by omega,h8,h4,hk,hbs⟩
 ·rw [low _ (by omega) (by omega),hfar _ (.inl (by omega))];unfold txP;rw [if_pos (by omega),show 2+i-2=i from by omega]
 ·have:=cha_chaK P2 st b i hi;unfold putP;rw [if_neg (by omega)];unfold chaK at this ⊢;rw [if_neg (by omega)];exact this
 ·have:=cha_chaK (chaK P2 st b (ned st.length)) (bitsP (fun j=>decide (j<b+ned st.length+ned ((N+7)/8))) N) (b+ned st.length) i hi;unfold putP;rw [if_neg (by omega)];rw [hbl] at this ⊢;exact this
 ·unfold putP;rw [if_pos rfl]
 ·rw [low 1 (by omega) (by omega),hfar 1 (.inl (by omega))];unfold txP;rw [if_neg (by omega)]
 ·rw [←hS,←hsv];have:((1+g0).toNat:Int)=1+g0:=by omega
  rw [this];rfl
structure BdI (base:Nat) (w0 wr:World) (gb n cap N:Nat) (zs:List Int) (i:Nat) (v:Value):Prop where
 im:ImM base wr gb n cap N (txP zs i)
 pc:OwnC 72 w0.heap.size wr v (pcU zs i)
 ch:Ch w0.heap.size (fun x=>x=gb) w0 wr
theorem byt_ok {i tn:Nat} {z:Int} (h:szn z=tn):bytE (txt i tn)=0∧(bytZ (txt i tn)).length=256:=by
 subst h;have hb:=byt_txt i z;have hs:=szn_bd z;refine ⟨by unfold bytE;rw [if_pos hb],?_⟩;unfold bytZ;rw [if_pos hb];exact seal_len (by show (txt i (szn z)).length≤248;rw [txt_len];omega)
theorem byt_bys (i n:Nat):Bys (bytZ (txt i n)):=by
 unfold bytZ;split
 ·exact seal_bys (txt_bys i n)
 ·intro z hz;cases hz
set_option maxRecDepth 20000 in
theorem build_v {w:World} {N m q c1 c2:Nat} {a1 a2:Option Addr} {zs st:List Int} {gen:Int} (hz:Row w a1 c1 zs) (hm:zs.length=m) (hst:Row w a2 c2 st) (hnil:a2=none→c2=0) (hq:st.length=q) (h8:8≤N) (hN:N≤200) (hm4:m≤150) (_hq4:q≤1000) (hfit:m+(m+19)/20+ned q+4≤N):
  Calls Tryz.prog 13 #[.int .i64 (N:Nat),.slice a1 m c1,.slice a2 q c2,.int .i64 gen] w fun e w'=>∃g c L S,e=.returned (.tuple #[.slice (some ⟨g,0,none⟩) (N*256) c,spV S])∧Own w.heap.size w' (.slice (some ⟨g,0,none⟩) (N*256) c) L∧Snd N L S zs st∧Below w.heap.size w w':=by
 obtain ⟨i0,hi0,hz0,hz1,hz2⟩:=info_parts info5;have hgen:=and1023' gen;obtain ⟨g0,hg0⟩:∃g0,bits .and .i64 gen 1023=g0:=⟨_,rfl⟩;rw [hg0] at hgen;have hmN:(N:Int)*256=((N*256:Nat):Int):=by omega
 obtain ⟨n,hn⟩:∃n,N*256=n:=⟨_,rfl⟩;have HN:Hid (N*256=n):=hn;rw [hn] at hmN ⊢;have hn4:n≤51200:=by omega
 have hnm:n≤maxLen:=by unfold maxLen;omega
 have HZ:Hid (Row w a1 c1 zs∧zs.length=m∧Row w a2 c2 st∧st.length=q):=⟨hz,hm,hst,hq⟩;clear hn hz hm hst hq;go_enter Tryz.func13,Tryz.ntmps13
 go_wp2_with (at_make;refine wpList_make_full _ rfl _ _ 30 rfl w.heap.size 5 i0 (.int .u8 0) 1 Tryz.underlying30 hi0 hz0 hz1 .i64 .i64 _ _ n rfl rfl rfl rfl (by rw [hz2];omega) hnm (by simp) ?_;intro w1 hown1 hgrow1;have hsz0:=heap_alloc_size w (.cells #[.int .i64 0,.int .i64 0,.int .i64 0,.int .i64 0,.int .i64 0,.int .i64 0,.int .i64 0,.int .i64 0] 28);rw [hsz0] at hown1 ⊢;have HO:Hid (Own w.heap.size w1 (.slice (some ⟨w.heap.size+1,0,none⟩) n n) (List.replicate n 0)∧Below (w.heap.size+1) (w.alloc (.cells #[.int .i64 0,.int .i64 0,.int .i64 0,.int .i64 0,.int .i64 0,.int .i64 0,.int .i64 0,.int .i64 0] 28)) w1):=⟨made_own hown1,(Below.refl _ _).grown hgrow1 (by rw [hsz0];exact Nat.le_refl _) (by simp)⟩;clear hown1 hgrow1 hsz0)
 obtain ⟨w0,hw0⟩:∃w0,w1.alloc (.cells #[.int .i64 (1+g0),.int .i64 (N:Int),.int .i64 0,.int .i64 0,.int .i64 0,.int .i64 0,.int .i64 0,.int .i64 0] 28)=w0:=⟨_,rfl⟩;rw [hw0];obtain ⟨sb,hsb⟩:∃sb,w1.heap.size=sb:=⟨_,rfl⟩;rw [hsb];obtain ⟨gb,hgb⟩:∃gb,w.heap.size+1=gb:=⟨_,rfl⟩;rw [hgb] at HO ⊢;obtain ⟨rb,hrb⟩:∃rb,w.heap.size=rb:=⟨_,rfl⟩
 have HB0:Hid (Below w.heap.size w w0∧SpAt w0 sb ⟨1+g0,(N:Int),0,0,0,0,0,0⟩∧SpAt w0 w.heap.size sp0∧BdI w.heap.size w0 w0 gb n n N zs 0 (.slice none 0 0)∧(sb<w0.heap.size∧gb<sb∧w.heap.size+1=gb)):=by
  have hgs:=HO.out.1.lt2.2;have hb1:Below w.heap.size w w1:=((Below.refl _ w).alloc (Nat.le_refl _) _).trans (HO.out.2.mono (by omega));have hsz:w0.heap.size=w1.heap.size+1:=by rw [←hw0];exact heap_alloc_size _ _
  have hold:∀k,k<w1.heap.size→w0.heap[k]?=w1.heap[k]?:=fun k hk=>by rw [←hw0];exact heap_alloc_old w1 _ hk
  refine ⟨by rw [←hw0];exact hb1.alloc hb1.size _,?_,?_,⟨?_,ownC_nil ..,Ch.refl _ _ _⟩,by omega,by omega,hgb⟩
  ·rw [←hw0,←hsb];exact heap_alloc_new w1 _
  ·have:w1.heap[w.heap.size]?=_:=(HO.out.2.block w.heap.size (by omega)).trans (heap_alloc_new w _);exact (hold _ (by omega)).trans this
  ·refine ⟨List.replicate n 0,HO.out.1.kept (hold gb hgs),?_⟩;rw [txP_zero,←HN.out];exact im_zero N
 rw [hrb];have HRB:Hid (w.heap.size=rb):=hrb;have HI0:Hid (BdI w.heap.size w0 w0 gb n n N zs 0 (.slice none 0 0)):=HB0.out.2.2.2.1;clear hw0 hsb hgb hrb HO hnm hmN hg0;go_loopg [12,13,14] m (fun gh at' v i wr=>∃k:Nat,k≤m∧gh=m-k∧at'=.int .i64 ((2+k:Nat):Int)∧i=.int .i64 (k:Int)∧Hid (BdI w.heap.size w0 wr gb n n N zs k v))
 case atStart=>exact ⟨0,Nat.zero_le _,rfl,rfl,rfl,HI0.out⟩
 case round=>
  clear HI0;obtain ⟨k,hk,hgk,rfl,rfl,HI⟩:=hrel;have HGK:Hid (gk=m-k):=hgk;clear hgk;by_cases hlt:k<m
  ·obtain ⟨wo,rfl⟩:∃wo,wo=wr:=⟨_,rfl⟩
   obtain ⟨zb,zo,rfl,hzc⟩:∃zb zo,a1=some ⟨zb,zo,none⟩∧∀i,i<zs.length→w.cell? ⟨zb,zo+i,none⟩=some (.int .u8 (zs.getD i 0)):=by
    rcases HZ.out.1.2.2.2 with h|h
    ·have:=HZ.out.2.1;rw [h] at this;simp at this;omega
    ·exact h
   have hzk:=hzc k (by have:=HZ.out.2.1;omega);have hzl:zb<w.heap.size:=block_lt_of_cell hzk;have ck:wo.cell? ⟨zb,zo+k,none⟩=some (.int .u8 (zs.getD k 0)):=((HI.out.ch.cell (p:=⟨zb,zo+k,none⟩) (by have:=HB0.out.1.size;show zb<_;omega) (by have:=HB0.out.2.2.2.2;show ¬zb=gb;omega)).trans (HB0.out.1.cell (p:=⟨zb,zo+k,none⟩) hzl)).trans hzk;have hzb:=HZ.out.1.1.at k;have hcc:=HZ.out.1.2.1;have hcc2:=HZ.out.1.2.2.1;rw [HZ.out.2.1] at hcc;unfold maxLen at hcc2;obtain ⟨tn,htn⟩:∃tn,szn (zs.getD k 0)=tn:=⟨_,rfl⟩;have hbd:=szn_bd (zs.getD k 0);have hz8:1+(zs.getD k 0)%8=(tn:Int):=by rw [←htn];unfold szn;omega
   rw [htn] at hbd;have HTN:Hid (szn (zs.getD k 0)=tn):=htn;obtain ⟨z,hz⟩:∃z,zs.getD k 0=z:=⟨_,rfl⟩;rw [hz] at ck hzb hz8;clear htn hz hzc hzk;have hsw:=HI.out.ch.size;have hmx:tn≤maxLen:=by unfold maxLen;omega
   go_wp2_with (at_make;refine wpList_make_full _ rfl _ _ 30 rfl wo.heap.size 5 i0 (.int .u8 0) 1 Tryz.underlying30 hi0 hz0 hz1 .i64 .i64 _ _ tn rfl rfl (by first|rfl|exact hz8) (by first|rfl|exact hz8) (by rw [hz2];omega) hmx (Nat.le_refl _) ?_;intro w2 hown2 hgrow2;have HO2:Hid (Own wo.heap.size w2 (.slice (some ⟨wo.heap.size,0,none⟩) tn tn) (txK k tn 0)∧Below wo.heap.size wo w2):=⟨(by rw [txK_zero];exact made_own hown2),(Below.refl _ wo).grown hgrow2 (Nat.le_refl _) (by simp)⟩;clear hown2 hgrow2)
   obtain ⟨tb,htb⟩:∃tb,wo.heap.size=tb:=⟨_,rfl⟩;rw [htb] at HO2 ⊢;have HTB:Hid (wo.heap.size=tb):=htb;clear htb hmx ck hcc hcc2;go_loopg [17] tn (fun gh j wx=>∃y:Nat,y≤tn∧gh=tn-y∧j=.int .i64 (y:Int)∧Hid (Own tb wx (.slice (some ⟨tb,0,none⟩) tn tn) (txK k tn y)∧Below tb wo wx))
   case atStart=>exact ⟨0,Nat.zero_le _,rfl,rfl,HO2.out⟩
   case round=>
    clear HO2;obtain ⟨y,hy,hgk,rfl,HJ⟩:=hrel;have HGK2:Hid (gk=tn-y):=hgk;clear hgk;by_cases hly:y<tn
    ·obtain ⟨-,b1,b2,hst1⟩:=own_at' HJ.out.1 y (by rw [txK_len hy];exact hly);have hset:=txK_set (i:=k) hly;rw [txt_at hly] at hset;obtain ⟨r20,hr20⟩:∃r,k%20=r:=⟨_,rfl⟩;have hk20:(k:Int)%20=(r20:Int):=by omega
     have hr19:r20≤19:=by omega
     rw [hr20] at hset;have hst2:=hst1 (97+(r20:Int));obtain ⟨-,b3,b4,hst3⟩:=own_at' hst2 y (by rw [List.length_set,txK_len hy];exact hly);have hst4:=hst3 10;rw [List.set_set] at hst4
     have hgt:((txK k tn y).set y (97+(r20:Int))).getD y 0=97+(r20:Int):=by
      rw [List.getD_eq_getElem?_getD,List.getElem?_set_self (by rw [txK_len hy];exact hly),Option.getD_some]
     rw [hgt] at b3;obtain ⟨x0,hx0⟩:∃x0,(txK k tn y).getD y 0=x0:=⟨_,rfl⟩;rw [hx0] at b1;by_cases h54:(k+y)%5=4
     ·rw [if_pos h54] at hset;rw [hset] at hst4;have h5:(((k:Int)+(y:Int))%5==4)=true:=by rw [beq_iff_eq];omega
      have HS:Hid _:=hst4;have HJB:Hid (Below tb wo wr):=HJ.out.2;clear hst1 hst2 hst3 hst4 hset hx0 hr20 hgt HJ;go_wp2;go_roundg (tn-(y+1))
      case rel=>exact ⟨y+1,by omega,rfl,by go_num,(show _∧_ from ⟨HS.out,(HJB.out.setCell (Nat.le_refl _) _).setCell (Nat.le_refl _) _⟩)⟩
      case measure=>have:=HGK2.out;omega
     ·rw [if_neg h54] at hset;rw [hset] at hst2;have h5:(((k:Int)+(y:Int))%5==4)=false:=by rw [beq_eq_false_iff_ne];omega
      have HS:Hid _:=hst2;have HJB:Hid (Below tb wo wr):=HJ.out.2;clear hst1 hst2 hst3 hst4 hset hx0 hr20 hgt HJ b3 b4;go_wp2;go_roundg (tn-(y+1))
      case rel=>exact ⟨y+1,by omega,rfl,by go_num,(show _∧_ from ⟨HS.out,HJB.out.setCell (Nat.le_refl _) _⟩)⟩
      case measure=>have:=HGK2.out;omega
    ·obtain rfl:y=tn:=by omega
     have hot:=HJ.out.1;rw [txK_all] at hot;obtain ⟨hE,hL⟩:=byt_ok (i:=k) HTN.out;have hrt:=(hot.row' (txt_bys _ _)).2;have hby:=rbytes_v (some ⟨tb,0,none⟩) y y (txt k y) wr hrt (fun e=>by cases e) (txt_len _ _) 0 hE (bytZ (txt k y)) rfl 256 hL;go_wp2_with fail
     refine hby.mono ?_;clear hby;rintro e w4 ⟨gz,cz,rfl,hoz,hb4⟩;have hgbt:gb<tb:=by have:=HTB.out;have:=HB0.out.2.2.2.2;omega
     have htw:tb<wr.heap.size:=hot.lt2.2;have hb4s:=hb4.size
     have hly2:=(HI.out.im.kept (w':=w4) ((hb4.block gb (by omega)).trans (HJ.out.2.block gb hgbt))).lay (by omega) (k:=2+k) (by omega) (hoz.row' (byt_bys _ _)).2 hL (fun x e=>by
      have:=World.ownsRow.lt hoz x.block (by rw [e];rfl);omega)
     rw [show (((2+k:Nat):Int))=2+(k:Int) from by omega] at hly2;have HB4:Hid (Below tb wo w4∧Row w4 (some ⟨tb,0,none⟩) y (txt k y)):=⟨HJ.out.2.trans (hb4.mono (by omega)),hrt.below hb4⟩;clear hoz hb4 hot hrt HJ;go_wp2_with fail
     refine (first_v gz 256 cz 0 w4).mono ?_;rintro e w' ⟨rfl,rfl⟩;go_wp2_with fail
     refine hly2.mono ?_;clear hly2;rintro e w5 ⟨rfl,him,hc5⟩;have hlin:=lines_v ((HB4.out.2).keep1 (hc5.block tb (by omega) (by omega))) (by rw [txt_len];omega) (by rw [txt_len];omega) (txt_len k y)
     have H5:Hid (ImM w.heap.size w5 gb n n N (txP zs (k+1))∧OwnC 72 w0.heap.size w5 u13 (pcU zs k)∧Ch w0.heap.size (fun x=>x=gb) w0 w5):=by
      have htbw:=HTB.out;refine ⟨?_,?_,?_⟩
      ·rw [←txP_succ,HTN.out];exact him
      ·refine owns_keep HI.out.pc (fun x hx=>?_);have hlx:=World.ownsRow.lt HI.out.pc x hx;have:=HB0.out.2.2.2.2;exact (hc5.block x (by omega) (by omega)).trans (HB4.out.1.block x (by omega))
      ·exact (HI.out.ch.trans (Ch.of _ (HB4.out.1.mono (by omega)))).trans (hc5.mono (by omega) (fun _ _ h=>h))
     obtain ⟨cq,hcq⟩:∃cq,((txt k y).count 10:Nat)=cq:=⟨_,rfl⟩;rw [hcq] at hlin
     have HQ:Hid (pcU zs k++[(⟨2+(k:Int),0,(y:Int),(cq:Int)⟩:C4)]=pcU zs (k+1)):=by
      show _=_;rw [pcU_succ];unfold pcA lin;rw [HTN.out,hcq]
      congr 2
     have hs5:=H5.out.2.2.size;have hcqb:cq≤y:=by rw [←hcq];exact Nat.le_trans List.count_le_length (by rw [txt_len];exact Nat.le_refl _)
     clear hcq him hc5 HB4;go_wp2_with fail
     refine hlin.mono ?_;clear hlin;rintro e w' ⟨rfl,rfl⟩
     go_wp2_with (at_builtin;refine append_c4n 29 72 Tryz.underlying29 infoP rfl _ _ rfl w0.heap.size u13 (pcU zs k) rfl (H5.out.2.1.below' ((Below.refl _ _).alloc (Nat.le_refl _) _)) ⟨2+(k:Int),0,(y:Int),(cq:Int)⟩ w'.heap.size rfl (at4_new w' ⟨2+(k:Int),0,(y:Int),(cq:Int)⟩ _) (by rw [pcU_len];omega) (Nat.le_trans hs5 (by rw [heap_alloc_size];omega)) k (pcU_len _ _) (pcU zs (k+1)) HQ.out ?_;intro b7 c7 w7 ho7 hb7;have H7:Hid (BdI w.heap.size w0 w7 gb n n N zs (k+1) (.slice b7 (k+1) c7)):=(by
      have hgs:=HB0.out.2.2.2.2;exact ⟨H5.out.1.kept ((hb7.block gb (by omega)).trans (heap_alloc_old w' _ (by omega))),ho7,(H5.out.2.2.alloc hs5 _).trans (Ch.of _ hb7)⟩);clear ho7 hb7)
     go_roundg (m-(k+1))
     case rel=>exact ⟨k+1,by omega,rfl,by go_num,by go_num,H7.out⟩
     case measure=>have:=HGK.out;omega
  ·obtain rfl:k=m:=by omega
   obtain ⟨al,cl,hv,hrl,-⟩:=HI.out.pc.row (fun x hx=>wfC_ok (pcU_ok zs (by omega) x hx));rw [pcU_len] at hv;subst hv;have hal:∀x,al=some x→w0.heap.size≤x.block∧x.block<wr.heap.size:=fun x e=>World.ownsRow.lt HI.out.pc x.block (by rw [e];rfl)
   have hgsb:=HB0.out.2.2.2.2;have hgr:=grow_v (b:=2+k) HI.out.im (by omega) hrl (fun x e=>by have:=hal x e;omega) (pcU_ok zs (by omega)) (pcU_len zs k) hm4 (by omega) (by omega);rw [show (((2+k:Nat):Int))=2+(k:Int) from by omega] at hgr;have HRL:Hid (RowC wr al cl (pcU zs k)∧∀x,al=some x→w0.heap.size≤x.block∧x.block<wr.heap.size):=⟨hrl,hal⟩;have hsr:=HI.out.ch.size
   have HSR:Hid (SpAt wr sb ⟨1+g0,(N:Int),0,0,0,0,0,0⟩∧SpAt wr rb sp0∧Below w.heap.size w wr):=by
    have hr:=HRB.out;refine ⟨(HI.out.ch.block sb hgsb.1 (by omega)).trans HB0.out.2.1,?_,HB0.out.1.trans ((HI.out.ch.mono HB0.out.1.size (fun _ _ h=>h)).below (fun k e=>by omega))⟩;rw [←hr];exact (HI.out.ch.block w.heap.size (by omega) (by omega)).trans HB0.out.2.2.1
   clear hrl hal HI HGK hk hlt;go_wp2_with fail
   refine hgr.mono ?_;clear hgr;rintro e w2 ⟨r,hh,b,P2,rfl,him2,htre,hble,hfar,hch2⟩;rw [pcU_len] at hble
   have HS2:Hid (SpAt w2 sb ⟨1+g0,(N:Int),0,0,0,0,0,0⟩∧SpAt w2 rb sp0∧Below w.heap.size w w2∧ImM w.heap.size w2 gb n n N P2):=by
    have hr:=HRB.out;have hsz:=HSR.out.2.2.size;refine ⟨(hch2.block sb (by omega) (by omega)).trans HSR.out.1,(hch2.block rb (by omega) (by omega)).trans HSR.out.2.1,HSR.out.2.2.trans ((hch2.mono hsz (fun _ _ h=>h)).below (fun k e=>by omega)),him2⟩
   have HT:Hid (Tre P2 (pcU zs k) (2+k) r hh b∧(∀j,(j<2+k∨b≤j)→P2 j=txP zs k j)∧Ch wr.heap.size (fun x=>x=gb) wr w2):=⟨htre,hfar,hch2⟩;obtain ⟨-,-,z2,z3,-⟩:=HS2.out.1.cell;have f2:=HS2.out.1.frz 2;have f3:=HS2.out.1.frz 3;have HS3:Hid (SpAt ((w2.setCell ⟨sb,2,none⟩ (.int .i64 (r:Int))).setCell ⟨sb,3,none⟩ (.int .i64 (hh:Int))) sb ⟨1+g0,(N:Int),(r:Int),(hh:Int),0,0,0,0⟩∧Ch w2.heap.size (fun x=>x=sb) w2 ((w2.setCell ⟨sb,2,none⟩ (.int .i64 (r:Int))).setCell ⟨sb,3,none⟩ (.int .i64 (hh:Int)))):=⟨(HS2.out.1.set2 _).set3 _,((Ch.refl _ (fun x=>x=sb) w2).setCell (p:=⟨sb,2,none⟩) (.inr rfl) _).setCell (p:=⟨sb,3,none⟩) (.inr rfl) _⟩
   have hb2:2+k≤b:=by
    rcases htre with h|h|⟨D,h⟩<;>omega
   clear htre hfar hch2 him2 HSR;go_wp2_with fail
   obtain ⟨w3,hw3⟩:∃w3,(w2.setCell ⟨sb,2,none⟩ (.int .i64 (r:Int))).setCell ⟨sb,3,none⟩ (.int .i64 (hh:Int))=w3:=⟨_,rfl⟩;rw [hw3] at HS3 ⊢;have hs2r:=HT.out.2.2.size;have hs3:=HS3.out.2.size;clear hw3 z2 z3 f2 f3;have HJ0:Hid (SpAt w3 sb ⟨1+g0,(N:Int),(r:Int),(hh:Int),((((pcU zs k).drop 0).take 0).map (·.c)).sum,((((pcU zs k).drop 0).take 0).map (·.d)).sum,0,0⟩∧Ch w3.heap.size (fun x=>x=sb) w3 w3):=⟨by simpa using HS3.out.1,Ch.refl _ _ _⟩;go_loopg [18] k (fun gh i wx=>∃y:Nat,y≤k∧gh=k-y∧i=.int .i64 (y:Int)∧Hid (SpAt wx sb ⟨1+g0,(N:Int),(r:Int),(hh:Int),((((pcU zs k).drop 0).take y).map (·.c)).sum,((((pcU zs k).drop 0).take y).map (·.d)).sum,0,0⟩∧Ch w3.heap.size (fun x=>x=sb) w3 wx))
   case atStart=>exact ⟨0,Nat.zero_le _,rfl,rfl,HJ0.out⟩
   case round=>
    clear HJ0;obtain ⟨y,hy,hgk,rfl,HJ⟩:=hrel;have HGK2:Hid (gk=k-y):=hgk;clear hgk;by_cases hly:y<k
    ·obtain ⟨n1,n2,n3,n4,n5,n6⟩:=part_next (l:=pcU zs k) (i:=0) (k:=y) (cn:=k) (pcU_len zs k) hly (by omega) (pcU_ok zs (by omega));obtain ⟨lb,lo,rfl⟩:=HRL.out.1.some' (by rw [pcU_len];omega);have hlb:w0.heap.size≤lb∧lb<_:=HRL.out.2 _ rfl;have hAt:=HRL.out.1.cells y (by rw [pcU_len];exact hly);have hc1':=HRL.out.1.2.1;have hc2':=HRL.out.1.2.2.1;rw [pcU_len] at hc1';unfold maxLen at hc2';have hcell:∀o,wr.cell? ⟨lb,o,none⟩=_:=fun o=>(HJ.out.2.cell (p:=⟨lb,o,none⟩) (by show lb<_;omega) (by show ¬lb=sb;omega)).trans ((HS3.out.2.cell (p:=⟨lb,o,none⟩) (by show lb<_;omega) (by show ¬lb=sb;omega)).trans (HT.out.2.2.cell (p:=⟨lb,o,none⟩) hlb.2 (by show ¬lb=gb;omega)))
     obtain ⟨-,-,ca2,ca3⟩:=hAt;rw [←hcell] at ca2 ca3;obtain ⟨-,-,-,-,k4,k5,-⟩:=HJ.out.1.cell;have f4:=HJ.out.1.frz 4;have f5:=HJ.out.1.frz 5;rw [Nat.zero_add] at n1 n2 n3 n4
     have HS:Hid (SpAt ((wr.setCell ⟨sb,4,none⟩ (.int .i64 (((((pcU zs k).drop 0).take y).map (·.c)).sum+((pcU zs k).getD y c40).c))).setCell ⟨sb,5,none⟩ (.int .i64 (((((pcU zs k).drop 0).take y).map (·.d)).sum+((pcU zs k).getD y c40).d))) sb ⟨1+g0,(N:Int),(r:Int),(hh:Int),((((pcU zs k).drop 0).take (y+1)).map (·.c)).sum,((((pcU zs k).drop 0).take (y+1)).map (·.d)).sum,0,0⟩∧Ch w3.heap.size (fun x=>x=sb) w3 ((wr.setCell ⟨sb,4,none⟩ (.int .i64 (((((pcU zs k).drop 0).take y).map (·.c)).sum+((pcU zs k).getD y c40).c))).setCell ⟨sb,5,none⟩ (.int .i64 (((((pcU zs k).drop 0).take y).map (·.d)).sum+((pcU zs k).getD y c40).d)))):=by
      rw [n1,n2];exact ⟨(HJ.out.1.set4 _).set5 _,(HJ.out.2.setCell (p:=⟨sb,4,none⟩) (.inr rfl) _).setCell (p:=⟨sb,5,none⟩) (.inr rfl) _⟩
     have hlsb:¬lb=sb:=by omega
     clear n1 n2 hcell HJ;simp only at k4 k5;obtain ⟨sc,hsc⟩:∃sc,((((pcU zs k).drop 0).take y).map (·.c)).sum=sc:=⟨_,rfl⟩;obtain ⟨sd,hsd⟩:∃sd,((((pcU zs k).drop 0).take y).map (·.d)).sum=sd:=⟨_,rfl⟩;obtain ⟨xc,hxc⟩:∃xc,((pcU zs k).getD y c40).c=xc:=⟨_,rfl⟩;obtain ⟨xd,hxd⟩:∃xd,((pcU zs k).getD y c40).d=xd:=⟨_,rfl⟩;rw [hsc,hsd,hxc,hxd] at HS;rw [hsc] at k4 n5;rw [hsd] at k5 n6;rw [hxc] at ca2 n3;rw [hxd] at ca3 n4;clear hsc hsd hxc hxd;go_wp2_with fail
     go_region
     go_wp2_with fail
     go_region
     go_wp2;go_roundg (k-(y+1))
     case rel=>exact ⟨y+1,by omega,rfl,by go_num,(show _∧_ from ⟨HS.out.1,HS.out.2.drew.drew⟩)⟩
     case measure=>have:=HGK2.out;omega
    ·obtain rfl:y=k:=by omega
     have hpl:(pcU zs y).drop 0=pcU zs y:=rfl;have htk:((pcU zs y).drop 0).take y=pcU zs y:=by rw [hpl];exact List.take_of_length_le (by rw [pcU_len];exact Nat.le_refl _)
     obtain ⟨S3,hS3⟩:∃S3,(⟨1+g0,(N:Int),(r:Int),(hh:Int),((pcU zs y).map (·.c)).sum,((pcU zs y).map (·.d)).sum,0,0⟩:Sp)=S3:=⟨_,rfl⟩
     have HS4:Hid (SpAt wr sb S3∧SpAt wr rb sp0∧Below w.heap.size w wr∧ImM w.heap.size wr gb n n N P2):=by
      have hr:=HRB.out;have hbs:=HS2.out.2.2.1.size;have hk1:∀g,g<w2.heap.size→¬g=sb→wr.heap[g]?=w2.heap[g]?:=fun g h1 h2=>(HJ.out.2.block g (by omega) h2).trans (HS3.out.2.block g h1 h2)
      refine ⟨?_,(hk1 rb (by omega) (by omega)).trans HS2.out.2.1,(HS2.out.2.2.1.trans ((HS3.out.2.mono hbs (fun _ _ h=>h)).below (fun k e=>by omega))).trans ((HJ.out.2.mono (by omega) (fun _ _ h=>h)).below (fun k e=>by omega)),HS2.out.2.2.2.kept (hk1 gb (by omega) (by omega))⟩;have:=HJ.out.1;rw [htk,hS3] at this;exact this
     have HS3E:Hid ((⟨1+g0,(N:Int),(r:Int),(hh:Int),((pcU zs y).map (·.c)).sum,((pcU zs y).map (·.d)).sum,0,0⟩:Sp)=S3):=hS3;have hbl:=blob_v (b:=b) HS4.out.2.2.2 (by omega) (HZ.out.2.2.1.below HS4.out.2.2.1) hnil HZ.out.2.2.2 (by omega) (by omega);have hsb2:sb<wr.heap.size:=heap_lt HS4.out.1;clear hpl htk hS3 HJ HGK2 hy hly;obtain ⟨sv,hsv⟩:∃sv:Int,(if q=0 then (0:Int) else ((b:Nat):Int))=sv:=⟨_,rfl⟩;rw [hsv] at hbl;have HSV:Hid ((if q=0 then (0:Int) else ((b:Nat):Int))=sv):=hsv;clear hsv;go_wp2_with fail
     refine hbl.mono ?_;clear hbl;rintro e w4 ⟨rfl,him4,hc4⟩
     have HS5:Hid (SpAt w4 sb S3∧SpAt w4 rb sp0∧Below w.heap.size w w4∧ImM w.heap.size w4 gb n n N (chaK P2 st b (ned q))):=by
      have hr:=HRB.out;have hbs:=HS4.out.2.2.1.size;exact ⟨(hc4.block sb hsb2 (by omega)).trans HS4.out.1,(hc4.block rb (by omega) (by omega)).trans HS4.out.2.1,HS4.out.2.2.1.trans ((hc4.mono hbs (fun _ _ h=>h)).below (fun k e=>by omega)),him4⟩
     obtain ⟨-,-,-,-,-,-,z6,-⟩:=HS5.out.1.cell;have f6:=HS5.out.1.frz 6
     have HS6:Hid (SpAt (w4.setCell ⟨sb,6,none⟩ (.int .i64 sv)) sb {S3 with s:=sv}∧SpAt (w4.setCell ⟨sb,6,none⟩ (.int .i64 sv)) rb sp0∧Below w.heap.size w (w4.setCell ⟨sb,6,none⟩ (.int .i64 sv))∧ImM w.heap.size (w4.setCell ⟨sb,6,none⟩ (.int .i64 sv)) gb n n N (chaK P2 st b (ned q))):=by
      have hr:=HRB.out;have hk1:∀g,¬g=sb→(w4.setCell ⟨sb,6,none⟩ (.int .i64 sv)).heap[g]?=w4.heap[g]?:=fun g h2=>Below.heap_setCell w4 ⟨sb,6,none⟩ _ g h2
      exact ⟨HS5.out.1.set6 _,(hk1 rb (by omega)).trans HS5.out.2.1,HS5.out.2.2.1.setCell (by show _≤sb;omega) _,HS5.out.2.2.2.kept (hk1 gb (by omega))⟩
     clear hc4 him4;simp only [Int.natCast_add] at*;go_upto_region 26 with fail
     obtain ⟨w5,hw5⟩:∃w5,w4.setCell ⟨sb,6,none⟩ (.int .i64 sv)=w5:=⟨_,rfl⟩;rw [hw5] at HS6 ⊢;obtain ⟨fb,hfb⟩:∃fb,b+ned q=fb:=⟨_,rfl⟩;have hfbi:(b:Int)+(ned q:Int)=(fb:Int):=by omega
     have HFB:Hid (b+ned q=fb):=hfb;rw [hfbi];obtain ⟨nb,hnb⟩:∃nb,(N+7)/8=nb:=⟨_,rfl⟩;have HNB:Hid ((N+7)/8=nb):=hnb;have hq8:((N:Int)+7)/8=(nb:Int):=by omega
     have hnb1:1≤nb∧nb≤25:=by omega
     have hned:= @rNeed_any (nb:Int);rw [nedI_nat] at hned;obtain ⟨nd,hnd⟩:∃nd,ned nb=nd:=⟨_,rfl⟩;have hnd1:nd=1:=by rw [←hnd];unfold ned;omega
     rw [hnd] at hned;have HND:Hid (ned nb=nd):=hnd;have hmx:nb≤maxLen:=by unfold maxLen;omega
     have hfbN:fb+nd≤N:=by omega
     have HFN:Hid (nd=1):=hnd1;have hnd2:nd≤1:=by omega
     have hfb2:fb≤200:=by omega
     clear hw5 z6 f6 hfb hnb hnd hnd1 hfbi;go_wp2_with (at_make;refine wpList_make_full _ rfl _ _ 30 rfl w5.heap.size 5 i0 (.int .u8 0) 1 Tryz.underlying30 hi0 hz0 hz1 .i64 .i64 _ _ nb rfl rfl (by first|rfl|exact hq8) (by first|rfl|exact hq8) (by rw [hz2];omega) hmx (Nat.le_refl _) ?_;intro w6 hown6 hgrow6;have HO6:Hid (Own w5.heap.size w6 (.slice (some ⟨w5.heap.size,0,none⟩) nb nb) (bitsP (fun j=>decide (j<0)) N)∧Below w5.heap.size w5 w6):=⟨(by rw [show (fun j=>decide (j<0))=(fun _=>false) from by funext j;simp,bitsP_none,HNB.out];exact made_own hown6),(Below.refl _ w5).grown hgrow6 (Nat.le_refl _) (by simp)⟩;clear hown6 hgrow6)
     refine (hned w6 (by omega) (by omega)).mono ?_;rintro e w' ⟨rfl,rfl⟩;obtain ⟨ub,hub⟩:∃ub,w5.heap.size=ub:=⟨_,rfl⟩;rw [hub] at HO6 ⊢;have HUB:Hid (w5.heap.size=ub):=hub;clear hub hned hmx;obtain ⟨ce,hce⟩:∃ce,fb+nd=ce:=⟨_,rfl⟩;have hcei:(fb:Int)+(nd:Int)=(ce:Int):=by omega
     have HCE:Hid (fb+nd=ce):=hce;have hceN:ce≤N:=by omega
     clear hce;go_wp2_with fail
     go_loopg [21] ce (fun gh i wx=>∃x:Nat,x≤ce∧gh=ce-x∧i=.int .i64 (x:Int)∧Hid (Own ub wx (.slice (some ⟨ub,0,none⟩) nb nb) (bitsP (fun j=>decide (j<x)) N)∧Below ub w5 wx))
     case atStart=>exact ⟨0,Nat.zero_le _,rfl,rfl,HO6.out⟩
     case round=>
      clear HO6;obtain ⟨x,hx,hgk,rfl,HJ⟩:=hrel;have HGK2:Hid (gk=ce-x):=hgk;clear hgk;by_cases hlx:x<ce
      ·obtain ⟨-,b1,b2,hst⟩:=own_at' HJ.out.1 (x/8) (by rw [bitsP_len];have:=HNB.out;omega);have hyb:=(bitsP_bys (fun j=>decide (j<x)) N).at (x/8);have hyn:=bitsP_or (u:=fun j=>decide (j<x)) (v:=fun j=>decide (j<x+1)) (n:=N) (k:=x) (by omega) (by simp) (fun i hi=>decide_eq_decide.2 (by omega));obtain ⟨zz,hzz⟩:∃zz,(bitsP (fun j=>decide (j<x)) N).getD (x/8) 0=zz:=⟨_,rfl⟩;rw [hzz] at b1 hyn hyb;have hjl:x/8<nb:=by have:=HNB.out;omega
       obtain ⟨j,hj⟩:∃j,x/8=j:=⟨_,rfl⟩;have hkj:((x:Int)/8)=(j:Int):=by omega
       rw [hj] at b1 b2 hst hyn hjl;obtain ⟨r8,hr⟩:∃r,x%8=r:=⟨_,rfl⟩;have hkr:((x:Int)%8)=(r8:Int):=by omega
       have hr8:r8<8:=by omega
       rw [hr] at hyn;have HS:Hid _:=hst;have HY:Hid _:=hyn;have HJB:Hid (Below ub w5 wr):=HJ.out.2;clear hst hyn hzz hj hr HJ;go_wp2;go_roundg (ce-(x+1))
       case rel=>exact ⟨x+1,by omega,rfl,by go_num,(show _∧_ from ⟨by rw [←HY.out];exact HS.out _,HJB.out.setCell (Nat.le_refl _) _⟩)⟩
       case measure=>have:=HGK2.out;omega
      ·obtain rfl:x=ce:=by omega
       have HS7:Hid (SpAt wr sb {S3 with s:=sv}∧SpAt wr rb sp0∧Below w.heap.size w wr∧ImM w.heap.size wr gb n n N (chaK P2 st b (ned q))):=by
        have hu:=HUB.out;have hs1:=heap_lt HS6.out.1;have hs2:=heap_lt HS6.out.2.1;have hs4:=HS6.out.2.2.2.lt.2.1;exact ⟨(HJ.out.2.block sb (by omega)).trans HS6.out.1,(HJ.out.2.block rb (by omega)).trans HS6.out.2.1,HS6.out.2.2.1.trans (HJ.out.2.mono (by have:=HS6.out.2.2.1.size;omega)),HS6.out.2.2.2.kept (HJ.out.2.block gb (by omega))⟩
       have hbl:=blob_v (b:=fb) (m:=nb) HS7.out.2.2.2 (by omega) (HJ.out.1.row' (bitsP_bys _ _)).2 (fun e=>by cases e) (by rw [bitsP_len,HNB.out]) (by have:=HFB.out;omega) (by rw [HND.out];omega);rw [if_neg (by omega:¬nb=0)] at hbl;have hsb7:=heap_lt HS7.out.1;have hrb7:=heap_lt HS7.out.2.1;clear HJ HGK2 hx hlx;go_wp2_with fail
       refine hbl.mono ?_;clear hbl;rintro e w8 ⟨rfl,him8,hc8⟩
       have HS8:Hid (SpAt w8 sb {S3 with s:=sv}∧SpAt w8 rb sp0∧Below w.heap.size w w8∧ImM w.heap.size w8 gb n n N (chaK (chaK P2 st b (ned q)) (bitsP (fun j=>decide (j<x)) N) fb (ned nb))):=by
        have hr:=HRB.out;have hbs:=HS7.out.2.2.1.size;exact ⟨(hc8.block sb hsb7 (by omega)).trans HS7.out.1,(hc8.block rb hrb7 (by omega)).trans HS7.out.2.1,HS7.out.2.2.1.trans ((hc8.mono hbs (fun _ _ h=>h)).below (fun k e=>by omega)),him8⟩
       obtain ⟨-,-,-,-,-,-,-,z7⟩:=HS8.out.1.cell;have f7:=HS8.out.1.frz 7;obtain ⟨S,hS⟩:∃S,({S3 with s:=sv,f:=(fb:Int)}:Sp)=S:=⟨_,rfl⟩
       have HS9:Hid (SpAt (w8.setCell ⟨sb,7,none⟩ (.int .i64 (fb:Int))) sb S∧SpAt (w8.setCell ⟨sb,7,none⟩ (.int .i64 (fb:Int))) rb sp0∧Below w.heap.size w (w8.setCell ⟨sb,7,none⟩ (.int .i64 (fb:Int)))∧ImM w.heap.size (w8.setCell ⟨sb,7,none⟩ (.int .i64 (fb:Int))) gb n n N (chaK (chaK P2 st b (ned q)) (bitsP (fun j=>decide (j<x)) N) fb (ned nb))):=by
        have hr:=HRB.out;have hk1:∀g,¬g=sb→(w8.setCell ⟨sb,7,none⟩ (.int .i64 (fb:Int))).heap[g]?=w8.heap[g]?:=fun g h2=>Below.heap_setCell w8 ⟨sb,7,none⟩ _ g h2
        have:=HS8.out.1.set7 (fb:Int);rw [hS] at this;exact ⟨this,(hk1 rb (by omega)).trans HS8.out.2.1,HS8.out.2.2.1.setCell (by show _≤sb;omega) _,HS8.out.2.2.2.kept (hk1 gb (by omega))⟩
       have HSE:Hid ((⟨1+g0,(N:Int),(r:Int),(hh:Int),((pcU zs y).map (·.c)).sum,((pcU zs y).map (·.d)).sum,sv,(fb:Int)⟩:Sp)=S):=by
        show _=_;rw [←hS,←HS3E.out]
       have hok:okS S=true:=by
        rw [←HSE.out];exact bd_okS HT.out.1 (by omega) h8 (by omega) hgen HFB.out (by have:=HFN.out;omega) HSV.out
       have henz:enZ S=sealL (pgS S):=by unfold enZ;rw [if_pos hok]
       have hlen:(enZ S).length=256:=by rw [henz];exact seal_len (by show (preS S 8).length≤248;rw [preS_len S 8 (Nat.le_refl _)];decide)
       have hbyz:Bys (enZ S):=by rw [henz];exact seal_bys (preS_bys S 8)
       have HOK:Hid (Bys (enZ S)∧(enZ S).length=256):=⟨hbyz,hlen⟩;obtain ⟨w9,hw9⟩:∃w9,w8.setCell ⟨sb,7,none⟩ (.int .i64 (fb:Int))=w9:=⟨_,rfl⟩;go_upto_region 34 with fail
       rw [hw9] at HS9;have hen:=rencode_v S w9 0 (by unfold enE;rw [if_pos hok]) (enZ S) rfl 256 hlen;unfold spV at hen;obtain ⟨a0,a1',a2',a3,a4,a5,a6,a7⟩:=HS9.out.1.cell;clear hS hw9 z7 f7 hc8 him8 hok henz hlen hbyz;go_wp2_with fail
       refine hen.mono ?_;clear hen;rintro e w10 ⟨gz,cz,rfl,hoz,hb10⟩;have hsb9:=heap_lt HS9.out.1;have hrb9:=heap_lt HS9.out.2.1;have hgb9:=HS9.out.2.2.2.lt.2.1;have hb10s:=hb10.size
       have hly:=(HS9.out.2.2.2.kept (w':=w10) (hb10.block gb hgb9)).lay (by omega) (k:=0) (by omega) (hoz.row' HOK.out.1).2 HOK.out.2 (fun x e=>by
        have:=World.ownsRow.lt hoz x.block (by rw [e];rfl);omega)
       rw [show (((0:Nat):Int))=0 from rfl] at hly;have HS10:Hid (SpAt w10 sb S∧SpAt w10 rb sp0∧Below w.heap.size w w10):=⟨(hb10.block sb hsb9).trans HS9.out.1,(hb10.block rb hrb9).trans HS9.out.2.1,HS9.out.2.2.1.trans (hb10.mono HS9.out.2.2.1.size)⟩;clear hoz hb10;go_wp2_with fail
       refine (first_v gz 256 cz 0 w10).mono ?_;rintro e w' ⟨rfl,rfl⟩;go_wp2_with fail
       refine hly.mono ?_;clear hly;rintro e w11 ⟨rfl,him,hc11⟩
       have HS11:Hid (SpAt w11 sb S∧SpAt w11 rb sp0∧Below w.heap.size w w11∧ImM w.heap.size w11 gb n n N (putP (chaK (chaK P2 st b (ned q)) (bitsP (fun j=>decide (j<x)) N) fb (ned nb)) 0 (enZ S))):=by
        have hr:=HRB.out;have hbs:=HS10.out.2.2.size;exact ⟨(hc11.block sb (by omega) (by omega)).trans HS10.out.1,(hc11.block rb (by omega) (by omega)).trans HS10.out.2.1,HS10.out.2.2.trans ((hc11.mono hbs (fun _ _ h=>h)).below (fun k e=>by omega)),him⟩
       clear him hc11 a0 a1' a2' a3 a4 a5 a6 a7;obtain ⟨a0,a1',a2',a3,a4,a5,a6,a7⟩:=HS11.out.1.cell;obtain ⟨e0,e1,e2,e3,e4,e5,e6,e7⟩:=HS11.out.2.1.cell;have g0':=HS11.out.2.1.frz 0;have g1':=HS11.out.2.1.frz 1;have g2':=HS11.out.2.1.frz 2;have g3':=HS11.out.2.1.frz 3;have g4':=HS11.out.2.1.frz 4;have g5':=HS11.out.2.1.frz 5;have g6':=HS11.out.2.1.frz 6;have g7':=HS11.out.2.1.frz 7;go_upto_region 35 with fail
       have HW:Hid (SpAt (wrS w11 rb S).drew rb S):=(HS11.out.2.1.wrS S).drew
       have HE:Hid (∃g c L S',Ending.returned (.tuple #[.slice (some ⟨gb,0,none⟩) n n,.agg #[.int .i64 S.g,.int .i64 S.p,.int .i64 S.r,.int .i64 S.h,.int .i64 S.b,.int .i64 S.l,.int .i64 S.s,.int .i64 S.f]])=.returned (.tuple #[.slice (some ⟨g,0,none⟩) n c,spV S'])∧Own w.heap.size (wrS w11 rb S).drew (.slice (some ⟨g,0,none⟩) n c) L∧Snd N L S' zs st∧Below w.heap.size w (wrS w11 rb S).drew):=by
        obtain ⟨L,hoL,hiL⟩:=HS11.out.2.2.2;have hx:x=fb+ned nb:=by rw [HND.out,HCE.out]
        rw [hx] at hiL;have hr:=HRB.out;refine ⟨gb,n,L,S,rfl,own_drew1 (hoL.kept (wrS_same w11 rb S gb (by omega))),?_,(wrS_below HS11.out.2.2.1 (by omega) S).drew⟩;exact (bd_make HT.out.1 HT.out.2.1 HZ.out.2.1 HZ.out.2.2.2 HZ.out.2.2.1.1 (by omega) h8 (by omega) hgen HFB.out HNB.out (by rw [HND.out];omega) HSV.out HSE.out).snd hiL
       obtain ⟨wz,hwz⟩:∃wz,(wrS w11 rb S).drew=wz:=⟨_,rfl⟩;rw [hwz] at HW HE;unfold wrS at hwz;go_region
       go_wp2
       try rw [hwz]
       refine bodyPost_ret (results_tmprow rfl _ _ rb _ #[.int .i64 S.g,.int .i64 S.p,.int .i64 S.r,.int .i64 S.h,.int .i64 S.b,.int .i64 S.l,.int .i64 S.s,.int .i64 S.f] (0,0) _ rfl HW.out Tryz.underlying28 rfl (by kernel_rfl)) rfl ?_;exact HE.out
end Go.Proofs.YtjllhcifmfhkmaaGreat.Oct
