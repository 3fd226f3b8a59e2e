/- Part of a proof. -/
import Derived.Test.YtjllhcifmfhkmaaGreatGc
import Derived.ArgAppend
import Derived.Maps.AppendAt
import Derived.Test.YtjllhcifmfhkmaaGreatAuw
set_option maxHeartbeats 4000000
namespace Go.Proofs.YtjllhcifmfhkmaaGreat.Oct
open Go.RowKit
theorem run_append_mid {P:Program} (w:World) (t ty e:TypeId) (i:TypeInfo) (ht:P.underlying t=some (.slice e)) (hi:P.info? e=some i)
  (g off sLen sCap:Nat) (cur:Array Value) (hg:w.heap[g]?=some (.cells cur e (0,0)))
  (a:Addr) (m c:Nat) (news:List Value) (hl:news.length=m*i.size) (hnews:∀j u,news[j]?=some u→w.cell? (a.add j)=some u) (h1:∀u∈news,u.oneCell'=true)
  (hroom:sLen+m≤sCap) (hfit:off+sLen*i.size+news.length≤cur.size):
  (Builtin.append_ #[t,t] ty #[.slice (some ⟨g,off,none⟩) sLen sCap,.slice (some a) m c]).run P w=
   .ok (.slice (some ⟨g,off,none⟩) (sLen+m) sCap) (w.setRow g (cur.toList.take (off+sLen*i.size)++news++cur.toList.drop (off+sLen*i.size+news.length)).toArray):=by
 have hf:=run_firstCells_some (P:=P) w i.size m a m c news hl hnews;have hst:=run_storeCells_at P g (off+sLen*i.size) e news 0 cur w hg (by simpa using hfit) h1;simp only [Nat.add_zero] at hst;simp [Builtin.append_,run_underlying ht,sizeOf,typeInfo,hi,Builtin.lenOf,hroom,hf,Addr.add_lit,hst]
theorem OutAt.of_own {w:World} {base n:Nat} {v:Value} {zs:List Int} (h:w.ownsRow base 5 1 v n (zs.map (Value.int .u8))):OutAt w v zs:=by
 have hn:n=zs.length:=by have:=h.1;simp at this;omega
 subst hn;rcases h.2 with ⟨e,h0⟩|⟨g,cap,cur,e,_,hg,h1,h2,h3,h4⟩
 ·exact .inl ⟨by rw [e],List.eq_nil_of_length_eq_zero h0⟩
 ·refine .inr ⟨g,0,cap,cur,e,hg,h1,h2,by omega,fun i hi=>?_⟩;rw [Nat.mul_one] at h4;have:(cur.toList.take zs.length)[i]?=some (.int .u8 (zs.getD i 0)):=by rw [h4,List.getElem?_map,List.getD_eq_getElem?_getD,List.getElem?_eq_getElem hi];rfl
  rw [List.getElem?_take,if_pos hi] at this;rw [Nat.zero_add]
  simpa using this
theorem append_out (w:World) (v:Value) (zs ls:List Int) (hO:OutAt w v zs) (sa:Option Addr) (c:Nat) (hl:Row w sa c ls) (hnil:sa=none→c=0) (hsz:zs.length+ls.length≤1000000) (ty:TypeId):
  ∃v' w',(Builtin.append_ #[30,30] ty #[v,.slice sa ls.length c]).run Tryz.prog w=.ok v' w'∧OutAt w' v' (zs++ls)∧w.grownBy w' v.ownBlock∧(∀k,v'.ownBlock=some k→v.ownBlock=some k∨w.heap.size≤k):=by
 obtain ⟨i0,hi,hz0,hz1,hz2⟩:=info_parts info5;cases sa with
 |none=>
  have hz:ls=[]:=by
   rcases hl.2.2.2 with h|⟨b,off,e,_⟩
   ·exact h
   ·exact absurd e (by simp)
  subst hz;rw [hnil rfl,List.append_nil];rcases id hO with ⟨rfl,rfl⟩|⟨g,off,cap,cur,rfl,hg,h1,h2,h3,h4⟩
  ·exact ⟨.slice none 0 0,w,by simp [Builtin.append_,run_underlying Tryz.underlying30,sizeOf,typeInfo,hi,Builtin.lenOf,Builtin.firstCells],hO,⟨rfl,rfl,rfl,Nat.le_refl _,fun _ _ _=>rfl⟩,fun k hk=>.inl hk⟩
  ·exact ⟨.slice (some ⟨g,off,none⟩) zs.length cap,w,by simp [Builtin.append_,run_underlying Tryz.underlying30,sizeOf,typeInfo,hi,Builtin.lenOf,Builtin.firstCells,h1,storeCells],hO,⟨rfl,rfl,rfl,Nat.le_refl _,fun _ _ _=>rfl⟩,fun k hk=>.inl hk⟩
 |some ad=>
  have hn:=row_news hl;rcases id hO with ⟨rfl,rfl⟩|⟨g,off,cap,cur,rfl,hg,h1,h2,h3,h4⟩
  ·obtain ⟨v',w',hr,ho,hgr,_,hat⟩:=run_append_own_at (P:=Tryz.prog) w 0 30 ty 5 i0 (.int .u8 0) 1 1 Tryz.underlying30 hi hz0 hz1 hz2 rfl (by decide) _ _ _ (World.ownsRow_nil w 0 5 1) ad ls.length c (ls.map (Value.int .u8)) (by simp) hn (one_cells ls) (by unfold maxLen;simp at hsz;omega) (by simp at hsz;omega) (by simp);exact ⟨v',w',hr,OutAt.of_own (by simpa using ho),hgr,fun k hk=>by rcases hat with e|e;exact .inl (by rw [←e];exact hk);right;rw [e] at hk;simp at hk;omega⟩
  ·by_cases hr:zs.length+ls.length≤cap
   ·have hrun:=run_append_mid (P:=Tryz.prog) w 30 ty 5 i0 Tryz.underlying30 hi g off zs.length cap cur hg ad ls.length c (ls.map (Value.int .u8)) (by rw [hz1];simp) hn (one_cells ls) hr (by rw [hz1];simp;omega);refine ⟨_,_,hrun,.inr ⟨g,off,cap,_,by simp,setRow_heap w g cur _ _ _ hg,by simp;omega,h2,?_,fun i hi=>?_⟩,⟨rfl,rfl,rfl,by simp [World.setRow],fun k _ hk=>setRow_other w g k _ (by intro e;apply hk;rw [e];rfl)⟩,fun k hk=>.inl hk⟩
    ·simp [hz1];omega
    ·have hcl:cur.toList.length=cur.size:=by simp
     simp only [List.length_append] at hi;rw [hz1,Nat.mul_one,List.getElem?_toArray,app_at];by_cases hlt:i<zs.length
     ·rw [if_pos hlt,List.append_assoc,List.getElem?_append_left (by simp;omega),List.getElem?_take,if_pos (by omega)]
      simpa using h4 i hlt
     ·rw [if_neg hlt,List.append_assoc,List.getElem?_append_right (by simp;omega),List.getElem?_append_left (by simp;omega),List.length_take,Nat.min_eq_left (by omega),show off+i-(off+zs.length)=i-zs.length by omega,List.getElem?_map,List.getD_eq_getElem?_getD,List.getElem?_eq_getElem (by omega)];rfl
   ·have hold:∀j u,(zs.map (Value.int .u8))[j]?=some u→w.cell? ((⟨g,off,none⟩:Addr).add j)=some u:=by
     intro j u hj;have hj2:j<zs.length:=by have:=(List.getElem?_eq_some_iff.1 hj).1;simpa using this
     rw [Addr.add_lit,cell_of_row w g (off+j) cur _ (0,0) hg,h4 j hj2,←hj,List.getElem?_map,List.getD_eq_getElem?_getD,List.getElem?_eq_getElem hj2];rfl
    obtain ⟨v',w',hrun,ho,hgr⟩:=run_append_arg_grows (P:=Tryz.prog) w 30 ty 5 i0 (.int .u8 0) 1 1 Tryz.underlying30 hi hz0 hz1 hz2 rfl (by decide) ⟨g,off,none⟩ zs.length cap (zs.map (Value.int .u8)) (by simp) hold ad ls.length c (ls.map (Value.int .u8)) (by simp) hn (by omega) (by unfold maxLen;omega) (by omega);refine ⟨v',w',hrun,OutAt.of_own (by rw [List.map_append];exact ho),⟨hgr.os,hgr.tape,hgr.output,hgr.size,fun k hk _=>hgr.block k hk (by simp)⟩,fun k hk=>.inr (World.ownsRow.lt ho k hk).1⟩
theorem OutAt.slice {w:World} {v:Value} {zs:List Int} (h:OutAt w v zs):∃a n c,v=.slice a n c:=by
 rcases h with ⟨h,_⟩|⟨g,off,cap,cur,e,_⟩
 ·exact ⟨_,_,_,h⟩
 ·exact ⟨_,_,_,e⟩
theorem wpList_append_out {w:World} {ops:Array Oper} {rest:List Oper} {o:Oper} {a:Act} {Q:Exit→Act→World→Prop} (hgd:o.guard=none) (s x:Operand)
  (ho:o.op=.call {callee:=.builtin .append,args:= #[s,x],argTypes:= #[30,30]})
  (v:Value) (zs ls:List Int) (hs:a.eval s=v) (hO:OutAt w v zs) (sa:Option Addr) (c:Nat) (hx:a.eval x=.slice sa ls.length c) (hl:Row w sa c ls) (hnil:sa=none→c=0) (hsz:zs.length+ls.length≤1000000)
  (h:∀b n k w',OutAt w' (.slice b n k) (zs++ls)→w.grownBy w' v.ownBlock→(∀k',(Value.slice b n k).ownBlock=some k'→v.ownBlock=some k'∨w.heap.size≤k')→wpList Tryz.prog ops Q rest (a.put o.dst (.slice b n k)) w'):wpList Tryz.prog ops Q (o::rest) a w:=by
 refine wpList_plain hgd fun K hK'=>?_
 obtain ⟨v',w',hr,h1,h2,h3⟩:=append_out w v zs ls hO sa c hl hnil hsz o.type;obtain ⟨b,n,k,rfl⟩:=h1.slice;unfold Oper.wp;simp [execOp,ho,resolve,invoke,builtin,hs,hx,hr,Result.andThen];exact hK' _ _ (h b n k w' h1 h2 h3)
theorem outed {w w2:World} {p:Nat} {F:Nat→Prop} {D:Dv} {gN gL cN cL:Nat} {vS vO v:Value} {f:Int} {l:List Int} (ok:(outD D l).ok) (hF:∀k,F k→k<w.heap.size) (h:DevC w p gN gL cN cL vS vO f D) (hfo:∀k,foot p gN gL vS vO k→F k)
  (ho:OutAt w2 v (D.out++l)) (hgrow:w.grownBy w2 vO.ownBlock) (hat:∀k,v.ownBlock=some k→vO.ownBlock=some k∨w.heap.size≤k) (hlt:∀k,v.ownBlock=some k→k<w2.heap.size):
  ∃F',Dev (w2.setCell ⟨p,3,none⟩ v) p F' (outD D l)∧Step F F' w (w2.setCell ⟨p,3,none⟩ v):=by
 have s2:=hgrow.size;have hp:p<w.heap.size:=hF p (hfo p (.inl rfl));have hN:gN<w.heap.size:=hF gN (hfo gN (.inr (.inl rfl)));have hL:gL<w.heap.size:=hF gL (hfo gL (.inr (.inr (.inl rfl))));have k2:∀k,k<w.heap.size→vO.ownBlock≠some k→w2.heap[k]?=w.heap[k]?:=fun k hk hne=>hgrow.block k hk (fun e=>hne e.symm)
 have k3:∀k,k≠p→(w2.setCell ⟨p,3,none⟩ v).heap[k]?=w2.heap[k]?:=fun k hk=>Below.heap_setCell w2 ⟨p,3,none⟩ _ k hk
 have nv:∀k,k<w.heap.size→vO.ownBlock≠some k→v.ownBlock≠some k:=fun k hk hne e=>by
  rcases hat k e with e2|e2
  ·exact hne e2
  ·omega
 have hcells:w2.heap[p]?=w.heap[p]?:=k2 p hp h.pO;refine ⟨fun k=>F k∨w.heap.size≤k∧k<w2.heap.size,⟨ok,fun k hk=>?_,gN,gL,cN,cL,vS,v,f,?_,fun k hk=>?_⟩,?_,?_⟩
 ·rw [size_setCell];rcases hk with hk|hk
  ·have:=hF k hk;omega
  ·exact hk.2
 ·refine {h with cells:=?_,now:=?_,sure:=?_,since:=?_,out:=?_,fuse:=h.fuse,pO:=nv p hp h.pO,NO:=nv gN hN h.NO,LO:=nv gL hL h.LO,SO:=fun k hk=>nv k (hF k (hfo k (.inr (.inr (.inr (.inl hk)))))) (h.SO k hk)}
  ·rw [setCell_heap w2 p 3 v _ _ _ (hcells.trans h.cells)];rfl
  ·exact h.now.kept ((k3 gN h.pN.symm).trans (k2 gN hN h.NO))
  ·exact h.sure.kept ((k3 gL h.pL.symm).trans (k2 gL hL h.LO))
  ·exact owns_keep h.since (fun k hk=>(k3 k (fun e=>h.pS (e▸hk))).trans (k2 k (hF k (hfo k (.inr (.inr (.inr (.inl hk)))))) (h.SO k hk)))
  ·exact ho.keep (fun k hk=>k3 k (fun e=>nv p hp h.pO (e▸hk)))
 ·rcases hk with hk|hk|hk|hk|hk
  ·exact .inl (hfo k (.inl hk))
  ·exact .inl (hfo k (.inr (.inl hk)))
  ·exact .inl (hfo k (.inr (.inr (.inl hk))))
  ·exact .inl (hfo k (.inr (.inr (.inr (.inl hk)))))
  ·rcases hat k hk with e|e
   ·exact .inl (hfo k (.inr (.inr (.inr (.inr e)))))
   ·exact .inr ⟨e,hlt k hk⟩
 ·exact ((Ch.refl _ F w).grown hgrow (Nat.le_refl _) (fun k hk=>.inr (hfo k (.inr (.inr (.inr (.inr hk))))))).setCell (p:=⟨p,3,none⟩) (.inr (hfo p (.inl rfl))) _
 ·intro k hk;rcases hk with hk|hk
  ·exact .inl hk
  ·exact .inr hk.1
theorem OutAt.lt {w:World} {v:Value} {zs:List Int} (h:OutAt w v zs) (k:Nat) (hk:v.ownBlock=some k):k<w.heap.size:=by
 rcases h with ⟨rfl,_⟩|⟨g,off,cap,cur,rfl,hg,_⟩
 ·simp [Value.ownBlock] at hk
 ·simp [Value.ownBlock] at hk;subst hk;exact heap_lt hg
theorem outcomes_any {w:World} {p:Nat} {F:Nat→Prop} {D:Dv} (h:Dev w p F D) (a:Option Addr) (cap:Nat) (l:List Int) (hr:Row w a cap l) (hnil:a=none→cap=0) (hsz:D.out.length+l.length≤1000000):
  Calls Tryz.prog 21 #[.pointer (some ⟨p,0,none⟩),.slice a l.length cap] w fun e w'=>e=.returned (.tuple #[])∧∃F',Dev w' p F' (outD D l)∧Step F F' w w':=by
 have hm:=made_any h;have ok':=outD_ok h.1 hr.1;obtain ⟨ok,hF,gN,gL,cN,cL,vS,vO,f,hc,hfo⟩:=h;obtain ⟨_,_,_,c3,_,_,_,z⟩:=hc.at;have z3:=z 3;have hp:p<w.heap.size:=hF p (hfo p (.inl rfl));have hend:=fun (w2:World) (v:Value) ho hgrow hat hlt=>outed (w:=w) (w2:=w2) (v:=v) (l:=l) ok' hF hc hfo ho hgrow hat hlt
 have HE:Hid _:=hend;have HO:Hid (OutAt w vO D.out):=hc.out;have HR:Hid (Row w a cap l):=hr;have hpO:=hc.pO;obtain ⟨b0,n0,k0,hv0⟩:=hc.out.slice;rw [hv0] at HO hpO HE c3;clear hend ok ok' hF hc hfo z hr hv0;go_enter Tryz.func21,Tryz.ntmps21
 go_wp2_with (first|(go_at_call 43;refine hm.mono ?_;rintro e w' ⟨rfl,rfl⟩)|(at_builtin;refine wpList_append_out rfl (.tmp 10) (.tmp 11) rfl (.slice b0 n0 k0) D.out l rfl HO.out a cap rfl HR.out hnil hsz ?_;intro b n k w2 ho2 hgr2 hat2;have d3:w2.cell? ⟨p,3,none⟩=some (.slice b0 n0 k0):=(World.cell?_of_block (w:=w) (a:=⟨p,3,none⟩) (hgr2.block p hp (fun e=>hpO e.symm))).trans c3;have y3:w2.frozen? ⟨p,3,none⟩=false:=(World.frozen?_of_block (w:=w) (a:=⟨p,3,none⟩) (hgr2.block p hp (fun e=>hpO e.symm))).trans z3;have HX:Hid _:=HE.out w2 (.slice b n k) ho2 hgr2 hat2 ho2.lt;clear ho2 hgr2 hat2))
 go_end0
 exact ⟨rfl,HX.out⟩
theorem rd_out (L o:List Int):∀k,rdK (outD (newD L) o) k={n:=L.length/256,now:=L,sure:=L,since:=[],out:=o.drop k,fuse:= -1,ops:=k,dead:=false}
 |0=>by simp [rdK,outD,newD]
 |k+1=>by
  rw [rdK,rd_out L o k];simp [readD,opD]
theorem tells_out (L o:List Int) (k:Nat):tellsD (rdK (outD (newD L) o) k)=!decide (o.getD k 0%3=1):=by
 rw [rd_out];simp [tellsD,oc,List.getD_eq_getElem?_getD]
theorem out_nil (L:List Int):outD (newD L) []=newD L:=by simp [outD,newD]
theorem tells_new (L:List Int) (k:Nat):tellsD (rdK (newD L) k)=true:=by
 rw [←out_nil,tells_out];simp
theorem ops_new (L:List Int) (k:Nat):(rdK (newD L) k).ops=k:=by
 rw [←out_nil,rd_out]
def OnE (w:World) (d:Nat) (FD:Nat→Prop) (L:List Int) (N:Nat) (e:Ending) (w':World):Prop:=
 ∃k FD',(k≤N+2∧Dev w' d FD' (rdK (newD L) k)∧Step FD FD' w w')∧((oaE L=0∧∃v,e=.returned (.tuple #[v,.int .i64 0])∧RepP FD' (fun k=>FD k∨w.heap.size≤k) w' v (oaR L))∨(oaE L=8∧e=.returned (.tuple #[.agg rpt0,.int .i64 8])))
theorem aopen_new {w:World} {d N:Nat} {FD:Nat→Prop} {L:List Int} (hd:Dev w d FD (newD L)) (hN:L.length=N*256):
  Calls Tryz.prog 11 #[.pointer (some ⟨d,0,none⟩)] w fun e w'=>OnE w d FD L N e w':=by
 refine (aopen_p (D0:=newD L) (L:=L) (N:=N) hd rfl (by show L.length/256=N;omega) (by show 0≤_;omega)).mono ?_;rintro e w' (⟨h1,v,h2,k,FD',h3,h4,h5,-,h6⟩|⟨h1,h2,k,FD',h4,h5,-,h6⟩|⟨-,k,FD',-,-,-,h,-⟩)
 ·exact ⟨k,FD',⟨h4,h5,h6⟩,.inl ⟨h1,v,h2,h3⟩⟩
 ·exact ⟨k,FD',⟨h4,h5,h6⟩,.inr ⟨h1,h2⟩⟩
 ·rw [tells_new] at h;cases h
theorem awalk_new {w:World} {d N:Nat} {FD:Nat→Prop} {L:List Int} {k0:Nat} (hk0:k0≤100000) (hd:Dev w d FD (rdK (newD L) k0)) (hN:L.length=N*256) (hb:Bys L) (hN4:N≤4096) (S:Sp):
  Calls Tryz.prog 12 #[.pointer (some ⟨d,0,none⟩),spV S] w fun e w'=>∃k FD',(k≤k0+N∧Dev w' d FD' (rdK (newD L) k)∧Step FD FD' w w')∧((waE L S=0∧∃v,e=.returned (.tuple #[v,.int .i64 0])∧RepP FD' (fun k=>FD k∨w.heap.size≤k) w' v (waR L S))∨(¬waE L S=0∧e=.returned (.tuple #[.agg rpt0,.int .i64 (waE L S)]))):=by
 have hp:pgN L≤4096:=by unfold pgN;omega
 have hrk:=rdK_is (newD L) k0;cases hS:okS S with
 |false=>
  have hw:waE L S=1:=by unfold waE;rw [hS];rfl
  refine (walk_arg S hS).mono ?_;rintro e w' ⟨rfl,hbl⟩;exact ⟨k0,FD,⟨by omega,hd.below hbl,Step.ofB hbl⟩,.inr ⟨by rw [hw];decide,by rw [hw]⟩⟩
 |true=>
  refine (walk_ok (D0:=rdK (newD L) k0) (L:=L) (N:=N) hd (by rw [hrk.1];rfl) (by rw [hrk.2.1];show L.length/256=N;omega) (by rw [ops_new];omega) S hS).mono ?_;rintro e w' (⟨h,-⟩|⟨-,⟨r,v,h1,h2,k,FD',h3,h4,h5,-,h6⟩|⟨h1,h2,k,FD',h4,h5,-,h6⟩|⟨-,k,FD',-,-,-,h,-⟩⟩)
  ·rw [hS] at h;cases h
  ·rw [rdK_add] at h5;rcases su_wa hb hp hS with ⟨q1,q2⟩|⟨q1,q2⟩
   ·exact ⟨k0+k,FD',⟨by omega,h5,h6⟩,.inl ⟨q1,v,h1,by rw [q2.one h2];exact h3⟩⟩
   ·exact absurd h2 (q2 r)
  ·rw [rdK_add] at h5;rcases su_wa hb hp hS with ⟨q1,q2⟩|⟨q1,q2⟩
   ·exact absurd q2 (h2 _)
   ·exact ⟨k0+k,FD',⟨by omega,h5,h6⟩,.inr ⟨by rw [q1];decide,by rw [q1];exact h1⟩⟩
  ·rw [rdK_add,tells_new] at h;cases h
def BuildC:Prop:=∀(w:World) (N m q c1 c2:Nat) (a1 a2:Option Addr) (zs st:List Int) (gen:Int),Row w a1 c1 zs→zs.length=m→Row w a2 c2 st→(a2=none→c2=0)→st.length=q→8≤N→N≤200→m≤150→q≤1000→m+(m+19)/20+ned q+4≤N→
    Calls Tryz.prog 13 #[.int .i64 (N:Nat),.slice a1 m c1,.slice a2 q c2,.int .i64 gen] w fun e w'=>∃g c L S,e=.returned (.tuple #[.slice (some ⟨g,0,none⟩) (N*256) c,spV S])∧Own w.heap.size w' (.slice (some ⟨g,0,none⟩) (N*256) c) L∧Snd N L S zs st∧Below w.heap.size w w'
section
attribute [local go_sem ↓] StP_eq LdP_eq
set_option maxRecDepth 20000 in
theorem aopen_nil (w:World):Calls Tryz.prog 11 #[.pointer none] w fun e w'=>e=.returned (.tuple #[.agg rpt0,.int .i64 1])∧Below w.heap.size w w':=by
 obtain ⟨w1,hw1⟩:∃w1,w.alloc (.cells rpt0 33)=w1:=⟨_,rfl⟩;have hr:w1.heap[w.heap.size]?=some (.cells rpt0 33 (0,0)):=by rw [←hw1];exact heap_alloc_new w _
 have hst:=StP_run (cs:=rpt0) hr rfl rfl (by rw [rpt0_lit];simp [Value.oneCell'])
 have HE:Hid ((w1.setRow w.heap.size rpt0).heap[w.heap.size]?=some (.cells rpt0 33 (0,0))∧Below w.heap.size w (w1.setRow w.heap.size rpt0)):=by
  refine ⟨setRow_heap w1 _ _ _ _ _ hr,((Ch.of (fun _=>False) (show Below w.heap.size w w1 from ?_)).setRow (.inl (Nat.le_refl _)) _).below (fun k e=>by cases e)⟩;rw [←hw1];exact (Below.refl _ w).alloc (Nat.le_refl _) _
 rw [rpt0_lit] at hst HE hw1;clear hr;go_enter Tryz.func11,Tryz.ntmps11
 go_wp2;refine bodyPost_ret (results_rowtmp rfl _ _ w.heap.size _ _ (0,0) _ rfl HE.out.1 Tryz.underlying33 rfl (by kernel_rfl)) rfl ?_;exact ⟨rfl,HE.out.2⟩
set_option maxRecDepth 20000 in
theorem awalk_nil (w:World) (S:Sp):Calls Tryz.prog 12 #[.pointer none,spV S] w fun e w'=>e=.returned (.tuple #[.agg rpt0,.int .i64 1])∧Below w.heap.size w w':=by
 obtain ⟨b0,b1,b2,b3,b4⟩:=bxW_all w S;obtain ⟨w1,hw1⟩:∃w1,bxW w S=w1:=⟨_,rfl⟩;rw [hw1] at b0 b1 b2 b3 b4;obtain ⟨h1,h2,h3,h4,h5⟩:=both_set (w1:=w1) (cs:=rpt0) b2 rfl rfl (by rw [rpt0_lit];simp [Value.oneCell']) b3 (by omega) 1;have HE:Hid (((w1.setRow (w.heap.size+1) rpt0).setCell ⟨w.heap.size+1+1,0,none⟩ (.int .i64 1)).heap[w.heap.size+1]?=some (.cells rpt0 33 (0,0))∧ErrA ((w1.setRow (w.heap.size+1) rpt0).setCell ⟨w.heap.size+1+1,0,none⟩ (.int .i64 1)) (w.heap.size+1+1) 1∧Below w.heap.size w ((w1.setRow (w.heap.size+1) rpt0).setCell ⟨w.heap.size+1+1,0,none⟩ (.int .i64 1))):=⟨h3,h4,b4.trans ⟨h5.os,h5.tape,h5.output,h5.size,fun i hi=>h5.block i (by omega) (by omega)⟩⟩;rw [rpt0_lit] at h1 h2 HE;obtain ⟨c0,f0⟩:=h2;have hmf:∀(fn:Fn) (first cap:Array Value) (w:World),(Instr.makeFunc fn first cap).run Tryz.prog w=.ok (.func fn first cap) w:=fun _ _ _ _=>rfl
 unfold bxW at hw1;unfold spV;clear h3 h4 h5 b0 b1 b2 b3 b4;go_enter_defers Tryz.func12,Tryz.ntmps12
 go_wp2;exact ⟨_,results_rc rfl _ _ (w.heap.size+1) (w.heap.size+1+1) _ 1 rfl rfl HE.out.1 rfl HE.out.2.1,rfl,HE.out.2.2⟩
end
theorem rows3 (w:World):Row ((w.alloc (.cells #[.int .u8 1,.int .u8 2,.int .u8 3] 5)).alloc (.cells #[.int .u8 9] 5)) (some ⟨w.heap.size,0,none⟩) 3 [1,2,3]∧Row ((w.alloc (.cells #[.int .u8 1,.int .u8 2,.int .u8 3] 5)).alloc (.cells #[.int .u8 9] 5)) (some ⟨w.heap.size+1,0,none⟩) 1 [9]:=by
 have h1:=row_new w [1,2,3] 5 (bysOf rfl) (by simp [maxLen]);have h2:=row_new (w.alloc (.cells #[.int .u8 1,.int .u8 2,.int .u8 3] 5)) [9] 5 (bysOf rfl) (by simp [maxLen]);refine ⟨Row.below h1 ((Below.refl _ _).alloc (Nat.le_refl _) _),?_⟩
 simpa using h2
set_option maxRecDepth 20000 in
theorem awake12 (X:BuildC) (w:World):Calls Tryz.prog 9 #[] w fun e w'=>e=.returned (.bool true)∧Below w.heap.size w w':=by
 obtain ⟨r1,r2⟩:=rows3 w;have CB:=X _ 16 3 1 3 1 _ _ [1,2,3] [9] 5 r1 rfl r2 (fun e=>by cases e) rfl (by omega) (by omega) (by omega) (by omega) (by decide);have HB0:Hid (Below w.heap.size w ((w.alloc (.cells #[.int .u8 1,.int .u8 2,.int .u8 3] 5)).alloc (.cells #[.int .u8 9] 5))):=((Below.refl _ w).alloc (Nat.le_refl _) _).alloc (by simp) _;clear r1 r2;go_enter Tryz.func9,Tryz.ntmps9
 go_wp2_with fail
 refine CB.mono ?_;clear CB;rintro e w1 ⟨g,c,L,S,rfl,hoL,hsnd,hb1⟩;unfold spV;have hlen:=hsnd.len;have hrow:=(hoL.row' hsnd.bys);have HS:Hid (Snd 16 L S [1,2,3] [9]∧Below w.heap.size w w1):=⟨hsnd,HB0.out.trans (hb1.mono HB0.out.size)⟩;obtain ⟨w2,hw2⟩:∃w2,w1.alloc (.cells #[.int .i64 S.g,.int .i64 S.p,.int .i64 S.r,.int .i64 S.h,.int .i64 S.b,.int .i64 S.l,.int .i64 S.s,.int .i64 S.f] 28)=w2:=⟨_,rfl⟩;have hb2:Below w1.heap.size w1 w2:=by rw [←hw2];exact (Below.refl _ w1).alloc (Nat.le_refl _) _
 have CL:=load_yes ⟨g,0,none⟩ c L w2 (hrow.2.below hb2) 16 hlen (by omega) (by omega);rw [hlen] at CL;have hs2:w2.heap[w1.heap.size]?=some (.cells (spC' S) 28 (0,0)):=by rw [←hw2];exact heap_alloc_new w1 _
 have H2:Hid (Below w.heap.size w w2∧w2.heap[w1.heap.size]?=some (.cells (spC' S) 28 (0,0))∧L.length=16*256):=⟨HS.out.2.trans (hb2.mono HS.out.2.size),hs2,hlen⟩;obtain ⟨sb,hsb⟩:∃sb,w1.heap.size=sb:=⟨_,rfl⟩;rw [hsb] at H2;clear hoL hsnd hb1 hrow hb2 hs2 hlen HB0;rw [show 16*256=4096 from rfl] at CL;go_wp2_with fail
 refine CL.mono ?_;clear CL;rintro e w3 ⟨p,F,rfl,hdv,hb3,hF⟩;have CO:=aopen_new (N:=16) hdv H2.out.2.2;have H3:Hid (Below w2.heap.size w2 w3∧∀k,F k→w2.heap.size≤k):=⟨hb3,hF⟩;clear hdv hb3 hF hw2 hsb;go_wp2_with fail
 refine CO.mono ?_;clear CO;rintro e w4 ⟨k,FD',⟨hk,hd4,st4⟩,⟨-,v,rfl,hrep⟩|⟨h8,-⟩⟩
 ·obtain ⟨cc,-,-,hwr⟩:=HS.out.1.wr;have hor:=HS.out.1.or;rw [hwr] at hor;obtain ⟨aP,cP,aT,cT,aS,cS,aG,cG,rfl,-⟩:=hrep;have es:(oaR L).s=S:=by rw [hor]
  have ep:(oaR L).pl=0:=by rw [hor]
  have e3:(oaR L).pc.length=3:=by rw [hor];exact pcU_len _ _
  have e1:(oaR L).st.length=1:=by rw [hor];rfl
  rw [es,ep,e3,e1];unfold rpP
  have h4:w4.heap[sb]?=some (.cells (spC' S) 28 (0,0)):=by
   have hl:=heap_lt H2.out.2.1;exact ((st4.1.block sb (by have:=H3.out.1.size;omega) (fun h=>by have:=H3.out.2 _ h;omega)).trans (H3.out.1.block sb hl)).trans H2.out.2.1
  have hl4:=heap_lt h4;have hn4:¬sb=w4.heap.size:=by omega
  have hc:∀i,w4.cell? ⟨sb,i,none⟩=(spC' S)[i]?:=fun i=>cell_of_row w4 _ _ _ _ (0,0) h4
  have s0:w4.cell? ⟨sb,0,none⟩=some (.int .i64 S.g):=by rw [hc];rfl
  have s1:w4.cell? ⟨sb,1,none⟩=some (.int .i64 S.p):=by rw [hc];rfl
  have s2:w4.cell? ⟨sb,2,none⟩=some (.int .i64 S.r):=by rw [hc];rfl
  have s3:w4.cell? ⟨sb,3,none⟩=some (.int .i64 S.h):=by rw [hc];rfl
  have s4:w4.cell? ⟨sb,4,none⟩=some (.int .i64 S.b):=by rw [hc];rfl
  have s5:w4.cell? ⟨sb,5,none⟩=some (.int .i64 S.l):=by rw [hc];rfl
  have s6:w4.cell? ⟨sb,6,none⟩=some (.int .i64 S.s):=by rw [hc];rfl
  have s7:w4.cell? ⟨sb,7,none⟩=some (.int .i64 S.f):=by rw [hc];rfl
  have HE:Hid (Below w.heap.size w w4):=H2.out.1.trans ((H3.out.1.mono H2.out.1.size).trans ⟨st4.1.os,st4.1.tape,st4.1.output,st4.1.size,fun i hi=>st4.1.block i (by have:=H2.out.1.size;have:=H3.out.1.size;omega) (fun h=>by have:=H3.out.2 _ h;have:=H2.out.1.size;omega)⟩);clear hc h4 hd4 st4 hk H2 H3 HS hwr hor es ep e3 e1;go_wp2;go_ret
  exact ⟨rfl,HE.out.alloc HE.out.size _⟩
 ·rw [HS.out.1.oe] at h8;cases h8
end Go.Proofs.YtjllhcifmfhkmaaGreat.Oct
