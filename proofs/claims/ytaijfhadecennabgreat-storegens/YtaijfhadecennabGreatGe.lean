/- Part of a proof. -/
import Derived.Test.YtaijfhadecennabGreatStc
import Derived.Test.YtaijfhadecennabGreatRn
import Derived.Deep.RegionHeld3
import Derived.Deep.RegionLaw
import Derived.Deep.DrawnRows
open Go.Proofs.Tryz
set_option maxHeartbeats 1000000
namespace Go.Proofs.YtaijfhadecennabGreat.Oct
open Go.RowKit
theorem ZA {P:Program} {ops:Array Oper} {o:Oper} {a:Act} {w:World} {K:Act->World->Prop} {Q:Exit->Act->World->Prop} {E:Prop} (hgd:o.guard=none) (d s:Operand) (dT sT:TypeId)
  (ho:o.op=.call {callee:=.builtin .copy,args:= #[d,s],argTypes:= #[dT,sT]}) (elem:TypeId) (hu:P.underlying dT=some (.slice elem)) (hsz:(P.info? elem).map (·.size)=some 1)
  (g off dLen dCap:Nat) (ad:Addr) (sLen sCap:Nat) (hd:a.eval d=.slice (some ⟨g,off,none⟩) dLen dCap) (hs:a.eval s=.slice (some ad) sLen sCap)
  (cur:Array Value) (t:TypeId) (hg:w.heap[g]?=some (.cells cur t (0,0))) (cs:List Value) (hn:cs.length=Nat.min sLen dLen)
  (hsrc:∀j v,cs[j]?=some v->w.cell? (ad.add j)=some v) (hfit:off+cs.length<=cur.size) (h1:∀v∈cs,v.oneCell'=true)
  (X:Array Value) (hX:X=(cur.toList.take off++cs++cur.toList.drop (off+cs.length)).toArray) (h:K (a.put o.dst (goInt cs.length)) (w.setRow g X)):
  if Region.wanted o (yielded ops a.tmps)=true then Oper.wp P o a w K Q else E:=by
 have hw:Region.wanted o (yielded ops a.tmps)=true:=by simp [Region.wanted,hgd]
 rw [if_pos hw];have hrun:=run_copy_row (P:=P) w dT sT o.type elem g off dLen dCap ad sLen sCap cur t cs hu hsz hg hn hsrc hfit h1;unfold Oper.wp;simp [execOp,ho,resolve,invoke,builtin,hd,hs,hrun,Result.andThen];rw [hX,jU] at h;exact h
theorem own_lay {g n cap off:Nat} {w:World} {zs cs:List Int} {cur:Array Value} (hcur:w.heap[g]?=some (.cells cur 5 (0,0))) (hn:n<=cap) (hm:cap<=maxLen) (hs:cur.size=cap) (ht:cur.toList.take n=zs.map (Value.int .u8)) (hl:n=zs.length) (hfit:off+cs.length<=n):
  Own 0 (w.setRow g (cur.toList.take off++cs.map (Value.int .u8)++cur.toList.drop (off+(cs.map (Value.int .u8)).length)).toArray) (.slice (some ⟨g,0,none⟩) n cap) (lay' zs off cs):=by
 have hl2:(lay' zs off cs).length=n:=by rw [GH _ _ _ (by omega)];exact hl.symm
 have hcl:cur.toList.length=cap:=by simpa using hs
 unfold Own;refine ⟨by simp,.inr ⟨g,cap,_,by rw [hl2],jW _,setRow_heap w g cur _ _ _ hcur,by omega,hm,by simp;omega,?_⟩⟩;rw [hl2,Nat.mul_one];simp only [lay',qM,List.map_take,List.map_drop];rw [<-ht,List.take_take,yA (by omega),List.drop_take,List.take_append,qP (by simp;omega),jO,qJ,yA (by omega),qQ,jU]
theorem DevC.others {w w':World} {p gN gL cN cL:Nat} {vS vO:Value} {f:Int} {D:Dv} (h:DevC w p gN gL cN cL vS vO f D) (k:∀g,g≠p->w'.heap[g]?=w.heap[g]?):
  Own 0 w' (.slice (some ⟨gN,0,none⟩) D.now.length cN) D.now/\Own 0 w' (.slice (some ⟨gL,0,none⟩) D.sure.length cL) D.sure/\w'.ownsRow 0 111 257 vS D.since.length (scells D.since)/\OutAt w' vO D.out:=
 ⟨h.now.kept (k gN h.pN.symm),h.sure.kept (k gL h.pL.symm),yN h.since (fun g hg=>k g (fun e=>h.pS (e▸hg))),h.out.keep (fun g hg=>k g (fun e=>h.pO (e▸hg)))⟩
theorem DevC.set4 {w:World} {p gN gL cN cL:Nat} {vS vO:Value} {f:Int} {D:Dv} (h:DevC w p gN gL cN cL vS vO f D) (f':Int) (h1: -9223372036854775808<=f') (h2:f'<=9223372036854775807):
  DevC (w.setCell ⟨p,4,none⟩ (.int .i64 f')) p gN gL cN cL vS vO f' {D with fuse:=max f' (-1)}:=by
 obtain ⟨a,b,c,d⟩:=h.others (fun g hg=>Below.heap_setCell w ⟨p,4,none⟩ (.int .i64 f') g hg);exact {h with cells:=yK _ _ _ _ _ _ _ h.cells,now:=a,sure:=b,since:=c,out:=d,f1:=h1,f2:=h2,fuse:=rfl}
theorem DevC.set5 {w:World} {p gN gL cN cL:Nat} {vS vO:Value} {f:Int} {D:Dv} (h:DevC w p gN gL cN cL vS vO f D) (n:Nat):
  DevC (w.setCell ⟨p,5,none⟩ (.int .i64 n)) p gN gL cN cL vS vO f {D with ops:=n}:=by
 obtain ⟨a,b,c,d⟩:=h.others (fun g hg=>Below.heap_setCell w ⟨p,5,none⟩ (.int .i64 n) g hg);exact {h with cells:=yK _ _ _ _ _ _ _ h.cells,now:=a,sure:=b,since:=c,out:=d,fuse:=h.fuse}
theorem DevC.set6 {w:World} {p gN gL cN cL:Nat} {vS vO:Value} {f:Int} {D:Dv} (h:DevC w p gN gL cN cL vS vO f D) (x:Bool):
  DevC (w.setCell ⟨p,6,none⟩ (.bool x)) p gN gL cN cL vS vO f {D with dead:=x}:=by
 obtain ⟨a,b,c,d⟩:=h.others (fun g hg=>Below.heap_setCell w ⟨p,6,none⟩ (.bool x) g hg);exact {h with cells:=yK _ _ _ _ _ _ _ h.cells,now:=a,sure:=b,since:=c,out:=d,fuse:=h.fuse}
def lessF (f:Int):Int:=if 0<f then f-1 else f
theorem burn_zero {w:World} {p:Nat} {F:Nat->Prop} {D:Dv} (h:Dev w p F D) (hf:D.fuse=0):
  Calls prog 142 #[.pointer (some ⟨p,0,none⟩)] w fun e w'=>(∃s,e=.panicked [{v:=.iface 9 (.string s),recovered:=false}])/\w=w':=by
 obtain ⟨ok,_,gN,gL,cN,cL,vS,vO,f,hc,_⟩:=h;have c4:=hc.at.2.2.2.2.1;have e:f=0:=by have:=hc.fuse;omega
 subst e;clear ok hc hf;go_enter func142,ntmps142
 go_wp2;exact ⟨rfl,⟨_,rfl⟩,rfl⟩
theorem uQ {w:World} {p:Nat} {F:Nat->Prop} {D:Dv} (h:Dev w p F D) (hf:D.fuse≠0):
  Calls prog 142 #[.pointer (some ⟨p,0,none⟩)] w fun e w'=>e=.returned (.tuple #[])/\Dev w' p F {D with fuse:=lessF D.fuse}/\Ch w.heap.size F w w':=by
 obtain ⟨ok,hF,gN,gL,cN,cL,vS,vO,f,hc,hfo⟩:=h;obtain ⟨_,_,_,_,c4,_,_,z⟩:=hc.at;have z4:=z 4;have hf':=hc.fuse;have f2:=hc.f2;have f1:=hc.f1;have hp:F p:=hfo p (.inl rfl);by_cases hpos:0<f
 ·have e:lessF D.fuse=max (f-1) (-1):=by unfold lessF;split<;>omega
  have hd:Hid (Dev (w.setCell ⟨p,4,none⟩ (.int .i64 (f-1))) p F {D with fuse:=lessF D.fuse}):=by
   rw [e];exact ⟨⟨ok.n8,ok.n4,ok.now,ok.sure,ok.bnow,ok.bsure,ok.bout,ok.since,by show-1<=max (f-1) (-1);omega⟩,fun k hk=>by rw [yL];exact hF k hk,gN,gL,cN,cL,vS,vO,f-1,hc.set4 (f-1) (by omega) (by omega),hfo⟩
  clear e hf' hf ok hc z;go_enter func142,ntmps142
  go_wp2;go_end0
  exact ⟨rfl,hd.out,Ch.set hp _ _⟩
 ·have hne:¬f=0:=by omega
  have e:lessF D.fuse=D.fuse:=by unfold lessF;split<;>omega
  have hd:Hid (Dev w p F {D with fuse:=lessF D.fuse}):=by
   rw [e];exact ⟨ok,hF,gN,gL,cN,cL,vS,vO,f,hc,hfo⟩
  clear e hf' hf ok hc z;go_enter func142,ntmps142
  go_wp2;go_end0
  exact ⟨rfl,hd.out,Ch.refl _ _ _⟩
theorem uZ (w:World):Calls prog 101 #[] w fun e w'=>e=.returned (.tuple #[])/\w=w':=by
 go_enter func101,ntmps101
 go_wp2;go_end0
 exact ⟨rfl,rfl⟩
theorem DevC.set3 {w:World} {p gN gL cN cL:Nat} {vS vO:Value} {f:Int} {D:Dv} (h:DevC w p gN gL cN cL vS vO f D) (v:Value) (l:List Int) (ho:OutAt w v l) (hb:v.ownBlock=vO.ownBlock):
  DevC (w.setCell ⟨p,3,none⟩ v) p gN gL cN cL vS v f {D with out:=l}:=by
 have k:∀g,g≠p->(w.setCell ⟨p,3,none⟩ v).heap[g]?=w.heap[g]?:=fun g hg=>Below.heap_setCell w ⟨p,3,none⟩ v g hg
 obtain ⟨a,b,c,d⟩:=h.others k;exact {h with cells:=yK _ _ _ _ _ _ _ h.cells,now:=a,sure:=b,since:=c,out:=ho.keep (fun g hg=>k g (fun e=>h.pO (by rw [<-hb,<-e];exact hg))),fuse:=h.fuse,pO:=hb▸h.pO,NO:=hb▸h.NO,LO:=hb▸h.LO,SO:=hb▸h.SO}
theorem OutAt.tl {w:World} {g off L cap:Nat} {l:List Int} (h:OutAt w (.slice (some ⟨g,off,none⟩) L cap) l) (hl:1<=l.length):OutAt w (.slice (some ⟨g,off+1,none⟩) (L-1) (cap-1)) l.tail:=by
 rcases h with ⟨h,_⟩|⟨g',off',cap',cur,e,hg,h1,h2,h3,h4⟩
 ·simp at h
 ·simp only [Value.slice.injEq,jP,Addr.mk.injEq,and_true] at e;obtain ⟨⟨rfl,rfl⟩,rfl,rfl⟩:=e;refine .inr ⟨g,off+1,cap-1,cur,by simp,hg,by simp;omega,by omega,by omega,fun i hi=>?_⟩;simp at hi;have:=h4 (i+1) (by omega);rw [show off+1+i=off+(i+1) by omega,this]
  congr 2
  rw [jA,jA,List.getElem?_tail]
theorem OutAt.tl0 {w:World} {g off L:Nat} {l:List Int} (h:OutAt w (.slice (some ⟨g,off,none⟩) L 1) l):OutAt w (.slice (some ⟨g,off,none⟩) 0 0) l.tail:=by
 rcases h with ⟨h,_⟩|⟨g',off',cap',cur,e,hg,h1,h2,h3,h4⟩
 ·simp at h
 ·simp only [Value.slice.injEq,jP,Addr.mk.injEq,and_true] at e;obtain ⟨⟨rfl,rfl⟩,rfl,rfl⟩:=e;have e0:l.tail=[]:=by cases l with|nil=>rfl|cons x r=>simp at h1;simp [h1]
  rw [e0];exact .inr ⟨g,off,0,cur,rfl,hg,jB _,by simp [maxLen],by omega,fun i hi=>by simp at hi⟩
theorem tailOk {D:Dv} (h:D.ok):({D with out:=D.out.tail}:Dv).ok:=⟨h.n8,h.n4,h.now,h.sure,h.bnow,h.bsure,h.bout.tail,h.since,h.fuse⟩
theorem XN {w:World} {p:Nat} {F:Nat->Prop} {D:Dv} (h:Dev w p F D):
  Calls prog 143 #[.pointer (some ⟨p,0,none⟩)] w fun e w'=>e=.returned (.int .u8 (D.out.getD 0 0))/\Dev w' p F {D with out:=D.out.tail}/\Ch w.heap.size F w w':=by
 obtain ⟨ok,hF,gN,gL,cN,cL,vS,vO,f,hc,hfo⟩:=h;obtain ⟨_,_,_,c3,_,_,_,z⟩:=hc.at;have z3:=z 3;have hp:F p:=hfo p (.inl rfl);rcases id hc.out with ⟨rfl,h0⟩|⟨g,off,cap,cur,rfl,hg,h1,h2,h3,h4⟩
 ·have hd:Hid (Dev w p F {D with out:=D.out.tail}):=by
   have e:({D with out:=D.out.tail}:Dv)=D:=by rw [h0,List.tail_nil,<-h0]
   rw [e];exact ⟨ok,hF,gN,gL,cN,cL,vS,_,f,hc,hfo⟩
  have HL:Hid (D.out=[]):=h0;clear ok hc z h0;go_enter func143,ntmps143
  go_wp2;go_ret
  exact ⟨by rw [HL.out];rfl,hd.out,Ch.refl _ _ _⟩
 ·by_cases hl:D.out.length=0
  ·have h0:D.out=[]:=qF hl
   have hd:Hid (Dev w p F {D with out:=D.out.tail}):=by
    have e:({D with out:=D.out.tail}:Dv)=D:=by rw [h0,List.tail_nil,<-h0]
    rw [e];exact ⟨ok,hF,gN,gL,cN,cL,vS,_,f,hc,hfo⟩
   rw [hl] at c3;have HL:Hid (D.out=[]):=h0;clear ok hc z h4 hl h0 h1;go_enter func143,ntmps143
   go_wp2;go_ret
   exact ⟨by rw [HL.out];rfl,hd.out,Ch.refl _ _ _⟩
  ·have hg0:w.cell? ⟨g,off,none⟩=some (.int .u8 (D.out.getD 0 0)):=by
    have:=h4 0 (by omega);rw [Nat.add_zero] at this;rw [cell_of_row w g off cur _ (0,0) hg,this]
   by_cases hc1:cap=1
   ·subst hc1
    have hd:Hid (Dev (w.setCell ⟨p,3,none⟩ (.slice (some ⟨g,off,none⟩) 0 0)) p F {D with out:=D.out.tail}):=
     ⟨tailOk ok,fun k hk=>by rw [yL];exact hF k hk,gN,gL,cN,cL,vS,_,f,hc.set3 _ _ hc.out.tl0 rfl,fun k hk=>hfo k hk⟩
    have e1:D.out.length=1:=by omega
    rw [e1] at c3;clear ok hc z h4 hl h1 e1 hfo;go_enter func143,ntmps143
    go_wp2;go_ret
    exact ⟨rfl,hd.out,Ch.set hp _ _⟩
   ·obtain ⟨m,hm⟩:∃m,cap=m+1:=⟨cap-1,by omega⟩;obtain ⟨L,hL⟩:∃L,D.out.length=L+1:=⟨D.out.length-1,by omega⟩
    have hd:Hid (Dev (w.setCell ⟨p,3,none⟩ (.slice (some ⟨g,off+1,none⟩) L m)) p F {D with out:=D.out.tail}):=by
     have e:=hc.out.tl (by omega);rw [hL,hm,Nat.add_sub_cancel,Nat.add_sub_cancel] at e;exact ⟨tailOk ok,fun k hk=>by rw [yL];exact hF k hk,gN,gL,cN,cL,vS,_,f,hc.set3 _ _ e rfl,fun k hk=>hfo k hk⟩
    subst hm;have hm0:¬m=0:=by omega
    have h1':L<=m:=by omega
    unfold maxLen at h2;rw [hL] at c3;clear ok hc z h4 hl h1 hL hfo hc1;go_enter func143,ntmps143
    go_wp2;go_ret
    exact ⟨rfl,hd.out,Ch.set hp _ _⟩
theorem zZ (w:World) (g:Nat) (cs:Array Value) (a:Addr) (h:a.block≠g):(w.setRow g cs).cell? a=w.cell? a:=World.cell?_of_block (w:=w) (setRow_other w g a.block cs h)
theorem ZS (w:World) (g:Nat) (cs:Array Value) (a:Addr) (h:a.block≠g):(w.setRow g cs).frozen? a=w.frozen? a:=World.frozen?_of_block (w:=w) (setRow_other w g a.block cs h)
theorem lay'_all (zs cs:List Int) (h:zs.length=cs.length):lay' zs 0 cs=cs:=by
 simp [lay',h]
theorem DevC.settled {w w1:World} {p gN gL cN cL:Nat} {vS vO:Value} {f:Int} {D:Dv} (h:DevC w p gN gL cN cL vS vO f D) (hl:D.sure.length=D.now.length) (hw:w1.heap[p]?=w.heap[p]?) (hr:∀g,g≠p->g≠gL->w1.heap[g]?=w.heap[g]?)
  (ho:Own 0 w1 (.slice (some ⟨gL,0,none⟩) D.now.length cL) D.now):DevC (w1.setCell ⟨p,2,none⟩ (.slice none 0 0)) p gN gL cN cL (.slice none 0 0) vO f (setD D):=by
 have k:∀g,g≠p->(w1.setCell ⟨p,2,none⟩ (.slice none 0 0)).heap[g]?=w1.heap[g]?:=fun g hg=>Below.heap_setCell w1 ⟨p,2,none⟩ (.slice none 0 0) g hg
 have hc:=yK w1 p 2 (.slice none 0 0) _ _ _ (hw.trans h.cells);refine {h with cells:=?_,now:=?_,sure:=?_,since:=World.ownsRow_nil _ _ _ _,out:=?_,fuse:=h.fuse,pS:=by simp [Value.ownBlock],NS:=by simp [Value.ownBlock],LS:=by simp [Value.ownBlock],SO:=fun g hg=>by simp [Value.ownBlock] at hg}
 ·rw [hc,hl];rfl
 ·exact h.now.kept ((k gN h.pN.symm).trans (hr gN h.pN.symm h.NL))
 ·exact ho.kept (k gL h.pL.symm)
 ·exact h.out.keep (fun g hg=>(k g (fun e=>h.pO (e▸hg))).trans (hr g (fun e=>h.pO (e▸hg)) (fun e=>h.LO (e▸hg))))
theorem settle_any {w:World} {p:Nat} {F:Nat->Prop} {D:Dv} (h:Dev w p F D):
  Calls prog 137 #[.pointer (some ⟨p,0,none⟩)] w fun e w'=>e=.returned (.tuple #[])/\Dev w' p F (setD D)/\Ch w.heap.size F w w':=by
 have ok':=fI h.1;obtain ⟨ok,hF,gN,gL,cN,cL,vS,vO,f,hc,hfo⟩:=h;obtain ⟨c0,c1,c2,_,_,_,_,z⟩:=hc.at;have z2:=z 2;have hp:F p:=hfo p (.inl rfl);have hL:F gL:=hfo gL (.inr (.inr (.inl rfl)));obtain ⟨cur,q1,q2,q3,q4,q5,q6⟩:=hc.sure.cur;have hl:D.sure.length=D.now.length:=by rw [ok.sure,ok.now]
 have hrow:=QP (hc.now.row' ok.bnow).2;have ho:=own_lay (off:=0) (cs:=D.now) q1 q2 q3 q4 q5 q6 (by omega);rw [lay'_all _ _ hl,hl] at ho;obtain ⟨X,hX⟩:∃X,X=(cur.toList.take 0++D.now.map (Value.int .u8)++cur.toList.drop (0+(D.now.map (Value.int .u8)).length)).toArray:=⟨_,rfl⟩;rw [<-hX] at ho;rw [hl] at c1 q2;have k0:∀cs,(w.drew.setRow gL cs).cell? ⟨p,0,none⟩=some (.slice (some ⟨gN,0,none⟩) D.now.length cN):=fun cs=>(zZ _ _ _ _ hc.pL).trans c0
 have k1:∀cs,(w.drew.setRow gL cs).cell? ⟨p,1,none⟩=some (.slice (some ⟨gL,0,none⟩) D.now.length cL):=fun cs=>(zZ _ _ _ _ hc.pL).trans c1
 have k2:∀cs,(w.drew.setRow gL cs).cell? ⟨p,2,none⟩=some vS:=fun cs=>(zZ _ _ _ _ hc.pL).trans c2
 have k3:∀cs,(w.drew.setRow gL cs).frozen? ⟨p,2,none⟩=false:=fun cs=>(ZS _ _ _ _ hc.pL).trans z2
 have hd:Hid (Dev ((w.setRow gL X).setCell ⟨p,2,none⟩ (.slice none 0 0)) p F (setD D)):=by
  refine ⟨ok',fun k hk=>by rw [yL];simp [World.setRow];exact hF k hk,gN,gL,cN,cL,_,vO,f,hc.settled hl (setRow_other _ _ _ _ hc.pL) (fun g _ hg=>setRow_other _ _ _ _ hg) ho,fun k hk=>?_⟩;rcases hk with hk|hk|hk|hk|hk
  ·exact hfo k (.inl hk)
  ·exact hfo k (.inr (.inl hk))
  ·exact hfo k (.inr (.inr (.inl hk)))
  ·simp [Value.ownBlock] at hk
  ·exact hfo k (.inr (.inr (.inr (.inr hk))))
 have HC:Hid (Ch w.heap.size F w ((w.setRow gL X).setCell ⟨p,2,none⟩ (.slice none 0 0))):=
  ((Ch.refl _ F w).setRow (.inr hL) _).setCell (p:=⟨p,2,none⟩) (.inr hp) _
 have HR:Hid (∀(j:Nat) (u:Value),(D.now.map (Value.int .u8))[j]?=some u->w.cell? ((⟨gN,0,none⟩:Addr).add j)=some u):=hrow;have hfit:Hid (0+(D.now.map (Value.int .u8)).length<=cur.size):=by show _<=_;rw [q4];simp;exact q2
 have Q1:Hid (w.heap[gL]?=some (.cells cur 5 (0,0))):=q1;have HX:Hid (X=(cur.toList.take 0++D.now.map (Value.int .u8)++cur.toList.drop (0+(D.now.map (Value.int .u8)).length)).toArray):=hX;clear hX hl ho hrow q1 q2 q3 q4 q5 q6 hc ok ok' z;go_enter func137,ntmps137
 go_wp2_with fail
 go_region_held3 (fun w'=>w'.cell? ⟨p,0,none⟩=some (.slice (some ⟨gN,0,none⟩) D.now.length cN)/\w'.cell? ⟨p,1,none⟩=some (.slice (some ⟨gL,0,none⟩) D.now.length cL)) (first|exact ⟨k0 _,k1 _⟩|go_keep)
  ((refine ZA (by rfl) (.tmp 5) (.tmp 9) 22 22 (by rfl) 5 underlying22 size5 gL 0 D.now.length cL ⟨gN,0,none⟩ D.now.length cN (by rfl) (by rfl) cur 5 Q1.out (D.now.map (Value.int .u8)) (by simp) HR.out hfit.out (zW _) X HX.out ?_))
 go_wp2;go_end0
 exact ⟨rfl,hd.out.keep (jB _) (fun _ _=>rfl),HC.out.drew⟩
def WriteAt (w:World) (q o pg:Nat) (b:List Int):Prop:=
 w.cell? ⟨q,o,none⟩=some (.int .i64 pg)/\∀i,i<256->w.cell? ⟨q,o+1+i,none⟩=some (.int .u8 (b.getD i 0))
theorem WriteAt.ch {w w':World} {q o pg:Nat} {b:List Int} {F:Nat->Prop} (h:WriteAt w q o pg b) (hc:Ch w.heap.size F w w') (hq:¬F q):WriteAt w' q o pg b:=
 ⟨(hc.cell (p:=⟨q,o,none⟩) (block_lt_of_cell h.1) hq).trans h.1,fun i hi=>(hc.cell (p:=⟨q,o+1+i,none⟩) (block_lt_of_cell (h.2 i hi)) hq).trans (h.2 i hi)⟩
theorem wrapn (n:Nat) (h:n<=9223372036854775807):IntKind.i64.wrap (n:Int)=n:=by
 rw [IntKind.wrap_i64];omega
theorem u8_and1 (x:Int) (h0:0<=x) (h1:x<=255):bits .and .u8 x 1=x%2:=by
 have h:∀n:Fin 256,bits .and .u8 (n.val:Int) 1=(n.val:Int)%2:=by decide+kernel
 have:=h ⟨x.toNat,by omega⟩;simp only [qD h0] at this;exact this
theorem GX (c:Int) (s:Nat) (h0:0<=c) (h1:c<=255):(bits .and .u8 (c/2^s) 1==1)=bitAt c s:=by
 have hp:(0:Int)<2^s:=by exact Int.pow_pos (by omega)
 have a:0<=c/2^s:=Int.ediv_nonneg h0 (by omega);have b:c/2^s<=255:=Int.le_trans (Int.ediv_le_self _ h0) h1;rw [u8_and1 _ a b];unfold bitAt;rw [xY];simp
theorem sect_cells {w:World} {q o pg:Nat} {b:List Int} (h:WriteAt w q o pg b) (hb:b.length=256) (s:Nat) (hs:s<4) (T:Nat) (hT:s*64=T):
  ∀j v,((sect b s).map (Value.int .u8))[j]?=some v->w.cell? ((⟨q,o+1+T,none⟩:Addr).add j)=some v:=by
 intro j v hj
 have hlt:j<(sect b s).length:=by
  have:=(List.getElem?_eq_some_iff.1 hj).1
  simpa using this
 rw [ZD hb hs] at hlt;have e:(⟨q,o+1+T,none⟩:Addr).add j=⟨q,o+1+(T+j),none⟩:=by simp [Addr.add,yJ]
 rw [e,h.2 _ (by omega),<-hT,<-sect_at j s hlt,<-hj,qN,jA,jC (by rw [ZD hb hs];exact hlt)];rfl
theorem gV (w:World) (q o pg g N cap:Nat) (b L:List Int) (c:Int) (hw:WriteAt w q o pg b) (hb:b.length=256) (hr:Own 0 w (.slice (some ⟨g,0,none⟩) N cap) L) (hp:pg*256+256<=N) (h4:N<=1048576) (hg:g≠q) (hc0:0<=c) (hc1:c<=255):
  Calls prog 54 #[.pointer (some ⟨q,o,none⟩),.slice (some ⟨g,0,none⟩) N cap,.int .u8 c] w fun e w'=>e=.returned (.tuple #[])/\Own 0 w' (.slice (some ⟨g,0,none⟩) N cap) (onto L pg b c)/\Ch w.heap.size (fun k=>k=g) w w':=by
 go_enter func54,ntmps54
 go_wp2;go_loopw [8] (fun i wr=>∃s:Nat,s<=4/\i=.int .i64 s/\Own 0 wr (.slice (some ⟨g,0,none⟩) N cap) (ontoS L pg b c s)/\Ch w.heap.size (fun k=>k=g) w wr) (fun i _=>4-(intOf i).toNat)
 case atStart=>exact ⟨0,by omega,rfl,by rw [ontoS_zero];exact hr,Ch.refl _ _ _⟩
 case round=>
  obtain ⟨s,hs,rfl,hown,hch⟩:=hrel;by_cases hlt:s<4
  ·cases hbit:bitAt c s
   ·have ht:=GX c s hc0 hc1;rw [hbit] at ht;have hown':Hid (Own 0 wr (.slice (some ⟨g,0,none⟩) N cap) (ontoS L pg b c (s+1))):=by rw [ontoS_skip _ _ _ _ _ hbit];exact hown
    clear hown hr hw hbit;go_wp2;go_roundw
    case rel=>exact ⟨s+1,by omega,by go_num,hown'.out,hch⟩
    case measure=>simp [intOf];omega
   ·have ht:=GX c s hc0 hc1;rw [hbit] at ht;obtain ⟨cur,q1,q2,q3,q4,q5,q6⟩:=hown.cur;have hsl:=ZD hb hlt;obtain ⟨T,hT⟩:∃T,s*64=T:=⟨_,rfl⟩;obtain ⟨A,hA⟩:∃A,pg*256+T=A:=⟨_,rfl⟩;have hwr:=hw.ch hch (by intro e;exact hg e.symm);have hsrc:=sect_cells hwr hb s hlt T hT;have ho:=own_lay (w:=wr.drew) (off:=A) (cs:=sect b s) q1 q2 q3 q4 q5 q6 (by omega);have e1:lay' (ontoS L pg b c s) A (sect b s)=ontoS L pg b c (s+1):=by rw [ontoS_lay _ _ _ _ _ hb hlt (by rw [zI] at q6;omega) hbit,hT,hA]
    rw [e1] at ho;have i1:(s:Int)*64=T:=by omega
    obtain ⟨P2,hP2⟩:∃P2,pg*256=P2:=⟨_,rfl⟩;have i2:(pg:Int)*256=P2:=by omega
    have i0:(P2:Int)+T=A:=by omega
    have i3:A+64<=N:=by omega
    have i4:T+64<=256:=by omega
    obtain ⟨U,hU⟩:∃U,T+64=U:=⟨_,rfl⟩;have i5:(T:Int)+64=U:=by omega
    have i6:(0:Int)<=A:=by omega
    have i7:(A:Int)<=N:=by omega
    have i8:(0:Int)<=U:=by omega
    have i9:(U:Int)<=256:=by omega
    have j1:(0:Int)<=T:=by omega
    have j2:(T:Int)<=U:=by omega
    have j3:¬256=T:=by omega
    have j5:U-T=64:=by omega
    have j4:¬cap=A:=by omega
    have k1:IntKind.i64.wrap (P2:Int)=P2:=wrapn _ (by omega);have k2:IntKind.i64.wrap (A:Int)=A:=wrapn _ (by omega);have k3:IntKind.i64.wrap (U:Int)=U:=wrapn _ (by omega);have hpb:pg<=4096:=by omega
    have hcap:N<=cap:=q2;have hcm:=q3;unfold maxLen at hcm;obtain ⟨X,hX⟩:∃X,X=(cur.toList.take A++(sect b s).map (Value.int .u8)++cur.toList.drop (A+((sect b s).map (Value.int .u8)).length)).toArray:=⟨_,rfl⟩;rw [<-hX] at ho;have HO:Hid (Own 0 (wr.drew.setRow g X) (.slice (some ⟨g,0,none⟩) N cap) (ontoS L pg b c (s+1))):=ho;have HC:Hid (Ch w.heap.size (fun k=>k=g) w (wr.drew.setRow g X)):=hch.drew.setRow (.inr rfl) X;have HX:Hid (X=(cur.toList.take A++(sect b s).map (Value.int .u8)++cur.toList.drop (A+((sect b s).map (Value.int .u8)).length)).toArray):=hX;have Q1:Hid (wr.heap[g]?=some (.cells cur 5 (0,0))):=q1;have HS:Hid (∀j v,((sect b s).map (Value.int .u8))[j]?=some v->wr.cell? ((⟨q,o+1+T,none⟩:Addr).add j)=some v):=hsrc;have HF:Hid (A+((sect b s).map (Value.int .u8)).length<=cur.size):=by show _<=_;rw [qQ,hsl,q4];omega
    have HL:Hid ((sect b s).length=64):=hsl;have hpc:=hwr.1;have kpc:(wr.drew.setRow g X).cell? ⟨q,o,none⟩=some (.int .i64 pg):=(zZ _ _ _ _ (fun e=>hg e.symm)).trans hpc;clear hX q1 q2 q3 q4 q5 q6 hsl hwr hsrc ho e1 hT hA hU hP2 hown hr hw hch hbit hb;go_wp2_with fail
    go_region_held3 (fun w'=>w'.cell? ⟨q,o,none⟩=some (.int .i64 pg)) (first|exact kpc|go_keep)
     ((refine ZA (by rfl) (.tmp 26) (.tmp 33) 22 22 (by rfl) 5 underlying22 size5 g A (N-A) (cap-A) ⟨q,o+1+T,none⟩ 64 (256-T) (by rfl) (by rfl) cur 5 Q1.out ((sect b s).map (Value.int .u8)) (by rw [qQ,HL.out];exact (yA (by omega)).symm) HS.out HF.out (zW _) X HX.out ?_))
    go_wp2;go_roundw
    case rel=>exact ⟨s+1,by omega,by go_num,HO.out,HC.out⟩
    case measure=>simp [intOf];omega
  ·have e:s=4:=by omega
   subst e;go_wp2;go_end0
   exact ⟨rfl,hown,hch⟩
theorem size64:(prog.info? 111).map (·.size)=some 257:=by kernel_rfl
theorem info64:(prog.info? 111).map (fun i=>(i.zero.map (·.cells.size),i.size,i.bytes))=some (some 257,257,264):=by kernel_rfl
theorem parts64:∃i z,prog.info? 111=some i/\i.zero=some z/\i.size=257/\i.bytes=264/\z.cells.size=257:=by
 have h:=info64;cases hi:prog.info? 111 with
 |none=>rw [hi] at h;simp at h
 |some i=>
  rw [hi] at h;simp only [yI,jP,xW] at h;cases hz:i.zero with
  |none=>rw [hz] at h;simp at h
  |some z=>
   rw [hz] at h;simp only [yI,jP] at h;exact ⟨i,z,rfl,hz,h.2.1,h.2.2,h.1⟩
theorem row64:∃d,prog.underlying 111=some d/\d.isRow=true:=⟨_,underlying111,rfl⟩
theorem zL {x:Nat × List Int} (h:x.2.length=256):(wcells x).length=257:=by simp [wcells,h]
theorem YO (x:Nat × List Int):∀v∈wcells x,v.oneCell'=true:=by
 intro v hv;rcases List.mem_cons.1 hv with rfl|hv
 ·rfl
 ·exact zW _ v hv
theorem WriteAt.range {w:World} {q o pg:Nat} {b:List Int} (h:WriteAt w q o pg b) (hb:b.length=256):w.rangeAt q o (wcells (pg,b)):=by
 intro j v hj;cases j with
 |zero=>simp [wcells] at hj;subst hj;exact h.1
 |succ j=>
  simp only [wcells,qH,qN] at hj
  have hlt:j<b.length:=by
   by_cases hlt:j<b.length
   ·exact hlt
   ·rw [jX (by omega)] at hj;exact absurd hj (by simp)
  rw [show o+(j+1)=o+1+j by omega,h.2 j (by omega),<-hj,jA,jC hlt];rfl
theorem WriteAt.of_range {w:World} {q o pg:Nat} {b:List Int} (hb:b.length=256) (h:w.rangeAt q o (wcells (pg,b))):WriteAt w q o pg b:=by
 refine ⟨h 0 _ rfl,fun i hi=>?_⟩;have:=h (i+1) (.int .u8 (b.getD i 0)) (by simp only [wcells,qH,qN,jA];rw [jC (by omega)];rfl);rw [show o+1+i=o+(i+1) by omega];exact this
theorem VD (w:World) (q o:Nat) (cs:List Value) (hl:cs.length=257) (hr:w.rangeAt q o cs):(Instr.loadAt 111 (.pointer (some ⟨q,o,none⟩))).run prog w=.ok (.agg cs.toArray) w:=by
 obtain ⟨d,h1,h2⟩:=row64;exact run_loadAt_mid w q o 111 cs d hr h1 h2 (by rw [hl];exact size64)
theorem KM:∀(l:List Value) (k:Nat) (Z:Array Value),k+l.length<=Z.size->((l.zipIdx k).foldl (fun (a:Array Value) (x:Value × Nat)=>a.setIfInBounds (0*257+x.2) x.1) Z).toList=Z.toList.take k++l++Z.toList.drop (k+l.length)
 |[],k,Z,_=>by simp
 |v::r,k,Z,h=>by
  simp only [qL] at h;rw [List.zipIdx_cons,yD];rw [KM r (k+1) _ (by simp;omega)];have hl:Z.toList.length=Z.size:=by simp
  simp only [Array.toList_setIfInBounds,Nat.zero_mul,xE,qL];rw [xK,List.take_set_of_le (by omega),qT (by omega),List.drop_set_of_lt (by omega)];simp [yJ,Nat.add_comm 1]
theorem fill_one (Z cs:Array Value) (hz:Z.size=257) (hc:cs.size=257):Instr.fill (fun i=>some (i*257,257)) Z [(0,.agg cs)]=some cs:=by
 have e:(Value.agg cs).cells=cs:=rfl;unfold Instr.fill;show (if ((Value.agg cs).cells.size≠257||0*257+(Value.agg cs).cells.size>Z.size)=true then none else Instr.fill _ _ [])=some cs;rw [if_neg (by rw [e];simp [hz,hc])];unfold Instr.fill;rw [e]
 congr 1
 apply Array.ext';rw [<-Array.foldl_toList,Array.toList_zipIdx];have:=KM cs.toList 0 Z (by simp [hz,hc]);rw [show (fun (a:Array Value) (x:Value × Nat)=>match x with|(c,j)=>a.setIfInBounds (0*257+j) c)=(fun (a:Array Value) (x:Value × Nat)=>a.setIfInBounds (0*257+x.2) x.1) from rfl,this];simp [hz,hc]
theorem GW (w:World) (cs:Array Value) (hl:cs.size=257):(Instr.buildSlice 101 1 #[(0,.agg cs)]).run prog w=.ok (.slice (some ⟨w.heap.size,0,none⟩) 1 1) (w.alloc (.cells cs 111)):=by
 obtain ⟨i0,z,hi0,hz0,hz1,hz2,hz3⟩:=parts64;have hz:∀w,(zeroValue 111).run prog w=.ok z w:=fun w=>by simp [zeroValue,typeInfo,hi0,hz0]
 have hs:∀w,(sizeOf 111).run prog w=.ok 257 w:=fun w=>by simp [sizeOf,typeInfo,hi0,hz1]
 unfold Instr.buildSlice;simp only [run_underlying underlying101,hs,Sem.run_bind,Result.andThen_ok];rw [if_neg (by decide),if_neg (by decide)];simp only [Sem.run_bind,hz,Result.andThen_ok,Sem.run_pure];rw [fill_one _ cs (by simp) hl];simp [newRow]
def LoadW (x:Value):Sem Value:=Instr.loadAt 111 x
theorem GA (x:Value):Instr.loadAt 111 x=LoadW x:=rfl
def BuildW (ps:Array (Nat × Value)):Sem Value:=Instr.buildSlice 101 1 ps
theorem buildW_eq (ps:Array (Nat × Value)):Instr.buildSlice 101 1 ps=BuildW ps:=rfl
end Go.Proofs.YtaijfhadecennabGreat.Oct
