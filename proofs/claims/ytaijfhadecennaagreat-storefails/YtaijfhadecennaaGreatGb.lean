/- Part of a proof. -/
import Derived.Test.YtaijfhadecennaaGreatRi
import Derived.Test.YtaijfhadecennaaGreatR
import Derived.Deep.AppendLies
import Derived.Test.YtaijfhadecennaaGreatQd
import Derived.Laws.AppendOwnNone
import Derived.Laws.EntriesVeiled
import Derived.Lib.SliceRun
import Derived.Deep.RegionHeld3
open Go.Proofs.Tryz
set_option maxHeartbeats 1000000
namespace Go.Proofs.YtaijfhadecennaaGreat.Oct
open Go.RowKit
def OutAt (w:World) (v:Value) (zs:List Int):Prop:=
 (v=.slice none 0 0/\zs=[])\/∃g off cap cur,v=.slice (some ⟨g,off,none⟩) zs.length cap/\w.heap[g]?=some (.cells cur 5 (0,0))/\zs.length<=cap/\cap<=maxLen/\off+cap<=cur.size/\
  ∀i,i<zs.length->cur[off+i]?=some (.int .u8 (zs.getD i 0))
theorem OutAt.keep {w w':World} {v:Value} {zs:List Int} (h:OutAt w v zs) (k:∀g,v.ownBlock=some g->w'.heap[g]?=w.heap[g]?):OutAt w' v zs:=by
 rcases h with h|⟨g,off,cap,cur,rfl,hg,rest⟩
 ·exact .inl h
 ·exact .inr ⟨g,off,cap,cur,rfl,(k g rfl).trans hg,rest⟩
def wcells (x:Nat × List Int):List Value:=.int .i64 x.1::x.2.map (Value.int .u8)
def scells (l:List (Nat × List Int)):List Value:=l.flatMap wcells
structure DevC (w:World) (p gN gL cN cL:Nat) (vS vO:Value) (f:Int) (D:Dv):Prop where
 cells:w.heap[p]?=some (.cells #[.slice (some ⟨gN,0,none⟩) D.now.length cN,.slice (some ⟨gL,0,none⟩) D.sure.length cL,vS,vO,.int .i64 f,.int .i64 D.ops,.bool D.dead] 102 (0,0))
 now:Own 0 w (.slice (some ⟨gN,0,none⟩) D.now.length cN) D.now
 sure:Own 0 w (.slice (some ⟨gL,0,none⟩) D.sure.length cL) D.sure
 since:w.ownsRow 0 111 257 vS D.since.length (scells D.since)
 out:OutAt w vO D.out
 f1: -9223372036854775808<=f
 f2:f<=9223372036854775807
 fuse:max f (-1)=D.fuse
 pN:p≠gN
 pL:p≠gL
 NL:gN≠gL
 pS:vS.ownBlock≠some p
 NS:vS.ownBlock≠some gN
 LS:vS.ownBlock≠some gL
 pO:vO.ownBlock≠some p
 NO:vO.ownBlock≠some gN
 LO:vO.ownBlock≠some gL
 SO:∀g,vS.ownBlock=some g->vO.ownBlock≠some g
def foot (p gN gL:Nat) (vS vO:Value) (k:Nat):Prop:=k=p\/k=gN\/k=gL\/vS.ownBlock=some k\/vO.ownBlock=some k
def Dev (w:World) (p:Nat) (F:Nat->Prop) (D:Dv):Prop:=
 D.ok/\(∀k,F k->k<w.heap.size)/\∃gN gL cN cL vS vO f,DevC w p gN gL cN cL vS vO f D/\∀k,foot p gN gL vS vO k->F k
theorem DevC.keep {w w':World} {p gN gL cN cL:Nat} {vS vO:Value} {f:Int} {D:Dv} (h:DevC w p gN gL cN cL vS vO f D) (k:∀g,foot p gN gL vS vO g->w'.heap[g]?=w.heap[g]?):DevC w' p gN gL cN cL vS vO f D:=
 {h with
  cells:=(k p (.inl rfl)).trans h.cells
  now:=yQ h.now (fun g hg=>k g (by simp [Value.ownBlock] at hg;exact .inr (.inl hg.symm)))
  sure:=yQ h.sure (fun g hg=>k g (by simp [Value.ownBlock] at hg;exact .inr (.inr (.inl hg.symm))))
  since:=yQ h.since (fun g hg=>k g (.inr (.inr (.inr (.inl hg)))))
  out:=h.out.keep (fun g hg=>k g (.inr (.inr (.inr (.inr hg)))))}
theorem Dev.keep {w w':World} {p:Nat} {F:Nat->Prop} {D:Dv} (h:Dev w p F D) (hs:w.heap.size<=w'.heap.size) (k:∀g,F g->w'.heap[g]?=w.heap[g]?):Dev w' p F D:=by
 obtain ⟨h1,h2,gN,gL,cN,cL,vS,vO,f,h3,h4⟩:=h;exact ⟨h1,fun g hg=>qA (h2 g hg) hs,gN,gL,cN,cL,vS,vO,f,h3.keep (fun g hg=>k g (h4 g hg)),h4⟩
theorem Dev.ch {w w':World} {p:Nat} {F G:Nat->Prop} {D:Dv} (h:Dev w p F D) (hc:Ch w.heap.size G w w') (hd:∀k,F k->¬G k):Dev w' p F D:=
 h.keep hc.size (fun g hg=>hc.block g (h.2.1 g hg) (hd g hg))
theorem Dev.below {w w':World} {p:Nat} {F:Nat->Prop} {D:Dv} (h:Dev w p F D) (hc:Below w.heap.size w w'):Dev w' p F D:=
 h.ch (Ch.of (fun _=>False) hc) (fun _ _ h=>h)
theorem Dev.p {w:World} {p:Nat} {F:Nat->Prop} {D:Dv} (h:Dev w p F D):F p/\p<w.heap.size:=by
 obtain ⟨_,h2,gN,gL,cN,cL,vS,vO,f,h3,h4⟩:=h;exact ⟨h4 p (.inl rfl),h2 p (h4 p (.inl rfl))⟩
theorem DevC.at {w:World} {p gN gL cN cL:Nat} {vS vO:Value} {f:Int} {D:Dv} (h:DevC w p gN gL cN cL vS vO f D):
  w.cell? ⟨p,0,none⟩=some (.slice (some ⟨gN,0,none⟩) D.now.length cN)/\w.cell? ⟨p,1,none⟩=some (.slice (some ⟨gL,0,none⟩) D.sure.length cL)/\w.cell? ⟨p,2,none⟩=some vS/\w.cell? ⟨p,3,none⟩=some vO/\
  w.cell? ⟨p,4,none⟩=some (.int .i64 f)/\w.cell? ⟨p,5,none⟩=some (.int .i64 D.ops)/\w.cell? ⟨p,6,none⟩=some (.bool D.dead)/\∀i,w.frozen? ⟨p,i,none⟩=false:=by
 have hc:=h.cells;refine ⟨?_,?_,?_,?_,?_,?_,?_,fun i=>?_⟩
 all_goals first|(rw [cell_of_row w p _ _ _ (0,0) hc];rfl)|skip
 unfold World.frozen?;rw [hc];simp
def aB (n:Int):Bool:=decide (8<=n/\n<=4096)
theorem allowed_any (n:Int) (w:World):Calls prog 64 #[.int .i64 n] w fun e w'=>e=.returned (.bool (aB n))/\w=w':=by
 have ht:∀(b:Bool),b=aB n->Ending.returned (.bool b)=.returned (.bool (aB n)):=fun b h=>by rw [h]
 by_cases h1:8<=n
 ·by_cases h2:n<=4096
  ·go_enter func64,ntmps64
   go_wp2;go_ret
   exact ⟨ht _ (by simp [aB];omega),rfl⟩
  ·go_enter func64,ntmps64
   go_wp2;go_ret
   exact ⟨ht _ (by simp [aB];omega),rfl⟩
 ·go_enter func64,ntmps64
  go_wp2;go_ret
  exact ⟨ht _ (by simp [aB];omega),rfl⟩
theorem newDev {w0 w:World} {p gN gL cN cL:Nat} {zs:List Int} (hw:w0.heap.size<=w.heap.size) (h1:Own w0.heap.size w (.slice (some ⟨gN,0,none⟩) zs.length cN) zs) (h2:Own w0.heap.size w (.slice (some ⟨gL,0,none⟩) zs.length cL) zs) (hNL:gN≠gL) (hp:p=w.heap.size)
  (hb:Bys zs) (n:Nat) (hl:zs.length=n*256) (h8:8<=n) (h4:n<=4096):
  Dev (w.alloc (.cells #[.slice (some ⟨gN,0,none⟩) zs.length cN,.slice (some ⟨gL,0,none⟩) zs.length cL,.slice none 0 0,.slice none 0 0,.int .i64 (-1),.int .i64 0,.bool false] 102)) p (fun k=>w0.heap.size<=k/\k<=w.heap.size) (newD zs):=by
 subst hp;have l1:=h1.lt2;have l2:=h2.lt2;refine ⟨newD_ok hb n hl h8 h4,fun k hk=>by simp;omega,gN,gL,cN,cL,_,_,-1,⟨heap_alloc_new w _,(h1.kept (Below.heap_alloc w _ gN l1.2)).zero,(h2.kept (Below.heap_alloc w _ gL l2.2)).zero,World.ownsRow_nil _ _ _ _,.inl ⟨rfl,rfl⟩,by decide,by decide,rfl,by omega,by omega,hNL,by simp [Value.ownBlock],by simp [Value.ownBlock],by simp [Value.ownBlock],by simp [Value.ownBlock],by simp [Value.ownBlock],by simp [Value.ownBlock],fun g hg=>by simp [Value.ownBlock] at hg⟩,fun k hk=>?_⟩;rcases hk with rfl|rfl|rfl|hk|hk
 ·exact ⟨hw,jB _⟩
 ·omega
 ·omega
 ·simp [Value.ownBlock] at hk
 ·simp [Value.ownBlock] at hk
theorem UM (ad:Addr) (cap:Nat) (zs:List Int) (w:World) (h:Row w (some ad) cap zs) (n:Nat) (hl:zs.length=n*256) (h8:8<=n) (h4:n<=4096):
  Calls prog 65 #[.slice (some ad) zs.length cap] w fun e w'=>∃p F,e=.returned (.pointer (some ⟨p,0,none⟩))/\Dev w' p F (newD zs)/\Below w.heap.size w w'/\∀k,F k->w.heap.size<=k:=by
 have hsz:zs.length<=140737488355328:=by omega
 have c1:=JP ad cap zs w h hsz;have c2:∀w1,Below w.heap.size w w1->Calls prog 70 #[.slice (some ad) zs.length cap] w1 fun e w'=>∃g c,e=.returned (.slice (some ⟨g,0,none⟩) zs.length c)/\Own w1.heap.size w' (.slice (some ⟨g,0,none⟩) zs.length c) zs/\Below w1.heap.size w1 w':=fun w1 hb=>JP ad cap zs w1 (h.below hb) hsz
 have hby:=h.1;have HL:Hid (zs.length=n*256):=hl;clear h hl;go_enter func65,ntmps65
 go_wp2_with fail
 refine c1.mono ?_;clear c1;rintro e w1 ⟨g1,k1,rfl,ho1,hb1⟩;go_wp2_with fail
 refine (c2 w1 hb1).mono ?_;clear c2;rintro e w2 ⟨g2,k2,rfl,ho2,hb2⟩;have l1:=ho1.lt2;have l2:=ho2.lt2;have s1:=hb1.size;have s2:=hb2.size;have HD:=newDev (p:=w2.heap.size) (w0:=w) (w:=w2) (by omega) (ho1.kept (hb2.block g1 l1.2)) (yX ho2 (fun g hg=>by simp [Value.ownBlock] at hg;omega)) (by omega) rfl hby n HL.out h8 h4;have HB:Hid (Below w.heap.size w (w2.alloc (.cells #[.slice (some ⟨g1,0,none⟩) zs.length k1,.slice (some ⟨g2,0,none⟩) zs.length k2,.slice none 0 0,.slice none 0 0,.int .i64 (-1),.int .i64 0,.bool false] 102))):=(hb1.trans (hb2.mono s1)).alloc (by omega) _;have H2:=HD;clear ho1 ho2 hb1 hb2 HL HD;have HD:Hid _:=H2;clear H2;go_wp2;go_ret
 exact ⟨w2.heap.size,_,rfl,HD.out,HB.out,fun k hk=>hk.1⟩
theorem new_no (n:Int) (w:World) (h:aB n=false):Calls prog 20 #[.int .i64 n] w fun e w'=>e=.returned (.tuple #[.pointer none,.int .i64 1])/\w=w':=by
 go_enter func20,ntmps20
 go_wp2_with (go_at_call 64;refine (allowed_any _ _).mono ?_;rintro e w' ⟨rfl,rfl⟩)
 go_ret2
 exact ⟨rfl,rfl⟩
theorem new_yes (n:Nat) (w:World) (h8:8<=n) (h4:n<=4096):
  Calls prog 20 #[.int .i64 n] w fun e w'=>∃p F,e=.returned (.tuple #[.pointer (some ⟨p,0,none⟩),.int .i64 0])/\Dev w' p F (newD (List.replicate (n*256) 0))/\Below w.heap.size w w'/\∀k,F k->w.heap.size<=k:=by
 obtain ⟨i0,hi0,hz0,hz1,hz2⟩:=info_parts info5;have ha:aB n=true:=by simp [aB];omega
 have c1:∀(ad:Addr) (cap:Nat) (w1:World),Row w1 (some ad) cap (List.replicate (n*256) 0)->Calls prog 65 #[.slice (some ad) (n*256) cap] w1 fun e w'=>∃p F,e=.returned (.pointer (some ⟨p,0,none⟩))/\Dev w' p F (newD (List.replicate (n*256) 0))/\Below w1.heap.size w1 w'/\∀k,F k->w1.heap.size<=k:=fun ad cap w1 hr=>by
  have:=UM ad cap _ w1 hr n (by simp) h8 h4
  rwa [jK] at this
 have hm:n*256<=maxLen:=by unfold maxLen;omega
 have hk:((n:Int)*256)=((n*256:Nat):Int):=by omega
 obtain ⟨N,hN⟩:∃N,n*256=N:=⟨_,rfl⟩;have h8':2048<=N:=by omega
 have h4':N<=1048576:=by omega
 rw [hN] at c1 hk hm;have HN:Hid (n*256=N):=hN;clear hN;rw [show n*256=N from HN.out];go_enter func20,ntmps20
 go_wp2_with (first|(go_at_call 64;refine (allowed_any _ _).mono ?_;rintro e w' ⟨rfl,rfl⟩)|(at_make;refine wpList_make_full _ rfl _ _ 32 rfl w.heap.size 5 i0 (.int .u8 0) 1 underlying32 hi0 hz0 hz1 .i64 .i64 _ _ N rfl rfl rfl rfl (by rw [hz2];omega) hm (jB _) ?_;intro w1 hown1 hgrow1))
 have hb1:Below w.heap.size w w1:=(Below.refl _ w).grown hgrow1 (jB _) (by simp)
 have hrow:Row w1 (some ⟨w.heap.size,0,none⟩) N (List.replicate N 0):=by
  exact ((JJ hown1).row' (XC _)).2
 refine (c1 _ _ _ hrow).mono ?_;clear c1 hown1 hgrow1 hrow;rintro e w2 ⟨p,F,rfl,hd,hb2,hF⟩;have s1:=hb1.size;have HD:Hid (Dev w2 p F (newD (List.replicate N 0))):=hd;have HB:Hid (Below w.heap.size w w2):=hb1.trans (hb2.mono s1);clear hd hb1 hb2;go_wp2;go_ret2
 exact ⟨p,F,rfl,HD.out,HB.out,fun k hk=>jP s1 (hF k hk)⟩
theorem made_any {w:World} {p:Nat} {F:Nat->Prop} {D:Dv} (h:Dev w p F D):Calls prog 69 #[.pointer (some ⟨p,0,none⟩)] w fun e w'=>e=.returned (.bool true)/\w=w':=by
 obtain ⟨ok,_,gN,gL,cN,cL,vS,vO,f,hc,_⟩:=h;have c0:=hc.at.1;have hl:0<D.now.length:=by have:=ok.now;have:=ok.n8;omega
 clear ok hc;go_enter func69,ntmps69
 go_wp2;go_ret
 exact ⟨rfl,rfl⟩
theorem YT {w:World} {p:Nat} {F:Nat->Prop} {D:Dv} (h:Dev w p F D):Calls prog 48 #[.pointer (some ⟨p,0,none⟩)] w fun e w'=>e=.returned (.int .i64 D.n)/\w=w':=by
 have hm:=made_any h;obtain ⟨ok,_,gN,gL,cN,cL,vS,vO,f,hc,_⟩:=h;have c0:=hc.at.1;have e:(D.now.length:Int)/256=D.n:=by have:=ok.now;omega
 have hl:D.now.length<=1048576:=by have:=ok.now;have:=ok.n4;omega
 clear ok hc;go_enter func48,ntmps48
 go_wp2_with (go_at_call 69;refine hm.mono ?_;rintro e w' ⟨rfl,rfl⟩)
 go_ret
 exact ⟨rfl,rfl⟩
def hasB (D:Dv) (pg:Int):Bool:=decide (0<=pg/\pg<D.n)
theorem has_any {w:World} {p:Nat} {F:Nat->Prop} {D:Dv} (h:Dev w p F D) (pg:Int):Calls prog 145 #[.pointer (some ⟨p,0,none⟩),.int .i64 pg] w fun e w'=>e=.returned (.bool (hasB D pg))/\w=w':=by
 have hm:=YT h;have ht:∀(b:Bool),b=hasB D pg->Ending.returned (.bool b)=.returned (.bool (hasB D pg)):=fun b h=>by rw [h]
 clear h;by_cases h0:0<=pg
 ·by_cases h1:pg<D.n
  ·go_enter func145,ntmps145
   go_wp2_with (go_at_call 48;refine hm.mono ?_;rintro e w' ⟨rfl,rfl⟩)
   go_ret
   exact ⟨ht _ (by simp [hasB];omega),rfl⟩
  ·go_enter func145,ntmps145
   go_wp2_with (go_at_call 48;refine hm.mono ?_;rintro e w' ⟨rfl,rfl⟩)
   go_ret
   exact ⟨ht _ (by simp [hasB];omega),rfl⟩
 ·go_enter func145,ntmps145
  go_wp2_with (go_at_call 48;refine hm.mono ?_;rintro e w' ⟨rfl,rfl⟩)
  go_ret
  exact ⟨ht _ (by simp [hasB];omega),rfl⟩
theorem image_any {w:World} {p:Nat} {F:Nat->Prop} {D:Dv} (h:Dev w p F D):Calls prog 22 #[.pointer (some ⟨p,0,none⟩)] w fun e w'=>∃g c,e=.returned (.slice (some ⟨g,0,none⟩) D.now.length c)/\Own w.heap.size w' (.slice (some ⟨g,0,none⟩) D.now.length c) D.now/\Below w.heap.size w w':=by
 have hm:=made_any h;obtain ⟨ok,_,gN,gL,cN,cL,vS,vO,f,hc,_⟩:=h;have c0:=hc.at.1;have cl:=JP ⟨gN,0,none⟩ cN D.now w (hc.now.row' ok.bnow).2 (by have:=ok.now;have:=ok.n4;omega);clear ok hc;go_enter func22,ntmps22
 go_wp2_with (first|(go_at_call 69;refine hm.mono ?_;rintro e w' ⟨rfl,rfl⟩)|(go_at_call 70;refine cl.mono ?_;rintro e w' ⟨g,c,rfl,ho,hb⟩))
 go_ret
 exact ⟨g,c,rfl,ho,hb⟩
theorem ZT {P:Program} {ops:Array Oper} {o:Oper} {a:Act} {w:World} {K:Act->World->Prop} {Q:Exit->Act->World->Prop} {E:Prop} (hgd:o.guard=none) (d s:Operand) (dT sT:TypeId)
  (ho:o.op=.call {callee:=.builtin .copy,args:= #[d,s],argTypes:= #[dT,sT]}) (elem:TypeId) (hu:P.underlying dT=some (.slice elem)) (hsz:(P.info? elem).map (·.size)=some 1)
  (g off dLen dCap:Nat) (ad:Addr) (sLen sCap:Nat) (hd:a.eval d=.slice (some ⟨g,off,none⟩) dLen dCap) (hs:a.eval s=.slice (some ad) sLen sCap)
  (cur:Array Value) (t:TypeId) (hg:w.heap[g]?=some (.cells cur t (0,0))) (cs:List Value) (hn:cs.length=Nat.min sLen dLen)
  (hsrc:∀j v,cs[j]?=some v->w.cell? (ad.add j)=some v) (hfit:off+cs.length<=cur.size) (h1:∀v∈cs,v.oneCell'=true)
  (X:Array Value) (hX:X=(cur.toList.take off++cs++cur.toList.drop (off+cs.length)).toArray) (h:K (a.put o.dst (goInt cs.length)) (w.setRow g X)):
  if Region.wanted o (yielded ops a.tmps)=true then Oper.wp P o a w K Q else E:=by
 have hw:Region.wanted o (yielded ops a.tmps)=true:=by simp [Region.wanted,hgd]
 rw [if_pos hw];have hrun:=run_copy_row (P:=P) w dT sT o.type elem g off dLen dCap ad sLen sCap cur t cs hu hsz hg hn hsrc hfit h1;unfold Oper.wp;simp [execOp,ho,resolve,invoke,builtin,hd,hs,hrun,Result.andThen];rw [hX,jX] at h;exact h
theorem own_lay {g n cap off:Nat} {w:World} {zs cs:List Int} {cur:Array Value} (hcur:w.heap[g]?=some (.cells cur 5 (0,0))) (hn:n<=cap) (hm:cap<=maxLen) (hs:cur.size=cap) (ht:cur.toList.take n=zs.map (Value.int .u8)) (hl:n=zs.length) (hfit:off+cs.length<=n):
  Own 0 (w.setRow g (cur.toList.take off++cs.map (Value.int .u8)++cur.toList.drop (off+(cs.map (Value.int .u8)).length)).toArray) (.slice (some ⟨g,0,none⟩) n cap) (lay' zs off cs):=by
 have hl2:(lay' zs off cs).length=n:=by rw [lay'_len _ _ _ (by omega)];exact hl.symm
 have hcl:cur.toList.length=cap:=by simpa using hs
 unfold Own;refine ⟨by simp,.inr ⟨g,cap,_,by rw [hl2],jT _,setRow_heap w g cur _ _ _ hcur,by omega,hm,by simp;omega,?_⟩⟩;rw [hl2,Nat.mul_one];simp only [lay',qI,List.map_take,List.map_drop];rw [<-ht,List.take_take,xX (by omega),List.drop_take,List.take_append,qR (by simp;omega),jN,qG,xX (by omega),qU,jX]
theorem DevC.others {w w':World} {p gN gL cN cL:Nat} {vS vO:Value} {f:Int} {D:Dv} (h:DevC w p gN gL cN cL vS vO f D) (k:∀g,g≠p->w'.heap[g]?=w.heap[g]?):
  Own 0 w' (.slice (some ⟨gN,0,none⟩) D.now.length cN) D.now/\Own 0 w' (.slice (some ⟨gL,0,none⟩) D.sure.length cL) D.sure/\w'.ownsRow 0 111 257 vS D.since.length (scells D.since)/\OutAt w' vO D.out:=
 ⟨h.now.kept (k gN h.pN.symm),h.sure.kept (k gL h.pL.symm),yQ h.since (fun g hg=>k g (fun e=>h.pS (e▸hg))),h.out.keep (fun g hg=>k g (fun e=>h.pO (e▸hg)))⟩
theorem DevC.set4 {w:World} {p gN gL cN cL:Nat} {vS vO:Value} {f:Int} {D:Dv} (h:DevC w p gN gL cN cL vS vO f D) (f':Int) (h1: -9223372036854775808<=f') (h2:f'<=9223372036854775807):
  DevC (w.setCell ⟨p,4,none⟩ (.int .i64 f')) p gN gL cN cL vS vO f' {D with fuse:=max f' (-1)}:=by
 obtain ⟨a,b,c,d⟩:=h.others (fun g hg=>Below.heap_setCell w ⟨p,4,none⟩ (.int .i64 f') g hg);exact {h with cells:=yO _ _ _ _ _ _ _ h.cells,now:=a,sure:=b,since:=c,out:=d,f1:=h1,f2:=h2,fuse:=rfl}
theorem DevC.set5 {w:World} {p gN gL cN cL:Nat} {vS vO:Value} {f:Int} {D:Dv} (h:DevC w p gN gL cN cL vS vO f D) (n:Nat):
  DevC (w.setCell ⟨p,5,none⟩ (.int .i64 n)) p gN gL cN cL vS vO f {D with ops:=n}:=by
 obtain ⟨a,b,c,d⟩:=h.others (fun g hg=>Below.heap_setCell w ⟨p,5,none⟩ (.int .i64 n) g hg);exact {h with cells:=yO _ _ _ _ _ _ _ h.cells,now:=a,sure:=b,since:=c,out:=d,fuse:=h.fuse}
theorem DevC.set6 {w:World} {p gN gL cN cL:Nat} {vS vO:Value} {f:Int} {D:Dv} (h:DevC w p gN gL cN cL vS vO f D) (x:Bool):
  DevC (w.setCell ⟨p,6,none⟩ (.bool x)) p gN gL cN cL vS vO f {D with dead:=x}:=by
 obtain ⟨a,b,c,d⟩:=h.others (fun g hg=>Below.heap_setCell w ⟨p,6,none⟩ (.bool x) g hg);exact {h with cells:=yO _ _ _ _ _ _ _ h.cells,now:=a,sure:=b,since:=c,out:=d,fuse:=h.fuse}
def lessF (f:Int):Int:=if 0<f then f-1 else f
theorem burn_zero {w:World} {p:Nat} {F:Nat->Prop} {D:Dv} (h:Dev w p F D) (hf:D.fuse=0):
  Calls prog 187 #[.pointer (some ⟨p,0,none⟩)] w fun e w'=>(∃s,e=.panicked [{v:=.iface 9 (.string s),recovered:=false}])/\w=w':=by
 obtain ⟨ok,_,gN,gL,cN,cL,vS,vO,f,hc,_⟩:=h;have c4:=hc.at.2.2.2.2.1;have e:f=0:=by have:=hc.fuse;omega
 subst e;clear ok hc hf;go_enter func187,ntmps187
 go_wp2;exact ⟨rfl,⟨_,rfl⟩,rfl⟩
theorem UE {w:World} {p:Nat} {F:Nat->Prop} {D:Dv} (h:Dev w p F D) (hf:D.fuse≠0):
  Calls prog 187 #[.pointer (some ⟨p,0,none⟩)] w fun e w'=>e=.returned (.tuple #[])/\Dev w' p F {D with fuse:=lessF D.fuse}/\Ch w.heap.size F w w':=by
 obtain ⟨ok,hF,gN,gL,cN,cL,vS,vO,f,hc,hfo⟩:=h;obtain ⟨_,_,_,_,c4,_,_,z⟩:=hc.at;have z4:=z 4;have hf':=hc.fuse;have f2:=hc.f2;have f1:=hc.f1;have hp:F p:=hfo p (.inl rfl);by_cases hpos:0<f
 ·have e:lessF D.fuse=max (f-1) (-1):=by unfold lessF;split<;>omega
  have hd:Hid (Dev (w.setCell ⟨p,4,none⟩ (.int .i64 (f-1))) p F {D with fuse:=lessF D.fuse}):=by
   rw [e];exact ⟨⟨ok.n8,ok.n4,ok.now,ok.sure,ok.bnow,ok.bsure,ok.bout,ok.since,by show-1<=max (f-1) (-1);omega⟩,fun k hk=>by rw [yP];exact hF k hk,gN,gL,cN,cL,vS,vO,f-1,hc.set4 (f-1) (by omega) (by omega),hfo⟩
  clear e hf' hf ok hc z;go_enter func187,ntmps187
  go_wp2;go_end0
  exact ⟨rfl,hd.out,Ch.set hp _ _⟩
 ·have hne:¬f=0:=by omega
  have e:lessF D.fuse=D.fuse:=by unfold lessF;split<;>omega
  have hd:Hid (Dev w p F {D with fuse:=lessF D.fuse}):=by
   rw [e];exact ⟨ok,hF,gN,gL,cN,cL,vS,vO,f,hc,hfo⟩
  clear e hf' hf ok hc z;go_enter func187,ntmps187
  go_wp2;go_end0
  exact ⟨rfl,hd.out,Ch.refl _ _ _⟩
theorem UL (w:World):Calls prog 149 #[] w fun e w'=>e=.returned (.tuple #[])/\w=w':=by
 go_enter func149,ntmps149
 go_wp2;go_end0
 exact ⟨rfl,rfl⟩
theorem DevC.set3 {w:World} {p gN gL cN cL:Nat} {vS vO:Value} {f:Int} {D:Dv} (h:DevC w p gN gL cN cL vS vO f D) (v:Value) (l:List Int) (ho:OutAt w v l) (hb:v.ownBlock=vO.ownBlock):
  DevC (w.setCell ⟨p,3,none⟩ v) p gN gL cN cL vS v f {D with out:=l}:=by
 have k:∀g,g≠p->(w.setCell ⟨p,3,none⟩ v).heap[g]?=w.heap[g]?:=fun g hg=>Below.heap_setCell w ⟨p,3,none⟩ v g hg
 obtain ⟨a,b,c,d⟩:=h.others k;exact {h with cells:=yO _ _ _ _ _ _ _ h.cells,now:=a,sure:=b,since:=c,out:=ho.keep (fun g hg=>k g (fun e=>h.pO (by rw [<-hb,<-e];exact hg))),fuse:=h.fuse,pO:=hb▸h.pO,NO:=hb▸h.NO,LO:=hb▸h.LO,SO:=hb▸h.SO}
theorem OutAt.tl {w:World} {g off L cap:Nat} {l:List Int} (h:OutAt w (.slice (some ⟨g,off,none⟩) L cap) l) (hl:1<=l.length):OutAt w (.slice (some ⟨g,off+1,none⟩) (L-1) (cap-1)) l.tail:=by
 rcases h with ⟨h,_⟩|⟨g',off',cap',cur,e,hg,h1,h2,h3,h4⟩
 ·simp at h
 ·simp only [Value.slice.injEq,jQ,Addr.mk.injEq,and_true] at e;obtain ⟨⟨rfl,rfl⟩,rfl,rfl⟩:=e;refine .inr ⟨g,off+1,cap-1,cur,by simp,hg,by simp;omega,by omega,by omega,fun i hi=>?_⟩;simp at hi;have:=h4 (i+1) (by omega);rw [show off+1+i=off+(i+1) by omega,this]
  congr 2
  rw [jA,jA,List.getElem?_tail]
theorem OutAt.tl0 {w:World} {g off L:Nat} {l:List Int} (h:OutAt w (.slice (some ⟨g,off,none⟩) L 1) l):OutAt w (.slice (some ⟨g,off,none⟩) 0 0) l.tail:=by
 rcases h with ⟨h,_⟩|⟨g',off',cap',cur,e,hg,h1,h2,h3,h4⟩
 ·simp at h
 ·simp only [Value.slice.injEq,jQ,Addr.mk.injEq,and_true] at e;obtain ⟨⟨rfl,rfl⟩,rfl,rfl⟩:=e;have e0:l.tail=[]:=by cases l with|nil=>rfl|cons x r=>simp at h1;simp [h1]
  rw [e0];exact .inr ⟨g,off,0,cur,rfl,hg,jB _,by simp [maxLen],by omega,fun i hi=>by simp at hi⟩
theorem tailOk {D:Dv} (h:D.ok):({D with out:=D.out.tail}:Dv).ok:=⟨h.n8,h.n4,h.now,h.sure,h.bnow,h.bsure,h.bout.tail,h.since,h.fuse⟩
theorem YG {w:World} {p:Nat} {F:Nat->Prop} {D:Dv} (h:Dev w p F D):
  Calls prog 188 #[.pointer (some ⟨p,0,none⟩)] w fun e w'=>e=.returned (.int .u8 (D.out.getD 0 0))/\Dev w' p F {D with out:=D.out.tail}/\Ch w.heap.size F w w':=by
 obtain ⟨ok,hF,gN,gL,cN,cL,vS,vO,f,hc,hfo⟩:=h;obtain ⟨_,_,_,c3,_,_,_,z⟩:=hc.at;have z3:=z 3;have hp:F p:=hfo p (.inl rfl);rcases id hc.out with ⟨rfl,h0⟩|⟨g,off,cap,cur,rfl,hg,h1,h2,h3,h4⟩
 ·have hd:Hid (Dev w p F {D with out:=D.out.tail}):=by
   have e:({D with out:=D.out.tail}:Dv)=D:=by rw [h0,List.tail_nil,<-h0]
   rw [e];exact ⟨ok,hF,gN,gL,cN,cL,vS,_,f,hc,hfo⟩
  have HL:Hid (D.out=[]):=h0;clear ok hc z h0;go_enter func188,ntmps188
  go_wp2;go_ret
  exact ⟨by rw [HL.out];rfl,hd.out,Ch.refl _ _ _⟩
 ·by_cases hl:D.out.length=0
  ·have h0:D.out=[]:=qE hl
   have hd:Hid (Dev w p F {D with out:=D.out.tail}):=by
    have e:({D with out:=D.out.tail}:Dv)=D:=by rw [h0,List.tail_nil,<-h0]
    rw [e];exact ⟨ok,hF,gN,gL,cN,cL,vS,_,f,hc,hfo⟩
   rw [hl] at c3;have HL:Hid (D.out=[]):=h0;clear ok hc z h4 hl h0 h1;go_enter func188,ntmps188
   go_wp2;go_ret
   exact ⟨by rw [HL.out];rfl,hd.out,Ch.refl _ _ _⟩
  ·have hg0:w.cell? ⟨g,off,none⟩=some (.int .u8 (D.out.getD 0 0)):=by
    have:=h4 0 (by omega);rw [Nat.add_zero] at this;rw [cell_of_row w g off cur _ (0,0) hg,this]
   by_cases hc1:cap=1
   ·subst hc1
    have hd:Hid (Dev (w.setCell ⟨p,3,none⟩ (.slice (some ⟨g,off,none⟩) 0 0)) p F {D with out:=D.out.tail}):=
     ⟨tailOk ok,fun k hk=>by rw [yP];exact hF k hk,gN,gL,cN,cL,vS,_,f,hc.set3 _ _ hc.out.tl0 rfl,fun k hk=>hfo k hk⟩
    have e1:D.out.length=1:=by omega
    rw [e1] at c3;clear ok hc z h4 hl h1 e1 hfo;go_enter func188,ntmps188
    go_wp2;go_ret
    exact ⟨rfl,hd.out,Ch.set hp _ _⟩
   ·obtain ⟨m,hm⟩:∃m,cap=m+1:=⟨cap-1,by omega⟩;obtain ⟨L,hL⟩:∃L,D.out.length=L+1:=⟨D.out.length-1,by omega⟩
    have hd:Hid (Dev (w.setCell ⟨p,3,none⟩ (.slice (some ⟨g,off+1,none⟩) L m)) p F {D with out:=D.out.tail}):=by
     have e:=hc.out.tl (by omega);rw [hL,hm,Nat.add_sub_cancel,Nat.add_sub_cancel] at e;exact ⟨tailOk ok,fun k hk=>by rw [yP];exact hF k hk,gN,gL,cN,cL,vS,_,f,hc.set3 _ _ e rfl,fun k hk=>hfo k hk⟩
    subst hm;have hm0:¬m=0:=by omega
    have h1':L<=m:=by omega
    unfold maxLen at h2;rw [hL] at c3;clear ok hc z h4 hl h1 hL hfo hc1;go_enter func188,ntmps188
    go_wp2;go_ret
    exact ⟨rfl,hd.out,Ch.set hp _ _⟩
end Go.Proofs.YtaijfhadecennaaGreat.Oct
