/- Part of a proof. -/
import Derived.Test.YtaijfhadecennabGreatEmo
import Derived.Test.YtaijfhadecennabGreatSj
import Derived.Test.YtaijfhadecennabGreatKo
import Derived.Test.YtaijfhadecennabGreatIn
open Go.Proofs.Tryz
set_option maxHeartbeats 4000000
namespace Go.Proofs.YtaijfhadecennabGreat.Oct.Sx
open Go.RowKit
theorem KV (v0 v1:Value) (w:World):
  CallsD prog 80 #[v0,v1] .returning w fun e u' w'=>e=.returned (.tuple #[])/\u'=.returning/\w'=w:=by
 refine callsD_of_wpS func80 rfl fun c₀ cs hu=>?_
 apply wpS_seq;apply wpS_region;simp [wpOpsS,go_sem,recoverD,hu,ntmps80,Exit.thenS];apply wpS_seq;apply wpS_region;simp [wpOpsS,go_sem,Exit.thenS];refine wpS_cond (t:=false) (by simp [Act.eval,Array.replicate]) ?_;simp only [xV,if_false];refine wpS_of_wp (wp_skip ?_);cases c₀
 simp_all [bodyPostS,results,Tryz.results80]
theorem catchS_pan (q b:Addr) (x k:Int) (c:Nat) (older:List PanicEntry) (w:World) (hq:w.cell? q=some (.int .i64 x)) (hqz:w.frozen? q=false)
  (hb:(w.setCell q (.int .i64 k)).cell? b=some (.func (.func 53) #[.pointer (some ⟨c,0,none⟩)] #[])) (R:World->Prop)
  (hf:Calls prog 53 #[.pointer (some ⟨c,0,none⟩)] (w.setCell q (.int .i64 k)) fun e w'=>e=.returned (.tuple #[])/\R w'):
  CallsD prog 80 #[.pointer (some q),.pointer (some b)] (.panicking ({v:=.iface 31 (.int .i64 k),recovered:=false}::older)) w fun e u' w'=>
   e=.returned (.tuple #[])/\u'=.panicking ({v:=.iface 31 (.int .i64 k),recovered:=true}::older)/\R w':=by
 refine callsD_of_wpS func80 rfl fun c₀ cs hu=>?_
 apply wpS_seq;apply wpS_region;simp [wpOpsS,go_sem,recoverD,hu,ntmps80,Exit.thenS];apply wpS_seq;apply wpS_region;simp [wpOpsS,go_sem,Exit.thenS];refine wpS_cond (t:=true) (by simp [Act.eval,Array.replicate]) ?_;simp only [if_true];apply wpS_seq;apply wpS_region;simp [wpOpsS,go_sem,hq,hqz,as_err,Exit.thenS];refine wpS_of_wp ?_;go_wp2_with (go_at_call 53;refine hf.mono ?_;rintro e w' ⟨rfl,hr⟩)
 simp [bodyPostS,results,Tryz.results80];exact hr
def bxF (w:World) (c:Nat):World:=(w.alloc (.cells #[.func (.func 53) #[.pointer (some ⟨c,0,none⟩)] #[]] 1)).alloc (.cells #[.int .i64 0] 31)
def BxAt (w w1:World) (c:Nat):Prop:=w1.heap[w.heap.size]?=some (.cells #[.func (.func 53) #[.pointer (some ⟨c,0,none⟩)] #[]] 1 (0,0))/\w1.heap[w.heap.size+1]?=some (.cells #[.int .i64 0] 31 (0,0))
theorem BxAt.at {w w1:World} {c:Nat} (h:BxAt w w1 c):w1.cell? ⟨w.heap.size+1,0,none⟩=some (.int .i64 0)/\w1.frozen? ⟨w.heap.size+1,0,none⟩=false/\∀v,(w1.setCell ⟨w.heap.size+1,0,none⟩ v).cell? ⟨w.heap.size,0,none⟩=some (.func (.func 53) #[.pointer (some ⟨c,0,none⟩)] #[]):=by
 obtain ⟨h1,h2⟩:=h;refine ⟨by rw [cell_of_row w1 _ _ _ _ (0,0) h2];rfl,by unfold World.frozen?;rw [h2];simp,fun v=>?_⟩;have h3:(w1.setCell ⟨w.heap.size+1,0,none⟩ v).heap[w.heap.size]?=w1.heap[w.heap.size]?:=Below.heap_setCell _ _ _ _ (by simp);rw [cell_of_row _ _ _ _ _ (0,0) (h3.trans h1)];rfl
theorem kF (w:World) (c:Nat) (R0:World->Prop) (F R:Int->World->Prop)
  (hrun:Calls prog 52 #[.pointer (some ⟨c,0,none⟩)] (bxF w c) fun e w1=>BxAt w w1 c/\((e=.returned (.tuple #[])/\R0 w1)\/∃k,e=thrown k/\F k w1))
  (hfail:∀k w1,BxAt w w1 c->F k w1->Calls prog 53 #[.pointer (some ⟨c,0,none⟩)] (w1.setCell ⟨w.heap.size+1,0,none⟩ (.int .i64 k)) fun e w'=>e=.returned (.tuple #[])/\w'.cell? ⟨w.heap.size+1,0,none⟩=some (.int .i64 k)/\R k w'):
  Calls prog 51 #[.func (.func 52) #[.pointer (some ⟨c,0,none⟩)] #[],.func (.func 53) #[.pointer (some ⟨c,0,none⟩)] #[]] w fun e w'=>(∃w1,e=.returned (.int .i64 0)/\R0 w1/\BxAt w w1 c/\w'=w1.setCell ⟨w.heap.size+1,0,none⟩ (.int .i64 0))\/∃k,e=.returned (.int .i64 k)/\R k w':=by
 have hmf:∀(fn:Fn) (first cap:Array Value) (w:World),(Instr.makeFunc fn first cap).run prog w=.ok (.func fn first cap) w:=fun _ _ _ _=>rfl
 go_enter_defers func51,ntmps51
 go_wp2_with fail
 refine hrun.mono ?_;clear hrun;rintro e w1 ⟨hbx,hend⟩;obtain ⟨c0,z0,b0⟩:=hbx.at;have q0:∀x:Value,(w1.setCell ⟨w.heap.size+1,0,none⟩ x).cell? ⟨w.heap.size+1,0,none⟩=some x:=fun x=>World.cell?_setCell_same _ _ _ c0
 have HBX:Hid (BxAt w w1 c):=hbx;clear hbx;rcases hend with ⟨rfl,hr⟩|⟨k,rfl,hF⟩
 ·have HR:Hid (R0 w1):=hr;clear hr;go_wp2;refine leaves_cons (f:=80) (args:= #[.pointer (some ⟨w.heap.size+1,0,none⟩),.pointer (some ⟨w.heap.size,0,none⟩)]) (by simp) (by simp [go_sem]) ?_;refine (KV _ _ _).mono ?_;rintro e u' w'' ⟨rfl,rfl,rfl⟩;simp [Leaves,settle,results,Tryz.results51,go_sem,q0];exact .inl ⟨w1,HR.out,HBX.out,rfl⟩
 ·have hfl:=hfail k w1 HBX.out hF;have hcp:=catchS_pan ⟨w.heap.size+1,0,none⟩ ⟨w.heap.size,0,none⟩ 0 k c [] w1 c0 z0 (b0 _) (fun w'=>w'.cell? ⟨w.heap.size+1,0,none⟩=some (.int .i64 k)/\R k w') hfl;clear hfail hfl hF;unfold thrown;go_wp2;refine leaves_cons (f:=80) (args:= #[.pointer (some ⟨w.heap.size+1,0,none⟩),.pointer (some ⟨w.heap.size,0,none⟩)]) (by simp) (by simp [go_sem]) ?_;refine hcp.mono ?_;rintro e u' w'' ⟨rfl,rfl,hc2,hR⟩;simp [Leaves,settle,results,Tryz.results51,go_sem,hc2];exact .inr hR
end Go.Proofs.YtaijfhadecennabGreat.Oct.Sx
namespace Go.Proofs.YtaijfhadecennabGreat.Oct.Sx
open Go.RowKit
theorem QV (s d:Nat) (w:World) (h:w.cell? ⟨s,0,none⟩=some (.pointer (some ⟨d,0,none⟩))):
  Calls prog 43 #[.pointer (some ⟨s,0,none⟩)] w fun e w'=>e=.returned (.bool true)/\w=w':=by
 go_enter func43,ntmps43
 go_wp2;go_ret
 exact ⟨rfl,rfl⟩
end Go.Proofs.YtaijfhadecennabGreat.Oct.Sx
namespace Go.Proofs.YtaijfhadecennabGreat.Oct
open Go.RowKit
theorem ct_of {C:List Int} (h:∀z∈C,2<=z/\z<4096) (hn:C.Nodup):CtOk C:=by
 intro i hi
 have hm:C.getD i 0∈C:=by
  rw [jA,jC hi];exact qA hi
 refine ⟨h _ hm,fun k hk e=>?_⟩;rw [jA,jA,jC hi,jC (by omega)] at e;exact List.pairwise_iff_getElem.1 hn k i (by omega) hi hk (by simpa using e)
theorem FL {L:List Int} (hL:Bys L):∀(f:Nat) (n:Int) (R:List Bool) (out:List Int) (x:List Bool × List Int),(n=0\/2<=n)->chB L f n R out=some x->
  x.1=mkR R (natL (chQ L f n))/\(∀z∈chQ L f n,2<=z/\z<(R.length:Int)/\R.getD z.toNat false=false)/\(chQ L f n).Nodup
 |0,_,_,_,_,_,h=>by cases h
 |f+1,n,R,out,x,hn,h=>by
  by_cases h0:n=0
  ·subst h0;rw [VX] at h;cases h;unfold chQ;rw [if_pos rfl];exact ⟨(fU R).symm,fun _ hz=>by simp at hz,List.nodup_nil⟩
  ·obtain ⟨h1,h2,h3⟩:=VV h0 h;obtain ⟨a1,a2,a3⟩:=XA h1;obtain ⟨b1,b2,b3⟩:=FL hL f _ _ _ x (ptN_in (JE hL _)) h3;have hk:(n.toNat:Int)=n:=qD a1
   have e:chQ L (f+1) n=n::chQ L f (ptN (pageOf L n.toNat)):=by
    show (if n=0 then _ else _)=_;rw [if_neg h0]
   rw [e];refine ⟨?_,?_,?_⟩
   ·rw [b1,mkR_set];rfl
   ·intro z hz;rcases List.mem_cons.1 hz with rfl|hz
    ·exact ⟨by omega,a2,a3⟩
    ·obtain ⟨c1,c2,c3⟩:=b2 z hz;rw [qC] at c2;refine ⟨c1,c2,?_⟩;rw [XZ (by omega)] at c3;split at c3
     ·cases c3
     ·exact c3
   ·refine List.nodup_cons.2 ⟨fun hm=>?_,b3⟩;obtain ⟨c1,c2,c3⟩:=b2 n hm;rw [qC] at c2;rw [XZ (by omega),if_pos rfl] at c3;cases c3
theorem UN {R:List Bool} {z:Int}:∀k,z∈rsB R k↔∃i:Nat,z=(i:Int)/\i<k/\R.getD i false=true
 |0=>by
  unfold rsB;simp
 |k+1=>by
  rw [rsB];split
  ·next h=>
   rw [qR,UN k];constructor
   ·rintro (⟨i,a,b,c⟩|hz)
    ·exact ⟨i,a,by omega,c⟩
    ·exact ⟨k,List.mem_singleton.1 hz,by omega,h⟩
   ·rintro ⟨i,a,b,c⟩;by_cases hik:i=k
    ·subst hik;exact .inr (by rw [a];exact List.mem_singleton.2 rfl)
    ·exact .inl ⟨i,a,by omega,c⟩
  ·next h=>
   rw [UN k];constructor
   ·rintro ⟨i,a,b,c⟩;exact ⟨i,a,by omega,c⟩
   ·rintro ⟨i,a,b,c⟩;refine ⟨i,a,?_,c⟩;by_cases hik:i=k
    ·subst hik;exact absurd c h
    ·omega
structure Ld2 (N:Nat) (C:List Int) (R3:List Bool):Prop where
 len:R3.length=N
 c:CtOk C
 cn:∀z∈C,z<(N:Int)
 at_:∀i,i<N->R3.getD i false=decide ((i:Int)∈C)
theorem ld_two {L:List Int} (hL:Bys L) {N:Nat} (hN:pgN L=N) (h4:N<=4096) {s f:Int} (hs:s=0\/2<=s) (hf:f=0\/2<=f) {R2 R3:List Bool} {st fr:List Int}
  (hc1:chB L (N+1) s (rN L) []=some (R2,st)) (hc2:chB L (N+1) f R2 []=some (R3,fr)):Ld2 N (chQ L (N+1) s++chQ L (N+1) f) R3:=by
 obtain ⟨a1,a2,a3⟩:=FL hL _ _ _ _ _ hs hc1;obtain ⟨b1,b2,b3⟩:=FL hL _ _ _ _ _ hf hc2;have hl1:(rN L).length=N:=by unfold rN;rw [jJ,hN]
 have hl2:R2.length=N:=by
  have:R2=mkR (rN L) _:=a1;rw [this,zQ,hl1]
 have e3:R3=mkR R2 _:=b1;have e2:R2=mkR (rN L) _:=a1
 have hr0:∀i,(rN L).getD i false=false:=fun i=>by
  unfold rN;rw [jA,qU];split<;>rfl
 have m2:∀i,i<N->R2.getD i false=decide ((i:Int)∈chQ L (N+1) s):=fun i hi=>by
  rw [e2,JL (by omega),hr0,Bool.false_or];apply Bool.eq_iff_iff.2;rw [xM,xM];unfold natL;rw [List.mem_map];constructor
  ·rintro ⟨z,hz,rfl⟩;have:=(a2 z hz).1;rw [qD (by omega)];exact hz
  ·intro hz;exact ⟨_,hz,rfl⟩
 refine ⟨by rw [e3,zQ,hl2],?_,?_,?_⟩
 ·refine ct_of (fun z hz=>?_) (List.nodup_append.2 ⟨a3,b3,?_⟩)
  ·rcases List.mem_append.1 hz with hz|hz
   ·obtain ⟨x,y,_⟩:=a2 z hz;omega
   ·obtain ⟨x,y,_⟩:=b2 z hz;omega
  ·rintro x hx y hy rfl;obtain ⟨u1,u2,u3⟩:=b2 x hy;rw [m2 _ (by omega),decide_eq_false_iff_not,qD (by omega)] at u3;exact u3 hx
 ·intro z hz;rcases List.mem_append.1 hz with hz|hz
  ·obtain ⟨x,y,_⟩:=a2 z hz;omega
  ·obtain ⟨x,y,_⟩:=b2 z hz;omega
 ·intro i hi;rw [e3,JL (by omega),m2 i hi];apply Bool.eq_iff_iff.2;rw [Bool.or_eq_true,xM,xM,xM,qR];unfold natL;rw [List.mem_map];constructor
  ·rintro (h|⟨z,hz,rfl⟩)
   ·exact .inl h
   ·have:=(b2 z hz).1;rw [qD (by omega)];exact .inr hz
  ·rintro (h|h)
   ·exact .inl h
   ·exact .inr ⟨_,h,rfl⟩
theorem FW {R:List Bool} {i:Nat} (hi:i<(R.length+7)/8*8):bitR (usedL R) i=(decide (i<2)||R.getD i false):=XH hi
theorem Ld2.ok {N:Nat} {C:List Int} {R3:List Bool} (h:Ld2 N C R3) (h8:8<=N):ldOk (usedL R3) N=true:=by
 unfold ldOk;rw [jN,xM,uA,h.len,List.all_eq_true];refine ⟨rfl,fun i hi=>?_⟩;rw [List.mem_range] at hi;unfold ldF;rw [FW (by rw [h.len];omega)];by_cases h2:i<2
 ·have e1:decide (i<2)=true:=jF h2;by_cases hN:N<=i
  ·omega
  ·have e2:decide (N<=i)=false:=jM hN;rw [e1,e2];rfl
 ·have e1:decide (i<2)=false:=jM h2;rw [e1];by_cases hN:N<=i
  ·have e3:R3.getD i false=false:=by
    rw [jA,jX (by rw [h.len];exact hN)];rfl
   rw [e3];simp
  ·have e2:decide (N<=i)=false:=jM hN;rw [e2];simp
theorem Ld2.at' {N:Nat} {C:List Int} {R3:List Bool} (h:Ld2 N C R3) {k:Nat} (hk:k<N):(ldS (usedL R3) N).getD k 0=if k<2\/(k:Int)∈C then 1 else 0:=by
 rw [ldS_at hk,FW (by rw [h.len];omega),h.at_ k hk];by_cases h2:k<2
 ·rw [jF h2,Bool.true_or,if_pos rfl,if_pos (.inl h2)]
 ·rw [jM h2,Bool.false_or];by_cases hC:(k:Int)∈C
  ·rw [jF hC,if_pos rfl,if_pos (.inr hC)]
  ·rw [jM hC,if_neg (by simp),if_neg (by rintro (h|h);exact h2 h;exact hC h)]
theorem Ld2.inv {N:Nat} {C:List Int} {R3:List Bool} (h:Ld2 N C R3) (h8:8<=N) (h4:N<=4096):PInv N (ldS (usedL R3) N) C where
 len:=XB _ _
 ok:=ldS_ok _ h8 h4
 one:=fun k hk=>by
  rw [h.at' hk];split
  ·next a=>exact ⟨fun _=>a,fun _=>rfl⟩
  ·next a=>exact ⟨fun e=>(by cases e),fun b=>absurd b a⟩
 two:=fun k hk=>by
  rw [h.at' hk];split<;>simp
 c:=h.c
 cn:=h.cn
theorem Ld2.zo {N:Nat} {C:List Int} {R3:List Bool} (h:Ld2 N C R3):∀k,k<N->(ldS (usedL R3) N).getD k 0=0\/(ldS (usedL R3) N).getD k 0=1:=fun k hk=>by
 rw [h.at' hk];split
 ·exact .inr rfl
 ·exact .inl rfl
theorem Ld2.rs {N:Nat} {C:List Int} {R3:List Bool} (h:Ld2 N C R3):∀z,z∈rsB R3 N↔z∈C:=fun z=>by
 rw [UN];constructor
 ·rintro ⟨i,rfl,hi,e⟩;rw [h.at_ i hi] at e;exact jZ e
 ·intro hz;have h2:=(yR h.c z hz).1;have h3:=h.cn z hz;refine ⟨z.toNat,by omega,by omega,?_⟩;rw [h.at_ _ (by omega),qD (by omega)];exact jF hz
theorem Jv.crashed {D:Dv} {S:Sp} {pl:Nat} {r:Rp} (h:Jv D S pl r []) (ch:List Int):Jv (crashD D ch) S pl r []:=by
 obtain ⟨pa,po⟩:=h.pages ch;exact
 {ok:=crashD_ok h.ok ch
  now:=rfl
  p2:=h.p2
  sp:=h.sp
  su:=YZ h.ok h.su h.nor ch
  at_:=pa
  nop:=fun x hx=>by cases hx
  nor:=fun x hx=>by cases hx
  oth:=po
  ots:=fun x hx=>by cases hx
  trd:=fun y hy=>by cases hy}
theorem rdK_jv {D:Dv} {S:Sp} {pl:Nat} {r:Rp} {T:List (Sp × Rp)} (h:Jv D S pl r T):∀k,Jv (rdK D k) S pl r T
 |0=>h
 |k+1=>(rdK_jv h k).readD
theorem uX (D:Dv):∀k,(rdK D k).n=D.n
 |0=>rfl
 |k+1=>by
  show (readD (rdK D k)).n=D.n;rw [show (readD (rdK D k)).n=(rdK D k).n from (Acts.read (Q:=fun _=>True) (rdK D k)).n,uX D k]
theorem rdK_mo (D:Dv):∀k,Mo D (rdK D k)
 |0=>Mo.refl D
 |k+1=>(rdK_mo D k).trans (mo_read _)
theorem vJ (D:Dv):∀k,(rdK D k).ops<=D.ops+k/\(rdK D k).since.length<=D.since.length
 |0=>⟨jB _,jB _⟩
 |k+1=>by
  have a:=(Acts.read (Q:=fun _=>True) (rdK D k)).ops;have b:=vJ D k
  have c:(readD (rdK D k)).since.length<=(rdK D k).since.length:=by
   unfold readD;split<;>(try split)<;>exact jB _
  exact ⟨jR a.1 (by omega),jR c b.2⟩
theorem In.load {D:Dv} {S:Sp} {pl:Nat} {r:Rp} (h:Jv D S pl r []) (N k:Nat) {P C:List Int} (hp:PInv D.n P C) (hr:∀z∈r.pg,z∈C) (hs:S.p=D.n):In (rdK D k) N [] P S pl C S.g r [] where
 jv:=rdK_jv h k
 fi:=FI.nil (rdK_jv h k).ok N
 nd:=by rintro _ ⟨f,hf,_⟩;cases hf
 pi:=by rw [uX];exact hp
 rc:=hr
 tc:=fun y hy=>by cases hy
 gs:=Int.le_refl _
 gt:=fun y hy=>by cases hy
 sp:=by rw [uX];exact hs
end Go.Proofs.YtaijfhadecennabGreat.Oct
namespace Go.Proofs.YtaijfhadecennabGreat.Oct
open Go.RowKit
attribute [local go_sem ↓] XQ XX
section
variable {w:World} {p d m e N:Nat} {Fd F:Nat->Prop} {D:Dv} {bs:List Nat} {fr:Nat->Fr} {ol nw:Nat->Nat}
def Pin1N (p d N:Nat) (F:Nat->Prop) (D:Dv) (L:List Fr) (pg rb:Nat) (w:World) (k:Int) (w':World):Prop:=
 k=usE D N L pg true/\(∃F',Pool w' p d F' (usD D N L pg true) N (pnL D N L pg)/\(∀j,F' j->F j\/w.heap.size<=j)/\∀g c,w'.cell? ⟨rb,0,none⟩=some (.slice (some ⟨g,0,none⟩) 256 c)->¬F' g)/\Ch w.heap.size (fun j=>F j\/j=rb) w w'/\
 ((k=0/\∃g c,CellAt w' rb (.slice (some ⟨g,0,none⟩) 256 c) 22/\Own w.heap.size w' (.slice (some ⟨g,0,none⟩) 256 c) (pnB D N L pg))\/(¬k=0/\CellAt w' rb (.slice none 0 0) 22))
set_option maxRecDepth 20000 in
theorem pin1_new (h:PD w p d m e N Fd F D bs fr ol nw) (hops:D.ops<=1000000000) (hs:D.since.length<=1000000) (hpn:∀f∈bs.map fr,f.pins<=1000000) (pg:Nat) (hpg:pg<D.n) (rp rg rb:Nat)
  (hp:CellAt w rp (.pointer (some ⟨p,0,none⟩)) 83) (hg:CellAt w rg (.int .i64 pg) 3) (hb:CellAt w rb (.slice none 0 0) 22) (hbF:¬F rb):
  Calls prog 157 #[.pointer (some ⟨rp,0,none⟩),.pointer (some ⟨rg,0,none⟩),.pointer (some ⟨rb,0,none⟩)] w fun x w'=>∃k,CEnd k x/\Pin1N p d N F D (bs.map fr) pg rb w k w':=by
 have hmf:∀(fn:Fn) (first cap:Array Value) (w:World),(Instr.makeFunc fn first cap).run prog w=.ok (.func fn first cap) w:=fun _ _ _ _=>rfl
 obtain ⟨p1,_⟩:=hp.at;obtain ⟨g1,_⟩:=hg.at;have hu:=usePin_any h hops hs pg hpg;have hrl:=hb.lt;have HB:Hid (CellAt w rb (.slice none 0 0) 22):=hb;have HPN:Hid (∀f∈bs.map fr,f.pins<=1000000):=hpn;clear h hp hg hb hpn;go_enter func157,ntmps157
 go_wp2_with fail
 refine hu.mono ?_;clear hu;rintro x w1 ⟨m1,e1,Fd1,F1,bs1,fr1,ol1,nw1,h1,hL,hst,hx⟩;have hb1:CellAt w1 rb (.slice none 0 0) 22:=HB.out.keep (hst.1.block rb hrl hbF);rcases hx with ⟨hE,g,cs,rfl,rfl⟩|⟨hE,rfl⟩
 ·have hgm:g∈cs++[g]:=by simp
  have hgm':g∈e1::(cs++[g]):=jL _ hgm;have hgF:F1 g:=h1.fp g (.inr (.inr hgm'));have hok:=h1.pool.ok g hgm';obtain ⟨_,_,x2,_,_,xz⟩:=(h1.pool.node g hgm').at hok;have hz2:=xz 258
  have hn:(fr1 g).pins<=1000000:=by
   have:=usL_pins (D:=D) (N:=N) (pg:=pg) (rd:=true) HPN.out (fr1 g);rw [<-hL] at this;exact this (xJ hgm)
  have h2:=h1.setPins hgm ((fr1 g).pins+1)
  have hrow:Row (w1.setCell ⟨g,258,none⟩ (.int .i64 ((fr1 g).pins+1:Nat))) (some ⟨g,1,none⟩) 256 (fr1 g).b:=by
   have:=(h2.pool.node g hgm').row (h2.pool.ok g hgm');rw [yQ] at this;exact this
  have hcl:=JO ⟨g,1,none⟩ 256 (fr1 g).b _ hrow (by rw [hok.1];decide);rw [hok.1] at hcl
  have hlast:pnL D N (bs.map fr) pg=(cs++[g]).map (upF fr1 g {fr1 g with pins:=(fr1 g).pins+1}):=by
   have hnd:=h1.pool.apart.2.2.2.2.2;unfold pnL;rw [if_pos hE,<-hL,qM,qM,qO,xN,qO,xN,JW,yQ]
   congr 1
   refine qW (fun y hy=>?_)
   rw [yP _ _ (fun e2=>by
    rw [List.nodup_append] at hnd;exact hnd.2.2 y hy g (by simp) e2)]
  have hbyt:pnB D N (bs.map fr) pg=(fr1 g).b:=by
   unfold pnB;rw [<-hL,qM,qO,xN];simp
  have hgrb:rb≠g:=fun e2=>by
   rcases hst.2 g hgF with e3|e3
   ·exact hbF (e2▸e3)
   ·omega
  have hrl1:rb<w1.heap.size:=hb1.lt
  have hend:∀w3 gg c,Own (w1.setCell ⟨g,258,none⟩ (.int .i64 ((fr1 g).pins+1:Nat))).heap.size w3 (.slice (some ⟨gg,0,none⟩) 256 c) (fr1 g).b->Below (w1.setCell ⟨g,258,none⟩ (.int .i64 ((fr1 g).pins+1:Nat))).heap.size (w1.setCell ⟨g,258,none⟩ (.int .i64 ((fr1 g).pins+1:Nat))) w3->
    (w3.cell? ⟨rb,0,none⟩=some (.slice none 0 0)/\w3.frozen? ⟨rb,0,none⟩=false)/\Pin1N p d N F D (bs.map fr) pg rb w 0 (w3.setCell ⟨rb,0,none⟩ (.slice (some ⟨gg,0,none⟩) 256 c)):=fun w3 gg c ho hbe=>by
   have hsz:(w1.setCell ⟨g,258,none⟩ (.int .i64 ((fr1 g).pins+1:Nat))).heap.size=w1.heap.size:=yL _ _ _;have hb2:CellAt (w1.setCell ⟨g,258,none⟩ (.int .i64 ((fr1 g).pins+1:Nat))) rb (.slice none 0 0) 22:=hb1.keep (Below.heap_setCell w1 ⟨g,258,none⟩ _ rb hgrb);have hb3:CellAt w3 rb (.slice none 0 0) 22:=hb2.keep (hbe.block rb (by omega));have h3:=h2.below hbe;have lgg:=ho.lt2;refine ⟨hb3.at,hE.symm,⟨F1,⟨Fd1,m1,e1,_,_,ol1,nw1,h3.keep (xO (yL _ _ _).symm) (fun k hk=>Below.heap_setCell w3 ⟨rb,0,none⟩ _ k (fun e2=>?_)),hlast⟩,hst.2,fun g2 c2 hg2 hF2=>?_⟩,?_,.inl ⟨rfl,gg,c,hb3.set _,?_⟩⟩
   ·subst e2;rcases hst.2 _ hk with e3|e3
    ·exact hbF e3
    ·omega
   ·rw [World.cell?_setCell_same _ _ _ hb3.at.1] at hg2;cases hg2;have:=h1.flt _ hF2;omega
   ·have c1:Ch w.heap.size (fun j=>F j\/j=rb) w (w1.setCell ⟨g,258,none⟩ (.int .i64 ((fr1 g).pins+1:Nat))):=(hst.1.mono (jB _) (fun _ _ e=>.inl e)).setCell (p:=⟨g,258,none⟩) (by
     rcases hst.2 g hgF with e3|e3
     ·exact .inr (.inl e3)
     ·exact .inl e3) _
    exact (c1.trans ((Ch.of _ hbe).mono (by have:=hst.1.size;omega) (fun _ _ e=>e))).setCell (p:=⟨rb,0,none⟩) (.inr (.inr rfl)) _
   ·rw [hbyt];have:=yS (ho.kept (w':=w3.setCell ⟨rb,0,none⟩ (.slice (some ⟨gg,0,none⟩) 256 c)) (Below.heap_setCell w3 ⟨rb,0,none⟩ _ gg (fun e2=>by have e3:gg=rb:=e2;omega))) (base':=w.heap.size) (fun k hk=>by simp [Value.ownBlock] at hk;have:=hst.1.size;omega);exact this
  have HE:Hid _:=hend;obtain ⟨zs,hzs⟩:∃zs,(fr1 g).b=zs:=⟨_,rfl⟩;obtain ⟨n,hnn⟩:∃n,(fr1 g).pins=n:=⟨_,rfl⟩;rw [hzs] at HE hcl;rw [hnn] at HE hcl x2 hn;rw [show ((n+1:Nat):Int)=(n:Int)+1 by omega] at HE hcl;clear hend hzs hnn hlast hbyt hrow h2 hok h1 hL hst hE xz hgm hgm' hb1 HPN;go_wp2_with fail
  refine hcl.mono ?_;clear hcl;rintro x w3 ⟨gg,c,rfl,ho,hbe⟩;obtain ⟨⟨y1,y2⟩,hR⟩:=HE.out w3 gg c ho hbe;have HR:Hid (Pin1N p d N F D (bs.map fr) pg rb w 0 (w3.setCell ⟨rb,0,none⟩ (.slice (some ⟨gg,0,none⟩) 256 c))):=hR;clear HE ho hbe hR;go_wp2;go_end0
  exact ⟨0,.inl ⟨rfl,rfl⟩,HR.out⟩
 ·obtain ⟨E,hEE⟩:∃E,usE D N (bs.map fr) pg true=E:=⟨_,rfl⟩;have hR:Pin1N p d N F D (bs.map fr) pg rb w E w1:=⟨hEE.symm,⟨F1,⟨Fd1,m1,e1,bs1,fr1,ol1,nw1,h1,by unfold pnL;rw [if_neg hE,hL]⟩,hst.2,fun g c hg=>by rw [hb1.at.1] at hg;cases hg⟩,hst.1.mono (jB _) (fun _ _ e=>.inl e),.inr ⟨by rw [<-hEE];exact hE,hb1⟩⟩;rw [hEE] at hE ⊢;have HR:Hid (Pin1N p d N F D (bs.map fr) pg rb w E w1):=hR;have HE:Hid (¬E=0):=hE;clear h1 hL hst hb1 hR hE hEE HPN;unfold thrown;go_wp2;exact ⟨rfl,E,.inr ⟨HE.out,rfl⟩,HR.out⟩
end
section
variable {w:World} {p d N:Nat} {F:Nat->Prop} {D:Dv} {L:List Fr}
theorem Pin_new (h:Pool w p d F D N L) (hops:D.ops<=1000000000) (hs:D.since.length<=1000000) (hpn:∀f∈L,f.pins<=1000000) (pg:Nat) (hpg:pg<D.n):
  Calls prog 116 #[.pointer (some ⟨p,0,none⟩),.int .i64 pg] w fun x w'=>PinR D N L pg w x w'/\∃F',Pool w' p d F' (usD D N L pg true) N (pnL D N L pg)/\Step F F' w w'/\∀g c k,x=.returned (.tuple #[.slice (some ⟨g,0,none⟩) 256 c,k])->¬F' g:=by
 obtain ⟨Fd,m,e,bs,fr,ol,nw,h,rfl⟩:=h;have hmf:∀(fn:Fn) (first cap:Array Value) (w:World),(Instr.makeFunc fn first cap).run prog w=.ok (.func fn first cap) w:=fun _ _ _ _=>rfl
 have hF:=h.flt;have hb0:Below w.heap.size w (((w.alloc (.cells #[.pointer (some ⟨p,0,none⟩)] 83)).alloc (.cells #[.int .i64 pg] 3)).alloc (.cells #[.slice none 0 0] 22)):=(((Below.refl _ w).alloc (jB _) _).alloc (by simp) _).alloc (by simp;omega) _;have h0:=h.below hb0;have k1:CellAt (((w.alloc (.cells #[.pointer (some ⟨p,0,none⟩)] 83)).alloc (.cells #[.int .i64 pg] 3)).alloc (.cells #[.slice none 0 0] 22)) w.heap.size (.pointer (some ⟨p,0,none⟩)) 83:=((QF _ _ _).alloc _).alloc _
 have k2:CellAt (((w.alloc (.cells #[.pointer (some ⟨p,0,none⟩)] 83)).alloc (.cells #[.int .i64 pg] 3)).alloc (.cells #[.slice none 0 0] 22)) (w.heap.size+1) (.int .i64 pg) 3:=by
  have:=(QF (w.alloc (.cells #[.pointer (some ⟨p,0,none⟩)] 83)) (.int .i64 pg) 3).alloc (.cells #[.slice none 0 0] 22)
  simpa using this
 have k3:CellAt (((w.alloc (.cells #[.pointer (some ⟨p,0,none⟩)] 83)).alloc (.cells #[.int .i64 pg] 3)).alloc (.cells #[.slice none 0 0] 22)) (w.heap.size+2) (.slice none 0 0) 22:=by
  have:=QF ((w.alloc (.cells #[.pointer (some ⟨p,0,none⟩)] 83)).alloc (.cells #[.int .i64 pg] 3)) (.slice none 0 0) 22
  simpa using this
 have hm:=zV h0;have hh:=uY h0 pg;rw [show hasB D pg=true by simp [hasB];omega] at hh;have hsz:(((w.alloc (.cells #[.pointer (some ⟨p,0,none⟩)] 83)).alloc (.cells #[.int .i64 pg] 3)).alloc (.cells #[.slice none 0 0] 22)).heap.size=w.heap.size+3:=by simp
 obtain ⟨W,hW⟩:∃W,((w.alloc (.cells #[.pointer (some ⟨p,0,none⟩)] 83)).alloc (.cells #[.int .i64 pg] 3)).alloc (.cells #[.slice none 0 0] 22)=W:=⟨_,rfl⟩;rw [hW] at hb0 h0 k1 k2 k3 hm hh hsz;have hbe:Below W.heap.size W (W.alloc (.cells #[.int .i64 0] 31)):=(Below.refl _ W).alloc (jB _) _;have hpin:=pin1_new (h0.below hbe) hops hs hpn pg hpg w.heap.size (w.heap.size+1) (w.heap.size+2) (k1.alloc _) (k2.alloc _) (k3.alloc _) (fun e1=>by have:=hF _ e1;omega)
 have hca:=caught_Pin W #[.pointer (some ⟨w.heap.size,0,none⟩),.pointer (some ⟨w.heap.size+1,0,none⟩),.pointer (some ⟨w.heap.size+2,0,none⟩)] (Pin1N p d N F D (bs.map fr) pg (w.heap.size+2) (W.alloc (.cells #[.int .i64 0] 31))) (hpin.mono (by
  rintro x w1 ⟨k,hx,hr⟩;refine ⟨k,hx,hr,(hr.2.2.1.block W.heap.size (by simp) (fun e1=>?_)).trans (FG W)⟩;rcases e1 with e1|e1
  ·have:=hF _ e1;omega
  ·omega))
 have hfin:Calls prog 133 #[.func (.func 157) #[] #[.pointer (some ⟨w.heap.size,0,none⟩),.pointer (some ⟨w.heap.size+1,0,none⟩),.pointer (some ⟨w.heap.size+2,0,none⟩)]] W fun x w'=>∃k a n c,x=.returned (.int .i64 k)/\CellAt w' (w.heap.size+2) (.slice a n c) 22/\
   PinR D N (bs.map fr) pg w (.returned (.tuple #[.slice a n c,.int .i64 k])) (w'.setCell ⟨w.heap.size+2,0,none⟩ (.slice a n c))/\∃F',Pool (w'.setCell ⟨w.heap.size+2,0,none⟩ (.slice a n c)) p d F' (usD D N (bs.map fr) pg true) N (pnL D N (bs.map fr) pg)/\Step F F' w (w'.setCell ⟨w.heap.size+2,0,none⟩ (.slice a n c))/\(∀g c2,(.slice a n c:Value)=.slice (some ⟨g,0,none⟩) 256 c2->¬F' g):=hca.mono (by
  rintro x w' ⟨k,w1,rfl,hr,he,rfl⟩;obtain ⟨r1,⟨F',r2,r3,r6⟩,r4,r5⟩:=hr;have hs1:W.heap.size+1<=w1.heap.size:=by have:=r4.size;simpa using this
  have hother:∀j,j≠W.heap.size->(w1.setCell ⟨W.heap.size,0,none⟩ (.int .i64 k)).heap[j]?=w1.heap[j]?:=fun j hj=>Below.heap_setCell w1 ⟨W.heap.size,0,none⟩ _ j hj
  have hother2:∀v j,j≠W.heap.size->j≠w.heap.size+2->((w1.setCell ⟨W.heap.size,0,none⟩ (.int .i64 k)).setCell ⟨w.heap.size+2,0,none⟩ v).heap[j]?=w1.heap[j]?:=fun v j hj hj2=>(Below.heap_setCell _ ⟨w.heap.size+2,0,none⟩ v j hj2).trans (hother j hj)
  have hF':∀j,F' j->j≠W.heap.size/\j≠w.heap.size+2:=fun j hj=>by
   rcases r3 j hj with e2|e2
   ·have:=hF _ e2;omega
   ·simp at e2;omega
  have hfin:∀v,(∀g c2,v=.slice (some ⟨g,0,none⟩) 256 c2->¬F' g)->∃F',Pool ((w1.setCell ⟨W.heap.size,0,none⟩ (.int .i64 k)).setCell ⟨w.heap.size+2,0,none⟩ v) p d F' (usD D N (bs.map fr) pg true) N (pnL D N (bs.map fr) pg)/\Step F F' w ((w1.setCell ⟨W.heap.size,0,none⟩ (.int .i64 k)).setCell ⟨w.heap.size+2,0,none⟩ v)/\(∀g c2,v=.slice (some ⟨g,0,none⟩) 256 c2->¬F' g):=fun v hv=>by
   refine ⟨F',r2.keep (by rw [yL,yL];exact jB _) (fun j hj=>hother2 v j (hF' j hj).1 (hF' j hj).2),⟨?_,fun j hj=>?_⟩,hv⟩
   ·have c1:Ch w.heap.size F w w1:=(Ch.of F hb0).trans (((Ch.of F hbe).mono (by omega) (fun _ _ e=>e)).trans (r4.mono (by simp;omega) (fun j hj e1=>by
     rcases e1 with e1|e1
     ·exact e1
     ·omega)))
    exact (c1.setCell (p:=⟨W.heap.size,0,none⟩) (.inl (by show w.heap.size<=W.heap.size;omega)) _).setCell (p:=⟨w.heap.size+2,0,none⟩) (.inl (by show w.heap.size<=w.heap.size+2;omega)) _
   ·rcases r3 j hj with e3|e3
    ·exact .inl e3
    ·exact .inr (by simp at e3;omega)
  rcases r5 with ⟨rfl,g,c,q1,q2⟩|⟨rk,q1⟩
  ·have q3:=q1.keep (hother (w.heap.size+2) (by omega));refine ⟨0,_,_,_,rfl,q3,.inl ⟨r1.symm,g,c,rfl,?_⟩,hfin _ (fun g2 c2 e2=>by cases e2;exact r6 _ _ q1.at.1)⟩;have lg:=q2.lt2;simp at lg;exact yS (q2.kept (hother2 _ g (by omega) (by omega))) (fun j hj=>by simp [Value.ownBlock] at hj;omega)
  ·have q3:=q1.keep (hother (w.heap.size+2) (by omega));exact ⟨k,_,_,_,rfl,q3,.inr ⟨by rw [<-r1];exact rk,by rw [r1]⟩,hfin _ (fun g2 c2 e2=>by cases e2)⟩)
 clear hca hpin h0 h k1 k2 k3 hF hbe hb0 hpn hsz;rw [<-hW] at hm hh hfin;clear hW;go_enter func116,ntmps116
 go_wp2_with (first|(go_at_call 132;refine hm.mono ?_;rintro x w' ⟨rfl,rfl⟩)|(go_at_call 156;refine hh.mono ?_;rintro x w' ⟨rfl,rfl⟩))
 refine hfin.mono ?_;clear hfin hm hh;rintro x w2 ⟨k,a,n,c,rfl,hcell,hres⟩;obtain ⟨q1,q2⟩:=hcell.at;have q3:=(hcell.set (.slice a n c)).at.1;have HR:Hid (PinR D N (bs.map fr) pg w (.returned (.tuple #[.slice a n c,.int .i64 k])) (w2.setCell ⟨w.heap.size+2,0,none⟩ (.slice a n c))/\∃F',Pool (w2.setCell ⟨w.heap.size+2,0,none⟩ (.slice a n c)) p d F' (usD D N (bs.map fr) pg true) N (pnL D N (bs.map fr) pg)/\Step F F' w (w2.setCell ⟨w.heap.size+2,0,none⟩ (.slice a n c))/\(∀g c2,(.slice a n c:Value)=.slice (some ⟨g,0,none⟩) 256 c2->¬F' g)):=hres;clear hres hcell;go_wp2;refine bodyPost_ret (v:=.tuple #[.slice a n c,.int .i64 k]) (by simp [results,Tryz.results116,go_sem,q3]) rfl ?_;obtain ⟨r1,F',r2,r3,r4⟩:=HR.out;refine ⟨r1,F',r2,r3,fun g2 c2 k2 e2=>r4 g2 c2 ?_⟩;simp only [Ending.returned.injEq,Value.tuple.injEq,Array.mk.injEq,List.cons.injEq,and_true] at e2;exact e2.1
end
end Go.Proofs.YtaijfhadecennabGreat.Oct
