/- Part of a proof. -/
import Derived.Test.YtaijfhadecennaaGreatEmx
import Derived.Test.YtaijfhadecennaaGreatSi
import Derived.Test.YtaijfhadecennaaGreatEab
open Go.Proofs.Tryz
set_option maxHeartbeats 1000000
namespace Go.Proofs.YtaijfhadecennaaGreat.Oct.Sx
open Go.RowKit
section
variable {w0 w w':World} {F0:Nat->Prop} {s d p sp c cC cS:Nat} {aC aS:Option Addr} {X:St} {zs:List Int} {lab lab':Nat->Nat} {S:Sp}
set_option maxRecDepth 20000 in
theorem fail_nil (h:CmC w0 w F0 s d p sp c aC cC lab X aS cS zs S (.slice none 0 0) (.pointer none) (.pointer none) false):
  Calls prog 83 #[.pointer (some ⟨c,0,none⟩)] w fun e w'=>e=.returned (.tuple #[])/\w=w':=by
 obtain ⟨c0,_,c10,_,_,c13⟩:=h.at;clear h;go_enter func83,ntmps83
 go_wp2_with fail
 refine wp_loop_rounds 1 ?_;rw [rounds_succ];go_wp2_with fail
 refine bodyPost_ret (results_none rfl _ _ _) rfl ?_;exact ⟨rfl,rfl⟩
end
end Go.Proofs.YtaijfhadecennaaGreat.Oct.Sx
namespace Go.Proofs.YtaijfhadecennaaGreat.Oct.Sx
open Go.RowKit
theorem FM (v0 v1:Value) (w:World):
  CallsD prog 88 #[v0,v1] .returning w fun e u' w'=>e=.returned (.tuple #[])/\u'=.returning/\w'=w:=by
 refine callsD_of_wpS func88 rfl fun c₀ cs hu=>?_
 apply wpS_seq;apply wpS_region;simp [wpOpsS,go_sem,recoverD,hu,ntmps88,Exit.thenS];apply wpS_seq;apply wpS_region;simp [wpOpsS,go_sem,Exit.thenS];refine wpS_cond (t:=false) (by simp [Act.eval,Array.replicate]) ?_;simp only [yC,if_false];refine wpS_of_wp (wp_skip ?_);cases c₀
 simp_all [bodyPostS,results,Tryz.results88]
theorem catchS_pan (q b:Addr) (x k:Int) (c:Nat) (older:List PanicEntry) (w:World) (hq:w.cell? q=some (.int .i64 x)) (hqz:w.frozen? q=false)
  (hb:(w.setCell q (.int .i64 k)).cell? b=some (.func (.func 83) #[.pointer (some ⟨c,0,none⟩)] #[])) (R:World->Prop)
  (hf:Calls prog 83 #[.pointer (some ⟨c,0,none⟩)] (w.setCell q (.int .i64 k)) fun e w'=>e=.returned (.tuple #[])/\R w'):
  CallsD prog 88 #[.pointer (some q),.pointer (some b)] (.panicking ({v:=.iface 25 (.int .i64 k),recovered:=false}::older)) w fun e u' w'=>
   e=.returned (.tuple #[])/\u'=.panicking ({v:=.iface 25 (.int .i64 k),recovered:=true}::older)/\R w':=by
 refine callsD_of_wpS func88 rfl fun c₀ cs hu=>?_
 apply wpS_seq;apply wpS_region;simp [wpOpsS,go_sem,recoverD,hu,ntmps88,Exit.thenS];apply wpS_seq;apply wpS_region;simp [wpOpsS,go_sem,Exit.thenS];refine wpS_cond (t:=true) (by simp [Act.eval,Array.replicate]) ?_;simp only [if_true];apply wpS_seq;apply wpS_region;simp [wpOpsS,go_sem,hq,hqz,as_err,Exit.thenS];refine wpS_of_wp ?_;go_wp2_with (go_at_call 83;refine hf.mono ?_;rintro e w' ⟨rfl,hr⟩)
 simp [bodyPostS,results,Tryz.results88];exact hr
def bxF (w:World) (c:Nat):World:=(w.alloc (.cells #[.func (.func 83) #[.pointer (some ⟨c,0,none⟩)] #[]] 1)).alloc (.cells #[.int .i64 0] 25)
def BxAt (w w1:World) (c:Nat):Prop:=w1.heap[w.heap.size]?=some (.cells #[.func (.func 83) #[.pointer (some ⟨c,0,none⟩)] #[]] 1 (0,0))/\w1.heap[w.heap.size+1]?=some (.cells #[.int .i64 0] 25 (0,0))
theorem BxAt.at {w w1:World} {c:Nat} (h:BxAt w w1 c):w1.cell? ⟨w.heap.size+1,0,none⟩=some (.int .i64 0)/\w1.frozen? ⟨w.heap.size+1,0,none⟩=false/\∀v,(w1.setCell ⟨w.heap.size+1,0,none⟩ v).cell? ⟨w.heap.size,0,none⟩=some (.func (.func 83) #[.pointer (some ⟨c,0,none⟩)] #[]):=by
 obtain ⟨h1,h2⟩:=h;refine ⟨by rw [cell_of_row w1 _ _ _ _ (0,0) h2];rfl,by unfold World.frozen?;rw [h2];simp,fun v=>?_⟩;have h3:(w1.setCell ⟨w.heap.size+1,0,none⟩ v).heap[w.heap.size]?=w1.heap[w.heap.size]?:=Below.heap_setCell _ _ _ _ (by simp);rw [cell_of_row _ _ _ _ _ (0,0) (h3.trans h1)];rfl
theorem KU (w:World) (c:Nat) (R0:World->Prop) (F R:Int->World->Prop)
  (hrun:Calls prog 82 #[.pointer (some ⟨c,0,none⟩)] (bxF w c) fun e w1=>BxAt w w1 c/\((e=.returned (.tuple #[])/\R0 w1)\/∃k,e=thrown k/\F k w1))
  (hfail:∀k w1,BxAt w w1 c->F k w1->Calls prog 83 #[.pointer (some ⟨c,0,none⟩)] (w1.setCell ⟨w.heap.size+1,0,none⟩ (.int .i64 k)) fun e w'=>e=.returned (.tuple #[])/\w'.cell? ⟨w.heap.size+1,0,none⟩=some (.int .i64 k)/\R k w'):
  Calls prog 49 #[.func (.func 82) #[.pointer (some ⟨c,0,none⟩)] #[],.func (.func 83) #[.pointer (some ⟨c,0,none⟩)] #[]] w fun e w'=>(∃w1,e=.returned (.int .i64 0)/\R0 w1/\BxAt w w1 c/\w'=w1.setCell ⟨w.heap.size+1,0,none⟩ (.int .i64 0))\/∃k,e=.returned (.int .i64 k)/\R k w':=by
 have hmf:∀(fn:Fn) (first cap:Array Value) (w:World),(Instr.makeFunc fn first cap).run prog w=.ok (.func fn first cap) w:=fun _ _ _ _=>rfl
 go_enter_defers func49,ntmps49
 go_wp2_with fail
 refine hrun.mono ?_;clear hrun;rintro e w1 ⟨hbx,hend⟩;obtain ⟨c0,z0,b0⟩:=hbx.at;have q0:∀x:Value,(w1.setCell ⟨w.heap.size+1,0,none⟩ x).cell? ⟨w.heap.size+1,0,none⟩=some x:=fun x=>World.cell?_setCell_same _ _ _ c0
 have HBX:Hid (BxAt w w1 c):=hbx;clear hbx;rcases hend with ⟨rfl,hr⟩|⟨k,rfl,hF⟩
 ·have HR:Hid (R0 w1):=hr;clear hr;go_wp2;refine leaves_cons (f:=88) (args:= #[.pointer (some ⟨w.heap.size+1,0,none⟩),.pointer (some ⟨w.heap.size,0,none⟩)]) (by simp) (by simp [go_sem]) ?_;refine (FM _ _ _).mono ?_;rintro e u' w'' ⟨rfl,rfl,rfl⟩;simp [Leaves,settle,results,Tryz.results49,go_sem,q0];exact .inl ⟨w1,HR.out,HBX.out,rfl⟩
 ·have hfl:=hfail k w1 HBX.out hF;have hcp:=catchS_pan ⟨w.heap.size+1,0,none⟩ ⟨w.heap.size,0,none⟩ 0 k c [] w1 c0 z0 (b0 _) (fun w'=>w'.cell? ⟨w.heap.size+1,0,none⟩=some (.int .i64 k)/\R k w') hfl;clear hfail hfl hF;unfold thrown;go_wp2;refine leaves_cons (f:=88) (args:= #[.pointer (some ⟨w.heap.size+1,0,none⟩),.pointer (some ⟨w.heap.size,0,none⟩)]) (by simp) (by simp [go_sem]) ?_;refine hcp.mono ?_;rintro e u' w'' ⟨rfl,rfl,hc2,hR⟩;simp [Leaves,settle,results,Tryz.results49,go_sem,hc2];exact .inr hR
end Go.Proofs.YtaijfhadecennaaGreat.Oct.Sx
namespace Go.Proofs.YtaijfhadecennaaGreat.Oct.Sx
open Go.RowKit
theorem YK (s d:Nat) (w:World) (h:w.cell? ⟨s,0,none⟩=some (.pointer (some ⟨d,0,none⟩))):
  Calls prog 55 #[.pointer (some ⟨s,0,none⟩)] w fun e w'=>e=.returned (.bool true)/\w=w':=by
 go_enter func55,ntmps55
 go_wp2;go_ret
 exact ⟨rfl,rfl⟩
end Go.Proofs.YtaijfhadecennaaGreat.Oct.Sx
namespace Go.Proofs.YtaijfhadecennaaGreat.Oct
open Go.RowKit
theorem ct_of {C:List Int} (h:∀z∈C,2<=z/\z<4096) (hn:C.Nodup):CtOk C:=by
 intro i hi
 have hm:C.getD i 0∈C:=by
  rw [jA,jC hi];exact qB hi
 refine ⟨h _ hm,fun k hk e=>?_⟩;rw [jA,jA,jC hi,jC (by omega)] at e;exact List.pairwise_iff_getElem.1 hn k i (by omega) hi hk (by simpa using e)
theorem GO {L:List Int} (hL:Bys L):∀(f:Nat) (n:Int) (R:List Bool) (out:List Int) (x:List Bool × List Int),(n=0\/2<=n)->chB L f n R out=some x->
  x.1=mkR R (natL (chQ L f n))/\(∀z∈chQ L f n,2<=z/\z<(R.length:Int)/\R.getD z.toNat false=false)/\(chQ L f n).Nodup
 |0,_,_,_,_,_,h=>by cases h
 |f+1,n,R,out,x,hn,h=>by
  by_cases h0:n=0
  ·subst h0;rw [KK] at h;cases h;unfold chQ;rw [if_pos rfl];exact ⟨(gY R).symm,fun _ hz=>by simp at hz,List.nodup_nil⟩
  ·obtain ⟨h1,h2,h3⟩:=KI h0 h;obtain ⟨a1,a2,a3⟩:=QZ h1;obtain ⟨b1,b2,b3⟩:=GO hL f _ _ _ x (ptN_in (JI hL _)) h3;have hk:(n.toNat:Int)=n:=qF a1
   have e:chQ L (f+1) n=n::chQ L f (ptN (pageOf L n.toNat)):=by
    show (if n=0 then _ else _)=_;rw [if_neg h0]
   rw [e];refine ⟨?_,?_,?_⟩
   ·rw [b1,mkR_set];rfl
   ·intro z hz;rcases List.mem_cons.1 hz with rfl|hz
    ·exact ⟨by omega,a2,a3⟩
    ·obtain ⟨c1,c2,c3⟩:=b2 z hz;rw [jY] at c2;refine ⟨c1,c2,?_⟩;rw [YS (by omega)] at c3;split at c3
     ·cases c3
     ·exact c3
   ·refine List.nodup_cons.2 ⟨fun hm=>?_,b3⟩;obtain ⟨c1,c2,c3⟩:=b2 n hm;rw [jY] at c2;rw [YS (by omega),if_pos rfl] at c3;cases c3
theorem VR {R:List Bool} {z:Int}:∀k,z∈rsB R k↔∃i:Nat,z=(i:Int)/\i<k/\R.getD i false=true
 |0=>by
  unfold rsB;simp
 |k+1=>by
  rw [rsB];split
  ·next h=>
   rw [qV,VR k];constructor
   ·rintro (⟨i,a,b,c⟩|hz)
    ·exact ⟨i,a,by omega,c⟩
    ·exact ⟨k,List.mem_singleton.1 hz,by omega,h⟩
   ·rintro ⟨i,a,b,c⟩;by_cases hik:i=k
    ·subst hik;exact .inr (by rw [a];exact List.mem_singleton.2 rfl)
    ·exact .inl ⟨i,a,by omega,c⟩
  ·next h=>
   rw [VR k];constructor
   ·rintro ⟨i,a,b,c⟩;exact ⟨i,a,by omega,c⟩
   ·rintro ⟨i,a,b,c⟩;refine ⟨i,a,?_,c⟩;by_cases hik:i=k
    ·subst hik;exact absurd c h
    ·omega
structure Ld2 (N:Nat) (C:List Int) (R3:List Bool):Prop where
 len:R3.length=N
 c:CtOk C
 cn:∀z∈C,z<(N:Int)
 at_:∀i,i<N->R3.getD i false=decide ((i:Int)∈C)
theorem ld_two {L:List Int} (hL:Bys L) {N:Nat} (hN:pgN L=N) (h4:N<=4096) {s f:Int} (hs:s=0\/2<=s) (hf:f=0\/2<=f) {R2 R3:List Bool} {st fr:List Int}
  (hc1:chB L (N+1) s (rN L) []=some (R2,st)) (hc2:chB L (N+1) f R2 []=some (R3,fr)):Ld2 N (chQ L (N+1) s++chQ L (N+1) f) R3:=by
 obtain ⟨a1,a2,a3⟩:=GO hL _ _ _ _ _ hs hc1;obtain ⟨b1,b2,b3⟩:=GO hL _ _ _ _ _ hf hc2;have hl1:(rN L).length=N:=by unfold rN;rw [jK,hN]
 have hl2:R2.length=N:=by
  have:R2=mkR (rN L) _:=a1;rw [this,JB,hl1]
 have e3:R3=mkR R2 _:=b1;have e2:R2=mkR (rN L) _:=a1
 have hr0:∀i,(rN L).getD i false=false:=fun i=>by
  unfold rN;rw [jA,xA];split<;>rfl
 have m2:∀i,i<N->R2.getD i false=decide ((i:Int)∈chQ L (N+1) s):=fun i hi=>by
  rw [e2,QA (by omega),hr0,Bool.false_or];apply Bool.eq_iff_iff.2;rw [xO,xO];unfold natL;rw [List.mem_map];constructor
  ·rintro ⟨z,hz,rfl⟩;have:=(a2 z hz).1;rw [qF (by omega)];exact hz
  ·intro hz;exact ⟨_,hz,rfl⟩
 refine ⟨by rw [e3,JB,hl2],?_,?_,?_⟩
 ·refine ct_of (fun z hz=>?_) (List.nodup_append.2 ⟨a3,b3,?_⟩)
  ·rcases List.mem_append.1 hz with hz|hz
   ·obtain ⟨x,y,_⟩:=a2 z hz;omega
   ·obtain ⟨x,y,_⟩:=b2 z hz;omega
  ·rintro x hx y hy rfl;obtain ⟨u1,u2,u3⟩:=b2 x hy;rw [m2 _ (by omega),decide_eq_false_iff_not,qF (by omega)] at u3;exact u3 hx
 ·intro z hz;rcases List.mem_append.1 hz with hz|hz
  ·obtain ⟨x,y,_⟩:=a2 z hz;omega
  ·obtain ⟨x,y,_⟩:=b2 z hz;omega
 ·intro i hi;rw [e3,QA (by omega),m2 i hi];apply Bool.eq_iff_iff.2;rw [Bool.or_eq_true,xO,xO,xO,qV];unfold natL;rw [List.mem_map];constructor
  ·rintro (h|⟨z,hz,rfl⟩)
   ·exact .inl h
   ·have:=(b2 z hz).1;rw [qF (by omega)];exact .inr hz
  ·rintro (h|h)
   ·exact .inl h
   ·exact .inr ⟨_,h,rfl⟩
theorem used_bit {R:List Bool} {i:Nat} (hi:i<(R.length+7)/8*8):bitR (usedL R) i=(decide (i<2)||R.getD i false):=YA hi
theorem Ld2.ok {N:Nat} {C:List Int} {R3:List Bool} (h:Ld2 N C R3) (h8:8<=N):ldOk (usedL R3) N=true:=by
 unfold ldOk;rw [jO,xO,vA,h.len,List.all_eq_true];refine ⟨rfl,fun i hi=>?_⟩;rw [List.mem_range] at hi;unfold ldF;rw [used_bit (by rw [h.len];omega)];by_cases h2:i<2
 ·have e1:decide (i<2)=true:=jE h2;by_cases hN:N<=i
  ·omega
  ·have e2:decide (N<=i)=false:=jH hN;rw [e1,e2];rfl
 ·have e1:decide (i<2)=false:=jH h2;rw [e1];by_cases hN:N<=i
  ·have e3:R3.getD i false=false:=by
    rw [jA,qD (by rw [h.len];exact hN)];rfl
   rw [e3];simp
  ·have e2:decide (N<=i)=false:=jH hN;rw [e2];simp
theorem Ld2.at' {N:Nat} {C:List Int} {R3:List Bool} (h:Ld2 N C R3) {k:Nat} (hk:k<N):(ldS (usedL R3) N).getD k 0=if k<2\/(k:Int)∈C then 1 else 0:=by
 rw [ldS_at hk,used_bit (by rw [h.len];omega),h.at_ k hk];by_cases h2:k<2
 ·rw [jE h2,Bool.true_or,if_pos rfl,if_pos (.inl h2)]
 ·rw [jH h2,Bool.false_or];by_cases hC:(k:Int)∈C
  ·rw [jE hC,if_pos rfl,if_pos (.inr hC)]
  ·rw [jH hC,if_neg (by simp),if_neg (by rintro (h|h);exact h2 h;exact hC h)]
theorem Ld2.inv {N:Nat} {C:List Int} {R3:List Bool} (h:Ld2 N C R3) (h8:8<=N) (h4:N<=4096):PInv N (ldS (usedL R3) N) C where
 len:=XV _ _
 ok:=ldS_ok _ h8 h4
 one:=fun k hk=>by
  rw [h.at' hk];split
  ·next a=>exact ⟨fun _=>a,fun _=>rfl⟩
  ·next a=>exact ⟨fun e=>(by cases e),fun b=>absurd b a⟩
 two:=fun k hk=>by
  rw [h.at' hk];split<;>simp
 c:=h.c
 cn:=h.cn
theorem Ld2.zo {N:Nat} {C:List Int} {R3:List Bool} (h:Ld2 N C R3):∀k,k<N->(ldS (usedL R3) N).getD k 0=0\/(ldS (usedL R3) N).getD k 0=1:=fun k hk=>by
 rw [h.at' hk];split
 ·exact .inr rfl
 ·exact .inl rfl
theorem Ld2.rs {N:Nat} {C:List Int} {R3:List Bool} (h:Ld2 N C R3):∀z,z∈rsB R3 N↔z∈C:=fun z=>by
 rw [VR];constructor
 ·rintro ⟨i,rfl,hi,e⟩;rw [h.at_ i hi] at e;exact jZ e
 ·intro hz;have h2:=(yW h.c z hz).1;have h3:=h.cn z hz;refine ⟨z.toNat,by omega,by omega,?_⟩;rw [h.at_ _ (by omega),qF (by omega)];exact jE hz
theorem Jv.crashed {D:Dv} {S:Sp} {pl:Nat} {r:Rp} (h:Jv D S pl r []) (ch:List Int):Jv (crashD D ch) S pl r []:=by
 obtain ⟨pa,po⟩:=h.pages ch;exact
 {ok:=FH h.ok ch
  now:=rfl
  p2:=h.p2
  sp:=h.sp
  su:=ZS h.ok h.su h.nor ch
  at_:=pa
  nop:=fun x hx=>by cases hx
  nor:=fun x hx=>by cases hx
  oth:=po
  ots:=fun x hx=>by cases hx
  trd:=fun y hy=>by cases hy}
theorem rdK_jv {D:Dv} {S:Sp} {pl:Nat} {r:Rp} {T:List (Sp × Rp)} (h:Jv D S pl r T):∀k,Jv (rdK D k) S pl r T
 |0=>h
 |k+1=>(rdK_jv h k).readD
theorem UJ (D:Dv):∀k,(rdK D k).n=D.n
 |0=>rfl
 |k+1=>by
  show (readD (rdK D k)).n=D.n;rw [show (readD (rdK D k)).n=(rdK D k).n from (Acts.read (Q:=fun _=>True) (rdK D k)).n,UJ D k]
theorem gJ (D:Dv):∀k,Mo D (rdK D k)
 |0=>Mo.refl D
 |k+1=>(gJ D k).trans (mo_read _)
theorem uD (D:Dv):∀k,(rdK D k).ops<=D.ops+k/\(rdK D k).since.length<=D.since.length
 |0=>⟨jB _,jB _⟩
 |k+1=>by
  have a:=(Acts.read (Q:=fun _=>True) (rdK D k)).ops;have b:=uD D k
  have c:(readD (rdK D k)).since.length<=(rdK D k).since.length:=by
   unfold readD;split<;>(try split)<;>exact jB _
  exact ⟨jP a.1 (by omega),jP c b.2⟩
theorem In.load {D:Dv} {S:Sp} {pl:Nat} {r:Rp} (h:Jv D S pl r []) (N k:Nat) {P C:List Int} (hp:PInv D.n P C) (hr:∀z∈r.pg,z∈C) (hs:S.p=D.n):In (rdK D k) N [] P S pl C S.g r [] where
 jv:=rdK_jv h k
 fi:=FI.nil (rdK_jv h k).ok N
 nd:=by rintro _ ⟨f,hf,_⟩;cases hf
 pi:=by rw [UJ];exact hp
 rc:=hr
 tc:=fun y hy=>by cases hy
 gs:=Int.le_refl _
 gt:=fun y hy=>by cases hy
 sp:=by rw [UJ];exact hs
end Go.Proofs.YtaijfhadecennaaGreat.Oct
