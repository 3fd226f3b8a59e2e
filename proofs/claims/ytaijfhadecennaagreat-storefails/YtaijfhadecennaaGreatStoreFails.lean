/- Calls of the device that fail, done or not: behind any row of commits, and a crash at any time, the state is that of the last commit that was done, or of one that failed since; and a store that goes on commits again. -/
import Derived.Test.YtaijfhadecennaaGreatRows
import Derived.Test.YtaijfhadecennaaGreatStoreFailsW
import Derived.WalkKit
import Derived.ProofKit
import Derived.OpenShut
import Derived.ShutString
import Derived.ChangeOld
import Derived.Below
open Go.Proofs.Tryz
namespace Go.Proofs.YtaijfhadecennaaGreat.storeFails
open Go.ChangeShapes Go.WideShapes Go.ChangeAt Go.RowKit
open Go.Proofs.YtaijfhadecennaaGreat.Oct Go.Proofs.YtaijfhadecennaaGreat.Oct.Sx
set_option linter.unusedVariables false
theorem own:ownKnob prog.godebug=none:=by kernel_rfl
theorem laidOut:laidOutB prog=true:=by kernel_rfl
set_option maxRecDepth 100000 in
theorem lifted (os:Os) (started:os.Started) (H:Type) (enc:TypeId × Value->H):
  ReturnsInHanded {} Tryz.checked os 8 .any (Rows.storeFailsSpec.pre6 enc prog Tryz.f8 Rows.storeFailsRow.domain false) (Rows.storeFailsSpec.post enc prog Tryz.f8 false true false false):=by
 refine returnsInHanded_of_change (C:=Tryz.checked) own started (by kernel_rfl) func8
  (ChangeSpec.witness6 (enc:=enc) (C:=Tryz.checked) false ⟨#[],#[.slice none 0 0,.slice none 0 0,.slice none 0 0],[]⟩ 8 (by kernel_rfl) (by kernel_rfl) (by kernel_rfl) (by kernel_rfl)) ?_
 intro W base args ds gs before hval0 hW hcnd _;have hval:∀(j:Nat) t v,Tryz.f8.params[j]?=some t->args[j]?=some v->Value.okWide prog W .any base t v:=hval0;have hW':=hW;obtain ⟨p,q,hA0,hV,rfl,hfz,hnd⟩:=hW;have hA:DataW.TrodAll enc prog W 0 (fun _=>true) true Tryz.f8.params.toList args.toList ds p:=hA0;rw [Tryz.params8] at hA hval;obtain ⟨v0,vs0,d0,ds0,q0,s0,hargs,rfl,rfl,h0,r0⟩:=trodAll_cons hA;obtain ⟨v1,vs1,d1,ds1,q1,s1,rfl,rfl,rfl,h1,r1⟩:=trodAll_cons r0;obtain ⟨v2,vs2,d2,ds2,q2,s2,rfl,rfl,rfl,h2,r2⟩:=trodAll_cons r1;obtain ⟨rfl,rfl,rfl⟩:=trodAll_nil r2;obtain rfl:args= #[v0,v1,v2]:=by cases args;simp_all
 obtain ⟨rfl,rfl⟩:=trodVars_none hV;obtain ⟨a0,len0,cap0,rfl⟩:=okWide_slice underlying51 (hval 0 51 v0 rfl rfl);have k0:=h0;have lt0:∀x∈q0,x.block<W.heap.size:=by obtain ⟨m,hm⟩:=k0;exact DataW.trod_lt m _ _ _ hm
 obtain ⟨l0,e0,w0⟩:∃l:List Bx,len0=l.length/\IsRws W a0 cap0 l:=by
  obtain ⟨fuel,hf⟩:=h0;exact open_rws hf
 subst e0;obtain ⟨a1,len1,cap1,rfl⟩:=okWide_slice underlying32 (hval 1 32 v1 rfl rfl);have k1:=h1;have lt1:∀x∈q1,x.block<W.heap.size:=by obtain ⟨m,hm⟩:=k1;exact DataW.trod_lt m _ _ _ hm
 obtain ⟨l1,e1,w1,n1⟩:∃l:List Int,len1=l.length/\Row W a1 cap1 l/\(a1=none->cap1=0):=by
  obtain ⟨fuel,hf⟩:=h1;obtain ⟨a,ys,cap,e,h1,h2⟩:=YH hf;simp only [Value.slice.injEq] at e;obtain ⟨rfl,rfl,rfl⟩:=e;exact ⟨ys,rfl,h1,h2⟩
 subst e1;obtain ⟨a2,len2,cap2,rfl⟩:=okWide_slice underlying32 (hval 2 32 v2 rfl rfl);have k2:=h2;have lt2:∀x∈q2,x.block<W.heap.size:=by obtain ⟨m,hm⟩:=k2;exact DataW.trod_lt m _ _ _ hm
 obtain ⟨l2,e2,w2,n2⟩:∃l:List Int,len2=l.length/\Row W a2 cap2 l/\(a2=none->cap2=0):=by
  obtain ⟨fuel,hf⟩:=h2;obtain ⟨a,ys,cap,e,h1,h2⟩:=YH hf;simp only [Value.slice.injEq] at e;obtain ⟨rfl,rfl,rfl⟩:=e;exact ⟨ys,rfl,h1,h2⟩
 subst e2;clear hA0 hval0;refine (walk a0 cap0 l0 a1 cap1 l1 a2 cap2 l2 W w0 w1 n1 w2 n2).mono fun e W' ⟨he,bel⟩=>?_
 subst he;exact ⟨_,rfl,_,_,_,[],_,[],hW',trodAll_mk1 (shut_bool underlying4 _),(trodAll_cons_mk (Below.trod laidOut (by kernel_rfl) (jZ (by kernel_rfl)) k0 bel lt0) (trodAll_cons_mk (Below.trod laidOut (by kernel_rfl) (jZ (by kernel_rfl)) k1 bel lt1) (trodAll_cons_mk (Below.trod laidOut (by kernel_rfl) (jZ (by kernel_rfl)) k2 bel lt2) trodAll_mk0))),rfl,bel.frame _,fun h=>by cases h⟩
theorem over:Rows.storeFailsRow.holds Tryz.pinned (OpenSpec.ofChange Rows.storeFailsSpec):=
 OpenClaim.holds_of_wide 8 Tryz.f8 rfl rfl rfl rfl rfl rfl rfl ⟨rfl,rfl,rfl,rfl,rfl⟩ rfl rfl rfl rfl rfl (by kernel_rfl) func8 (by kernel_rfl)
  (jZ (by kernel_rfl)) (by unfold Func.isWrapper;first|(rw [if_pos (by decide+kernel)];kernel_rfl)|(rw [if_neg (by decide+kernel)];exact ⟨rfl,rfl⟩))
  (fun os started H enc _=>lifted os started H enc)
theorem proved:Rows.StoreFailsSaid:=over
#print axioms proved
end Go.Proofs.YtaijfhadecennaaGreat.storeFails
