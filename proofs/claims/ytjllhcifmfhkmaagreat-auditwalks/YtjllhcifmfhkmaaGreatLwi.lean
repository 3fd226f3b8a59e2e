/- Part of a proof. -/
import Derived.Test.YtjllhcifmfhkmaaGreatLwc
import Derived.Test.YtjllhcifmfhkmaaGreatLwg
import Derived.Test.YtjllhcifmfhkmaaGreatKe
import Derived.Test.YtjllhcifmfhkmaaGreatBu
import Derived.Test.YtjllhcifmfhkmaaGreatUl
import Derived.Lib.SmallJoins
import Derived.ChangeSame
import Derived.ProofKit
namespace Go.Proofs.YtjllhcifmfhkmaaGreat.Oct
open Go.RowKit
theorem buildC:BuildC:=fun _ _ _ _ _ _ _ _ _ _ _ h1 h2 h3 h4 h5 h6 h7 h8 h9 h10=>build_v h1 h2 h3 h4 h5 h6 h7 h8 h9 h10
end Go.Proofs.YtjllhcifmfhkmaaGreat.Oct
namespace Go.Proofs.YtjllhcifmfhkmaaGreat.Oct
open Go.RowKit Go.ChangeShapes Go.WideShapes Go.Joins
theorem array8 {α:Type} {cs:Array α} (h:cs.size=8):∃c0 c1 c2 c3 c4 c5 c6 c7,cs= #[c0,c1,c2,c3,c4,c5,c6,c7]:=by
 obtain ⟨l⟩:=cs
 match l,h with
 |[c0,c1,c2,c3,c4,c5,c6,c7],_=>exact ⟨c0,c1,c2,c3,c4,c5,c6,c7,rfl⟩
theorem cellsSp:Tryz.prog.cellsOf 28=8:=by kernel_rfl
theorem cellsI:Tryz.prog.cellsOf 3=1:=by kernel_rfl
theorem num_in {H:Type} {enc:TypeId × Value→H} {w:World} {base n:Nat} {held:Bool} {c:Value} {o:Option (DataW H × List MemPlace)} (h:DataW.trod enc Tryz.prog w base (fun _=>true) held n 3 [c]=o) (ho:∃y,o=some y):∃z,c=.int .i64 z:=by
 obtain ⟨y,rfl⟩:=ho;obtain ⟨z,e,_,_⟩:=DataW.trod_int Tryz.underlying3 h;simp at e;exact ⟨z,e⟩
set_option maxRecDepth 20000 in
theorem open_super {H:Type} {enc:TypeId × Value→H} {w:World} {base b0:Nat} {r:Reach} {held:Bool} {v:Value} {d:DataW H} {pl:List MemPlace} (hv:Value.okWide Tryz.prog w r b0 28 v) (h:DataW.Trod enc Tryz.prog w base (fun _=>true) held 28 v d pl):
  ∃S,v=spV S:=by
 obtain ⟨cs,rfl,hsz⟩:=okWide_struct Tryz.underlying28 hv;obtain ⟨c0,c1,c2,c3,c4,c5,c6,c7,rfl⟩:=array8 (hsz.trans cellsSp);obtain ⟨fuel,hf⟩:=h;obtain ⟨xs,n,_,_,hl,hlen,hff⟩:=DataW.trod_struct Tryz.underlying28 hf;have hx:∀i,i<8→∃y,xs[i]?=some y:=fun i hi=>⟨_,List.getElem?_eq_getElem (by rw [hlen];exact hi)⟩
 have g0:DataW.trod enc Tryz.prog w base (fun _=>true) held n 3 [c0]=xs[0]?:=by
  have t:DataW.trod enc Tryz.prog w base (fun _=>true) held n 3 (([c0,c1,c2,c3,c4,c5,c6,c7].drop 0).take (Tryz.prog.cellsOf 3))=xs[0]?:=hff 0 _ rfl;rw [cellsI] at t;exact t
 have g1:DataW.trod enc Tryz.prog w base (fun _=>true) held n 3 [c1]=xs[1]?:=by
  have t:DataW.trod enc Tryz.prog w base (fun _=>true) held n 3 (([c0,c1,c2,c3,c4,c5,c6,c7].drop 1).take (Tryz.prog.cellsOf 3))=xs[1]?:=hff 1 _ rfl;rw [cellsI] at t;exact t
 have g2:DataW.trod enc Tryz.prog w base (fun _=>true) held n 3 [c2]=xs[2]?:=by
  have t:DataW.trod enc Tryz.prog w base (fun _=>true) held n 3 (([c0,c1,c2,c3,c4,c5,c6,c7].drop 2).take (Tryz.prog.cellsOf 3))=xs[2]?:=hff 2 _ rfl;rw [cellsI] at t;exact t
 have g3:DataW.trod enc Tryz.prog w base (fun _=>true) held n 3 [c3]=xs[3]?:=by
  have t:DataW.trod enc Tryz.prog w base (fun _=>true) held n 3 (([c0,c1,c2,c3,c4,c5,c6,c7].drop 3).take (Tryz.prog.cellsOf 3))=xs[3]?:=hff 3 _ rfl;rw [cellsI] at t;exact t
 have g4:DataW.trod enc Tryz.prog w base (fun _=>true) held n 3 [c4]=xs[4]?:=by
  have t:DataW.trod enc Tryz.prog w base (fun _=>true) held n 3 (([c0,c1,c2,c3,c4,c5,c6,c7].drop 4).take (Tryz.prog.cellsOf 3))=xs[4]?:=hff 4 _ rfl;rw [cellsI] at t;exact t
 have g5:DataW.trod enc Tryz.prog w base (fun _=>true) held n 3 [c5]=xs[5]?:=by
  have t:DataW.trod enc Tryz.prog w base (fun _=>true) held n 3 (([c0,c1,c2,c3,c4,c5,c6,c7].drop 5).take (Tryz.prog.cellsOf 3))=xs[5]?:=hff 5 _ rfl;rw [cellsI] at t;exact t
 have g6:DataW.trod enc Tryz.prog w base (fun _=>true) held n 3 [c6]=xs[6]?:=by
  have t:DataW.trod enc Tryz.prog w base (fun _=>true) held n 3 (([c0,c1,c2,c3,c4,c5,c6,c7].drop 6).take (Tryz.prog.cellsOf 3))=xs[6]?:=hff 6 _ rfl;rw [cellsI] at t;exact t
 have g7:DataW.trod enc Tryz.prog w base (fun _=>true) held n 3 [c7]=xs[7]?:=by
  have t:DataW.trod enc Tryz.prog w base (fun _=>true) held n 3 (([c0,c1,c2,c3,c4,c5,c6,c7].drop 7).take (Tryz.prog.cellsOf 3))=xs[7]?:=hff 7 _ rfl;rw [cellsI] at t;exact t
 obtain ⟨z0,rfl⟩:=num_in g0 (hx 0 (by omega));obtain ⟨z1,rfl⟩:=num_in g1 (hx 1 (by omega));obtain ⟨z2,rfl⟩:=num_in g2 (hx 2 (by omega));obtain ⟨z3,rfl⟩:=num_in g3 (hx 3 (by omega));obtain ⟨z4,rfl⟩:=num_in g4 (hx 4 (by omega));obtain ⟨z5,rfl⟩:=num_in g5 (hx 5 (by omega));obtain ⟨z6,rfl⟩:=num_in g6 (hx 6 (by omega));obtain ⟨z7,rfl⟩:=num_in g7 (hx 7 (by omega));exact ⟨⟨z0,z1,z2,z3,z4,z5,z6,z7⟩,rfl⟩
end Go.Proofs.YtjllhcifmfhkmaaGreat.Oct
