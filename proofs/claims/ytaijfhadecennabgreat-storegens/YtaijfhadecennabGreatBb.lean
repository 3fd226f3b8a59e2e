/- Part of a proof. -/
import Derived.Test.YtaijfhadecennabGreatBa
import Derived.Test.YtaijfhadecennabGreatRn
import Derived.StillTailTactics
import Derived.Deep.AppendLies
import Derived.Deep.RegionLawGrows
import Derived.Laws.EntriesVeiled
namespace Go.Proofs.YtaijfhadecennabGreat.Oct
open Go.RowKit
theorem JX (w:World) (o:Obj):(w.alloc o).heap.size=w.heap.size+1:=by
 show (w.heap.push o).size=_;simp
def obl (a:Option Addr) (k:Nat):Prop:=∃x,a=some x/\x.block=k
theorem yX {a:Option Addr} {n c k:Nat} (h:(Value.slice a n c).ownBlock=some k):obl a k:=by
 match a,h with
 |some x,h=>exact ⟨x,rfl,by simpa [Value.ownBlock] using h⟩
section
variable {w w':World} {p gk ck cP cT ic:Nat} {F:Nat->Prop} {ia aP aT:Option Addr} {L:List Int} {q:Nat->Value} {W:Wk}
theorem Row.keepO {a:Option Addr} {c:Nat} {zs:List Int} (h:Row w a c zs) (k:∀g,obl a g->w'.heap[g]?=w.heap[g]?):Row w' a c zs:=by
 obtain ⟨h1,h2,h3,h4⟩:=h;refine ⟨h1,h2,h3,?_⟩;rcases h4 with h4|⟨b,off,ha,hc⟩
 ·exact .inl h4
 ·exact .inr ⟨b,off,ha,fun i hi=>(World.cell?_of_block (w:=w) (a:=⟨b,off+i,none⟩) (k b ⟨_,ha,rfl⟩)).trans (hc i hi)⟩
end
theorem seg_len {t:List Int} {p:C4} (h0:0<=p.b) (h1:0<=p.c) (h:p.b+p.c<=(t.length:Int)):(seg t p).length=p.c.toNat:=by unfold seg;simp;omega
theorem zC {a:Option Addr} {n c k:Nat} (h:obl a k):(Value.slice a n c).ownBlock=some k:=by
 obtain ⟨x,rfl,rfl⟩:=h;simp [Value.ownBlock]
theorem reL_bd {t:Bool} {z:List Int} (hb:Bys z):(reL t z).length<=20/\∀x∈reL t z,okC t x=true:=by
 by_cases e:reE t z=0
 ·obtain ⟨h1,-⟩:=lay_re hb e;obtain ⟨-,h2,h3⟩:=layB_out h1;refine ⟨?_,h3⟩;have:(shtT t).most<=20:=by cases t<;>decide
  omega
 ·unfold reL;rw [if_neg e];exact ⟨by simp,fun x hx=>by cases hx⟩
theorem GD {L:List Int} {l:List C4} {x:Wk × S3} (h:x.1.bad=true):lfGo L l x=x:=by
 cases l with
 |nil=>rfl
 |cons p l=>unfold lfGo;rw [if_pos h]
end Go.Proofs.YtaijfhadecennabGreat.Oct
