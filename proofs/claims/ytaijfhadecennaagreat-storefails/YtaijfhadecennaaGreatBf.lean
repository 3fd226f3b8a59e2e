/- Part of a proof. -/
import Derived.Test.YtaijfhadecennaaGreatKb
import Derived.Test.YtaijfhadecennaaGreatSe
import Derived.BigRegion
namespace Go.Proofs.YtaijfhadecennaaGreat.Oct
open Go.RowKit
theorem zI {a:Option Addr} {n c k:Nat} (h:obl a k):(Value.slice a n c).ownBlock=some k:=by
 obtain ⟨x,rfl,rfl⟩:=h;simp [Value.ownBlock]
section
variable {w w':World} {p gk ck cP cT ic:Nat} {F:Nat->Prop} {ia aP aT:Option Addr} {L:List Int} {q:Nat->Value} {W:Wk}
def RWA (w:World) (p:Nat) (F:Nat->Prop) (ia:Option Addr) (ic:Nat) (L:List Int) (q:Nat->Value) (W:Wk):Prop:=∃gk ck aP aT cP cT,RW w p F ia ic L gk ck aP aT cP cT q W
end
def At3 (w:World) (b:Nat) (s:S3):Prop:=w.heap[b]?=some (.cells #[.int .i64 s.p,.int .i64 s.b,.int .i64 s.l] 190 (0,0))
theorem At3.at {w:World} {b:Nat} {s:S3} (h:At3 w b s):w.cell? ⟨b,0,none⟩=some (.int .i64 s.p)/\w.cell? ⟨b,1,none⟩=some (.int .i64 s.b)/\w.cell? ⟨b,2,none⟩=some (.int .i64 s.l):=by
 refine ⟨?_,?_,?_⟩<;>rw [cell_of_row w b _ _ _ (0,0) h]<;>rfl
theorem At3.frz {w:World} {b:Nat} {s:S3} (h:At3 w b s) (i:Nat):w.frozen? ⟨b,i,none⟩=false:=by
 unfold World.frozen?;rw [h];simp
theorem reL_bd {t:Bool} {z:List Int} (hb:Bys z):(reL t z).length<=20/\∀x∈reL t z,okC t x=true:=by
 by_cases e:reE t z=0
 ·obtain ⟨h1,-⟩:=lay_re hb e;obtain ⟨-,h2,h3⟩:=layB_out h1;refine ⟨?_,h3⟩;have:(shtT t).most<=20:=by cases t<;>decide
  omega
 ·unfold reL;rw [if_neg e];exact ⟨by simp,fun x hx=>by cases hx⟩
theorem lfGo_bad {L:List Int} {l:List C4} {x:Wk × S3} (h:x.1.bad=true):lfGo L l x=x:=by
 cases l with
 |nil=>rfl
 |cons p l=>unfold lfGo;rw [if_pos h]
section
variable {w wr w2 w5:World} {p ic rb sb k:Nat} {F F' F2:Nat->Prop} {ia g:Option Addr} {L:List Int} {q:Nat->Value} {W W':Wk} {l:List C4} {s':S3} {fin:Wk × S3}
theorem Step.notin (h:Step F F2 w w2) {b:Nat} (hb:b<w.heap.size) (hn:¬F b):¬F2 b:=fun e=>by
 rcases h.2 b e with h|h
 ·exact hn h
 ·omega
end
section
variable {w w':World} {p ic:Nat} {F:Nat->Prop} {ia:Option Addr} {L:List Int} {q:Nat->Value} {W:Wk}
theorem RWA.lt (h:RWA w p F ia ic L q W):∀k,F k->k<w.heap.size:=by
 obtain ⟨_,_,_,_,_,_,h⟩:=h;exact h.lt
theorem RWA.fp (h:RWA w p F ia ic L q W):F p:=by
 obtain ⟨_,_,_,_,_,_,h⟩:=h;exact h.fp
theorem RWA.ilt (h:RWA w p F ia ic L q W) (hn:0<W.kd.length):∀k,obl ia k->k<w.heap.size:=by
 obtain ⟨_,_,_,_,_,_,h⟩:=h;exact h.ilt hn
theorem RWA.c16 (h:RWA w p F ia ic L q W):w.cell? ⟨p,16,none⟩=some (.bool W.bad)/\w.frozen? ⟨p,16,none⟩=false:=by
 obtain ⟨_,_,_,_,_,_,h⟩:=h;exact ⟨h.at.2.2.2.2,h.frz 16⟩
theorem RWA.below (h:RWA w p F ia ic L q W) (hn:0<W.kd.length) (hb:Below w.heap.size w w'):RWA w' p F ia ic L q W:=by
 obtain ⟨_,_,_,_,_,_,h⟩:=h;exact ⟨_,_,_,_,_,_,h.below hn hb⟩
end
end Go.Proofs.YtaijfhadecennaaGreat.Oct
