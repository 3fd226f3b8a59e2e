/- Part of a proof. -/
import Derived.Test.YtaijfhadecennabGreatEnl
namespace Go.Proofs.YtaijfhadecennabGreat.Oct.Sx
open Go.RowKit
section
variable {w:World} {B s d n c:Nat} {X:St} {pl:Nat} {r:Rp} {last:List Int} {tr:List (List Int)}
theorem lvOpen (h:Lv w B s d n c X pl r [] last tr) (hv:LvW n X pl r []) (hB:B<=w.heap.size) (hc:c<=10000000):
  Calls Tryz.prog 19 #[.pointer (some ⟨d,0,none⟩)] w fun e w'=>(∃aP cP n1 aT cT n2 aS cS n3 aG cG,e=.returned (.tuple #[.agg (rpP X.S pl (.slice aP n1 cP) (.slice aT n2 cT) (.slice aS n3 cS) (.slice aG X.C.length cG)),.int .i64 0]))/\∃X',Lv w' B s d n (c+4100) X' pl r [] last tr/\LvW n X' pl r []/\Below B w w'/\X'={X with D:=X'.D}:=by
 obtain ⟨F,h1,h2⟩:=h.sto;obtain ⟨o1,o2⟩:=h.now;obtain ⟨Fd,d1,d2,d3⟩:=h1.devS;have hops:=h.ops;have hsi:=h.since;have h4:=h.i.jv.ok.n4;refine (open0 d1 hv.well rfl h.dn (by omega) o1 (by rw [o2];exact h.rr)).mono ?_;rintro e w' ⟨v,k,rfl,hk,hd,hch,aP,cP,aT,cT,aS,cS,aG,cG,rfl,-⟩;have hs:=d3 w' _ hd (uX X.D k) hch;have ho:=vJ X.D k;refine ⟨⟨aP,cP,(oaR X.D.now).pc.length,aT,cT,(oaR X.D.now).tx.length,aS,cS,(oaR X.D.now).st.length,aG,cG,?_⟩,{X with D:=rdK X.D k},⟨⟨F,hs,h2⟩,rdK_in h.i k,h.pl,(uX X.D k).trans h.dn,?_,?_,?_,h.st,h.rr,fun y hy=>by cases hy⟩,⟨hv.well.mo (rdK_mo X.D k),rfl,hv.zo,hv.gs,hv.cl,hv.rs,hv.rc⟩,?_,rfl⟩
 ·have e1:(oaR X.D.now).s=X.S:=by rw [o2];exact hv.rs
  have e2:(oaR X.D.now).pl=(pl:Int):=by rw [o2]
  have e3:(oaR X.D.now).pg.length=X.C.length:=by rw [o2];exact hv.cl.symm
  rw [e1,e2,e3]
 ·show (rdK X.D k).ops<=_;rw [h.dn] at h4;omega
 ·show (rdK X.D k).since.length<=_;omega
 ·show X.g<=_;have:=h.g;omega
 ·exact (hch.mono hB (fun _ _ e=>e)).below (fun k e=>h2 k (d2 k e))
end
end Go.Proofs.YtaijfhadecennabGreat.Oct.Sx
