/-
  The landed space keeps what a space must.
-/
import Derived.Test.YtdmahobldghojaaLi
namespace Go.Proofs.Ytdmahobldghojaa.Oct
open Go.RowKit Sps

theorem spC : SpC Spa where
  ch := fun h hc hd => h.elim fun _ h => h.elim fun _ h => h.elim fun _ h => h.elim fun _ h => ⟨_, _, _, _, h.ch hc hd⟩
  lt := fun h => h.elim fun _ h => h.elim fun _ h => h.elim fun _ h => h.elim fun _ h => h.lt
  ok := fun h => h.elim fun _ h => h.elim fun _ h => h.elim fun _ h => h.elim fun _ h => h.ok
  new_no := fun n w _ h => Sps.new_no n w h
  new_yes := Sps.new_yes
  load := fun n a cap zs w _ hr _ hl => Sps.load_any n a cap zs w hr hl
  alloc := Sps.alloc_any
  give := fun h p _ => Sps.give_any h p
  commit := Sps.commit_any
  doubt := Sps.doubt_any
  abort := Sps.abort_any
  free := Sps.free_any
  used := fun h p _ => Sps.used_any h p
  own := fun h p _ => Sps.own_any h p
  bits := Sps.bits_any
  clone := Sps.clone_any
end Go.Proofs.Ytdmahobldghojaa.Oct
