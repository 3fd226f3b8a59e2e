/-
  bytes.Clone.
-/
import Derived.Test.YtbamdcjhcmogbaaAp
import Derived.Test.YtbamdcjhcmogbaaRc
import Derived.Laws.EntriesVeiled
import Derived.Lib.SliceRun
namespace Go.Proofs.Ytbamdcjhcmogbaa.Oct
open Go.RowKit

theorem nil_slice (w : World) (a : Option Addr) (n c : Nat) : (binOp .eql 27 (.slice a n c) (.slice none 0 0)).run Try.prog w = .ok (.bool a.isNone) w := Lib.run_eql_slice_nil w 27 5 a n c 0 0 Try.underlying27

set_option maxHeartbeats 1000000 in
theorem clone_some (ad : Addr) (cap : Nat) (zs : List Int) (w : World) (h : Row w (some ad) cap zs) (hsz : zs.length ≤ 140737488355328) :
    Calls Try.prog 39 #[.slice (some ad) zs.length cap] w fun e w' => ∃ g c, e = .returned (.slice (some ⟨g, 0, none⟩) zs.length c) ∧ Own w.heap.size w' (.slice (some ⟨g, 0, none⟩) zs.length c) zs ∧ Below w.heap.size w w' := by
  obtain ⟨i0, hi, hz0, hz1, hz2⟩ := info_parts info5
  have hm : zs.length ≤ maxLen := Nat.le_trans h.2.1 h.2.2.1
  have hr := h.below ((Below.refl w.heap.size w).alloc (Nat.le_refl _) (.cells #[] 5))
  have hn := row_news hr
  have ho : (w.alloc (.cells #[] 5)).ownsRow w.heap.size 5 1 (.slice (some ⟨w.heap.size, 0, none⟩) 0 0) 0 [] := World.ownsRow_made w #[] 0 (Nat.le_refl _) (by simp [maxLen]) rfl
  have HN : Hid (∀ (j : Nat) (u : Value), (zs.map (Value.int .u8))[j]? = some u → (w.alloc (.cells #[] 5)).cell? (ad.add j) = some u) := hn
  clear h hr hn
  have hq := nil_slice w (some ad) zs.length cap
  go_enter Try.func39, Try.ntmps39
  go_wp2_with (at_builtin; refine wpList_append_own _ rfl _ _ 27 rfl w.heap.size 5 i0 (.int .u8 0) 1 1 Try.underlying27 hi hz0 hz1 hz2 rfl (by decide) _ _ _ rfl ho ad zs.length cap (zs.map (Value.int .u8)) rfl (by simp) HN.out (one_cells zs) (by omega) (by omega) (by simp) ?_)
  intro v' w1 hown' hgrow hnil
  have hb : Below w.heap.size w w1 := ((Below.refl w.heap.size w).alloc (Nat.le_refl _) _).grown hgrow (by simp) (fun k hk => by simp [Value.ownBlock] at hk; omega)
  have hv : ∃ g c, v' = .slice (some ⟨g, 0, none⟩) zs.length c := by
    rcases hown'.2 with ⟨e, _⟩ | ⟨g, c, cur, e, _⟩
    · exact (hnil e).elim
    · exact ⟨g, c, e⟩
  obtain ⟨g, c, hv⟩ := hv
  have HO : Hid (Own w.heap.size w1 (.slice (some ⟨g, 0, none⟩) zs.length c) zs) := by
    rw [← hv]
    exact hown'
  clear hown' hgrow hnil HN ho
  rw [hv]
  go_wp2
  go_ret
  exact ⟨g, c, rfl, HO.out, hb⟩

theorem clone_none (w : World) : Calls Try.prog 39 #[.slice none 0 0] w fun e w' => e = .returned (.slice none 0 0) ∧ w = w' := by
  have hq := nil_slice w none 0 0
  go_enter Try.func39, Try.ntmps39
  go_wp2
  go_ret
  exact ⟨rfl, rfl⟩

end Go.Proofs.Ytbamdcjhcmogbaa.Oct
