/-
  pool: clean, evict.
-/
import Derived.Test.YtojckbhbnalkeaaIe
namespace Go.Proofs.Ytojckbhbnalkeaa.Oct
open Go.RowKit

def evE (D : Dv) (f : Fr) : Int := if f.dirty = true then saysD D else 0
def evD (D : Dv) (f : Fr) : Dv := if f.dirty = true then writeD D f.page f.b else D

theorem writeD_n (D : Dv) (pg : Nat) (b : List Int) : (writeD D pg b).n = D.n := by
  unfold writeD
  split
  · rfl
  · split
    · rfl
    · split <;> rfl
theorem evD_n (D : Dv) (f : Fr) : (evD D f).n = D.n := by
  unfold evD
  split
  · exact writeD_n ..
  · rfl

theorem saysD_cases (D : Dv) : saysD D = 0 ∨ saysD D = 7 := by
  unfold saysD
  split
  · exact .inr rfl
  · split
    · exact .inr rfl
    · split
      · exact .inl rfl
      · exact .inr rfl

theorem Step.undrew {F F' : Nat → Prop} {w w1 : World} (h : Step F F' w.drew w1) : Step F F' w w1 := ⟨⟨h.1.os, h.1.tape, h.1.output, h.1.size, h.1.block⟩, h.2⟩
theorem Ch.undrew {B : Nat} {F : Nat → Prop} {w w1 : World} (h : Ch B F w.drew w1) : Ch B F w w1 := ⟨h.os, h.tape, h.output, h.size, h.block⟩

section
variable {w : World} {p d m e N : Nat} {Fd F : Nat → Prop} {D : Dv} {bs : List Nat} {fr : Nat → Fr} {ol nw : Nat → Nat}

theorem PD.mem {w' : World} (h : PD w p d m e N Fd F D bs fr ol nw) (k : Mem w w') : PD w' p d m e N Fd F D bs fr ol nw := h.keep (by rw [k.1]; exact Nat.le_refl _) (fun g _ => k.heap g)

/-- One frame has turned. -/
theorem PD.setN {w' : World} (h : PD w p d m e N Fd F D bs fr ol nw) {g : Nat} (hg : g ∈ bs) (f : Fr) (hn : Node w' g f (ol g) (nw g)) (hk : ∀ k, k ≠ g → w'.heap[k]? = w.heap[k]?) (hs : w'.heap.size = w.heap.size) (hok : f.ok) (hpg : f.page = (fr g).page) :
    PD w' p d m e N Fd F D bs (upF fr g f) ol nw := by
  obtain ⟨a1, a2, a3, a4, a5, a6⟩ := h.pool.apart
  have hg' : g ∈ e :: bs := List.mem_cons_of_mem _ hg
  refine ⟨h.dev.keep (Nat.le_of_eq hs.symm) (fun k hk' => hk k (fun e1 => (h.fd k hk').2 (.inr (.inr (e1 ▸ hg'))))), ?_, h.fd, h.fp, fun k hk' => by rw [hs]; exact h.flt k hk'⟩
  refine h.pool.re (hk p (fun e1 => a2 (e1 ▸ hg'))) (hk m (fun e1 => a3 (e1 ▸ hg'))) (fun x hx => ?_) (fun x hx => ?_) (fun x => ?_)
  · by_cases e1 : x = g
    · subst e1; rw [upF_same]; exact hn
    · rw [upF_other _ _ e1]; exact (h.pool.node x hx).keep (hk x e1)
  · by_cases e1 : x = g
    · subst e1; rw [upF_same]; exact hok
    · rw [upF_other _ _ e1]; exact h.pool.ok x hx
  · by_cases e1 : x = g
    · subst e1; rw [upF_same]; exact hpg
    · rw [upF_other _ _ e1]

theorem PD.setDirty (h : PD w p d m e N Fd F D bs fr ol nw) {g : Nat} (hg : g ∈ bs) (x : Bool) : PD (w.setCell ⟨g, 257, none⟩ (.bool x)) p d m e N Fd F D bs (upF fr g { fr g with dirty := x }) ol nw := by
  have hg' : g ∈ e :: bs := List.mem_cons_of_mem _ hg
  refine h.setN hg _ ?_ (fun k hk => Below.heap_setCell w ⟨g, 257, none⟩ _ k hk) (size_setCell _ _ _) (h.pool.ok g hg') rfl
  have := (h.pool.node g hg').set 257 (.bool x)
  rw [set_dirty (h.pool.ok g hg')] at this
  exact this

theorem PD.setPins (h : PD w p d m e N Fd F D bs fr ol nw) {g : Nat} (hg : g ∈ bs) (x : Nat) : PD (w.setCell ⟨g, 258, none⟩ (.int .i64 x)) p d m e N Fd F D bs (upF fr g { fr g with pins := x }) ol nw := by
  have hg' : g ∈ e :: bs := List.mem_cons_of_mem _ hg
  refine h.setN hg _ ?_ (fun k hk => Below.heap_setCell w ⟨g, 258, none⟩ _ k hk) (size_setCell _ _ _) (h.pool.ok g hg') rfl
  have := (h.pool.node g hg').set 258 (.int .i64 x)
  rw [set_pins (h.pool.ok g hg')] at this
  exact this

def clF (s : Int) (fr : Nat → Fr) (g : Nat) : Nat → Fr := if s = 0 then upF fr g { fr g with dirty := false } else fr

set_option maxRecDepth 20000 in
set_option maxHeartbeats 2000000 in
theorem clean_any (h : PD w p d m e N Fd F D bs fr ol nw) (hops : D.ops ≤ 4611686018427387904) (hs : D.since.length ≤ 1000000) (g : Nat) (hg : g ∈ bs) :
    Calls Try.prog 43 #[.pointer (some ⟨p, 0, none⟩), .pointer (some ⟨g, 0, none⟩)] w fun x w' => CEnd (saysD D) x ∧ ∃ Fd' F', PD w' p d m e N Fd' F' (writeD D (fr g).page (fr g).b) bs (clF (saysD D) fr g) ol nw ∧ Step F F' w w' := by
  have hg' : g ∈ e :: bs := List.mem_cons_of_mem _ hg
  obtain ⟨c0, c1, c2, c3⟩ := h.pool.at
  obtain ⟨g0, _, _, _, _, gz⟩ := (h.pool.node _ hg').at (h.pool.ok _ hg')
  have hok := h.pool.ok _ hg'
  have hd := h.mem (Mem.drew w)
  have hwr := write_any hd.dev hops hs (fr g).page (h.pool.pg g hg) (some ⟨g, 1, none⟩) 256 (fr g).b ((hd.pool.node _ hg').row hok) hok.1
  have hend : ∀ (w1 : World) Fd', Dev w1 d Fd' (writeD D (fr g).page (fr g).b) → Step Fd Fd' w.drew w1 → ∃ F', PD w1 p d m e N Fd' F' (writeD D (fr g).page (fr g).b) bs fr ol nw ∧ Step F F' w w1 := fun w1 Fd' h1 h2 => by
    obtain ⟨t1, t2⟩ := hd.turn h1 (writeD_n ..) h2
    exact ⟨_, t1, t2.undrew⟩
  have HE : Hid (∀ (w1 : World) Fd', Dev w1 d Fd' (writeD D (fr g).page (fr g).b) → Step Fd Fd' w.drew w1 → ∃ F', PD w1 p d m e N Fd' F' (writeD D (fr g).page (fr g).b) bs fr ol nw ∧ Step F F' w w1) := hend
  obtain ⟨P, hP⟩ : ∃ P, (fr g).page = P := ⟨_, rfl⟩
  rw [hP] at hwr g0
  have HP : Hid ((fr g).page = P) := hP
  have HG : Hid (g ∈ bs) := hg
  have hck := check_ok
  have hcn := check_no 7 (by decide)
  clear h hd hend hP gz hok c1 c2 c3 hg hg'
  rcases saysD_cases D with s0 | s0
  · rw [s0] at hwr ⊢
    go_enter Try.func43, Try.ntmps43
    go_wp2_with fail
    go_still_tail 12, (by kernel_rfl)
    go_wp2_with fail
    refine hwr.mono ?_
    clear hwr
    rintro x w1 ⟨rfl, Fd', h1, h2⟩
    rw [← HP.out] at h1
    obtain ⟨F', h3, h4⟩ := HE.out w1 Fd' h1 h2
    obtain ⟨_, e1, _, _, _, ez⟩ := (h3.pool.node _ (List.mem_cons_of_mem _ HG.out)).at (h3.pool.ok _ (List.mem_cons_of_mem _ HG.out))
    have e2 := ez 257
    have H5 : Hid (PD (w1.setCell ⟨g, 257, none⟩ (.bool false)) p d m e N Fd' F' (writeD D (fr g).page (fr g).b) bs (clF 0 fr g) ol nw) := h3.setDirty HG.out false
    have H6 : Hid (Step F F' w (w1.setCell ⟨g, 257, none⟩ (.bool false))) := ⟨h4.1.trans ((Ch.refl _ F w1).setCell (p := ⟨g, 257, none⟩) (by
      by_cases hl : g < w.heap.size
      · rcases h4.2 g (h3.fp g (.inr (.inr (List.mem_cons_of_mem _ HG.out)))) with e3 | e3
        · exact .inr e3
        · omega
      · exact .inl (by show w.heap.size ≤ g; omega)) _), h4.2⟩
    obtain ⟨bd, hbd⟩ : ∃ bd, (fr g).dirty = bd := ⟨_, rfl⟩
    rw [hbd] at e1
    clear h1 h2 h3 h4 ez hbd
    go_wp2_with (go_at_call 58; refine (hck _).mono ?_; rintro x w2 ⟨rfl, rfl⟩)
    go_end0
    exact ⟨.inl ⟨rfl, rfl⟩, Fd', F', H5.out, H6.out⟩
  · rw [s0] at hwr ⊢
    go_enter Try.func43, Try.ntmps43
    go_wp2_with fail
    go_still_tail 12, (by kernel_rfl)
    go_wp2_with fail
    refine hwr.mono ?_
    clear hwr
    rintro x w1 ⟨rfl, Fd', h1, h2⟩
    rw [← HP.out] at h1
    obtain ⟨F', h3, h4⟩ := HE.out w1 Fd' h1 h2
    have H5 : Hid (PD w1 p d m e N Fd' F' (writeD D (fr g).page (fr g).b) bs (clF 7 fr g) ol nw) := h3
    have H6 : Hid (Step F F' w w1) := h4
    clear h1 h2 h3 h4
    go_wp2_with (go_at_call 58; refine (hcn _).mono ?_; rintro x w2 ⟨rfl, rfl⟩; unfold thrown)
    exact ⟨rfl, .inr ⟨by decide, rfl⟩, Fd', F', H5.out, H6.out⟩

theorem not_erase (hn : bs.Nodup) {i : Nat} (hi : i < bs.length) : bs.getD i e ∉ bs.eraseIdx i := by
  intro hm
  rw [List.getD_eq_getElem?_getD, List.getElem?_eq_getElem hi, Option.getD_some] at hm
  obtain ⟨j, hj, he⟩ := List.getElem_of_mem hm
  rw [List.getElem_eraseIdx] at he
  have hp := List.pairwise_iff_getElem.1 hn
  have hl : (bs.eraseIdx i).length = bs.length - 1 := List.length_eraseIdx_of_lt hi
  split at he
  · rename_i h1; exact hp j i _ _ h1 he
  · rename_i h1; exact hp i (j + 1) _ _ (by omega) he.symm

/-- What stands when a frame was to leave. -/
def evB (s : Int) (bs : List Nat) (i : Nat) : List Nat := if s = 0 then bs.eraseIdx i else bs

set_option maxHeartbeats 2000000 in
theorem evict_any (h : PD w p d m e N Fd F D bs fr ol nw) (hops : D.ops ≤ 4611686018427387904) (hs : D.since.length ≤ 1000000) (i : Nat) (hi : i < bs.length) :
    Calls Try.prog 47 #[.pointer (some ⟨p, 0, none⟩), .pointer (some ⟨bs.getD i e, 0, none⟩)] w fun x w' => CEnd (evE D (fr (bs.getD i e))) x ∧ ∃ Fd' F' fr' ol' nw', PD w' p d m e N Fd' F' (evD D (fr (bs.getD i e))) (evB (evE D (fr (bs.getD i e))) bs i) fr' ol' nw' ∧ Step F F' w w' ∧ ∀ x ∈ evB (evE D (fr (bs.getD i e))) bs i, fr' x = fr x := by
  have hg : bs.getD i e ∈ bs := getD_mem hi
  have hg' : bs.getD i e ∈ e :: bs := List.mem_cons_of_mem _ hg
  obtain ⟨_, g1, _, _, _, _⟩ := (h.pool.node _ hg').at (h.pool.ok _ hg')
  have hnd := h.pool.apart.2.2.2.2.2
  have hcl := clean_any h hops hs _ hg
  have hlv : ∀ (w1 : World) (Fd1 F1 : Nat → Prop) (D1 : Dv) (fr1 : Nat → Fr), PD w1 p d m e N Fd1 F1 D1 bs fr1 ol nw → Calls Try.prog 48 #[.pointer (some ⟨p, 0, none⟩), .pointer (some ⟨bs.getD i e, 0, none⟩)] w1 fun x w' => x = .returned (.tuple #[]) ∧ (∃ ol' nw', PD w' p d m e N Fd1 F1 D1 (bs.eraseIdx i) fr1 ol' nw') ∧ Ch w1.heap.size F1 w1 w' := fun w1 Fd1 F1 D1 fr1 h1 => leave_any h1 i hi
  have hne := not_erase (e := e) hnd hi
  obtain ⟨g, hge⟩ : ∃ g, bs.getD i e = g := ⟨_, rfl⟩
  rw [hge] at hcl hlv g1 hne ⊢
  obtain ⟨f, hf⟩ : ∃ f, fr g = f := ⟨_, rfl⟩
  have Hcl : Hid (Calls Try.prog 43 #[.pointer (some ⟨p, 0, none⟩), .pointer (some ⟨g, 0, none⟩)] w fun x w' => CEnd (saysD D) x ∧ ∃ Fd' F', PD w' p d m e N Fd' F' (writeD D f.page f.b) bs (clF (saysD D) fr g) ol nw ∧ Step F F' w w') := by rw [← hf]; exact hcl
  have Hlv : Hid (∀ (w1 : World) (Fd1 F1 : Nat → Prop) (D1 : Dv) (fr1 : Nat → Fr), PD w1 p d m e N Fd1 F1 D1 bs fr1 ol nw → Calls Try.prog 48 #[.pointer (some ⟨p, 0, none⟩), .pointer (some ⟨g, 0, none⟩)] w1 fun x w' => x = .returned (.tuple #[]) ∧ (∃ ol' nw', PD w' p d m e N Fd1 F1 D1 (bs.eraseIdx i) fr1 ol' nw') ∧ Ch w1.heap.size F1 w1 w') := hlv
  have HP : Hid (PD w p d m e N Fd F D bs fr ol nw) := h
  have HF : Hid (fr g = f) := hf
  rw [hf] at g1 ⊢
  clear hcl hlv hf hge hg hg' h hnd hi
  cases hd : f.dirty with
  | true =>
    rw [hd] at g1
    have e1 : evE D f = saysD D := by simp [evE, hd]
    have e2 : evD D f = writeD D f.page f.b := by simp [evD, hd]
    rw [e1, e2]
    clear e1 e2 hd
    rcases saysD_cases D with s0 | s0
    · rw [s0]
      rw [s0] at Hcl
      go_enter Try.func47, Try.ntmps47
      go_wp2_with fail
      refine Hcl.out.mono ?_
      clear Hcl
      rintro x w1 ⟨hx, Fd', F', h1, h2⟩
      obtain rfl : x = .returned (.tuple #[]) := by
        rcases hx with hx | hx
        · exact hx.2
        · exact absurd rfl hx.1
      have hl1 := Hlv.out w1 Fd' F' _ _ h1
      have H1 : Hid (PD w1 p d m e N Fd' F' (writeD D f.page f.b) bs (clF 0 fr g) ol nw) := h1
      have H2 : Hid (Step F F' w w1) := h2
      clear h1 h2 hx Hlv
      go_wp2_with (go_at_call 48; refine hl1.mono ?_; rintro x w2 ⟨rfl, hp2, hc2⟩)
      go_end0
      obtain ⟨ol', nw', hp2⟩ := hp2
      refine ⟨.inl ⟨rfl, rfl⟩, Fd', F', clF 0 fr g, ol', nw', hp2, ⟨?_, H2.out.2⟩, fun x hx => ?_⟩
      · exact H2.out.1.trans (hc2.mono H2.out.1.size (fun k hk h3 => by
          rcases H2.out.2 k h3 with e3 | e3
          · exact e3
          · omega))
      · show upF fr g _ x = _
        have hxg : x ≠ g := fun e3 => hne (by rw [← e3]; exact hx)
        rw [upF_other _ _ hxg]
    · rw [s0]
      rw [s0] at Hcl
      go_enter Try.func47, Try.ntmps47
      go_wp2_with fail
      refine Hcl.out.mono ?_
      clear Hcl
      rintro x w1 ⟨hx, Fd', F', h1, h2⟩
      obtain rfl : x = thrown 7 := by
        rcases hx with hx | hx
        · exact absurd hx.1 (by decide)
        · exact hx.2
      have H1 : Hid (PD w1 p d m e N Fd' F' (writeD D f.page f.b) bs (clF 7 fr g) ol nw) := h1
      have H2 : Hid (Step F F' w w1) := h2
      clear h1 h2 hx Hlv
      unfold thrown
      go_wp2
      exact ⟨rfl, .inr ⟨by decide, rfl⟩, Fd', F', fr, ol, nw, H1.out, H2.out, fun _ _ => rfl⟩
  | false =>
    rw [hd] at g1
    have e1 : evE D f = 0 := by simp [evE, hd]
    have e2 : evD D f = D := by simp [evD, hd]
    rw [e1, e2]
    clear e1 e2 hd Hcl
    have hl1 := Hlv.out w Fd F _ _ HP.out
    clear Hlv
    go_enter Try.func47, Try.ntmps47
    go_wp2_with (go_at_call 48; refine hl1.mono ?_; rintro x w2 ⟨rfl, hp2, hc2⟩)
    go_end0
    obtain ⟨ol', nw', hp2⟩ := hp2
    exact ⟨.inl ⟨rfl, rfl⟩, Fd, F, fr, ol', nw', hp2, ⟨hc2, fun _ h => .inl h⟩, fun _ _ => rfl⟩
end
end Go.Proofs.Ytojckbhbnalkeaa.Oct
