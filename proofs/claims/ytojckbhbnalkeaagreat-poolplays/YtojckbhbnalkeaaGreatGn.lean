/-
  device.Sync, Read.
-/
import Derived.Test.YtojckbhbnalkeaaGreatGl
import Derived.Test.YtojckbhbnalkeaaGreatGg
import Derived.Deep.WholeRow
namespace Go.Proofs.YtojckbhbnalkeaaGreat.Oct
open Go.RowKit

theorem oc_cases {D : Dv} (h : D.ok) : oc D = 0 ∨ oc D = 1 ∨ oc D = 2 := by
  have := h.bout.at 0
  unfold oc
  omega

/-- What a Read leaves and tells. -/
theorem opR_any {w : World} {p : Nat} {F : Nat → Prop} {D : Dv} (h : Dev w p F D) (hops : D.ops ≤ 4611686018427387904) (q pg : Nat) (hpg : pg < D.n) (hq : ¬ F q) (hq0 : w.cell? ⟨q, 0, none⟩ = some (.pointer (some ⟨p, 0, none⟩))) (hq1 : w.cell? ⟨q, 1, none⟩ = some (.int .i64 pg)) (v : Value) (hq2 : w.cell? ⟨q, 2, none⟩ = some v) (hz2 : w.frozen? ⟨q, 2, none⟩ = false) :
    Calls Tryz.prog 71 #[.pointer (some ⟨p, 0, none⟩), .func (.func 72) #[.pointer (some ⟨q, 0, none⟩)] #[], .func (.func 73) #[] #[]] w fun e w' => (∃ i, e = .returned (.tuple #[.bool (tellsD D), .int .i64 i])) ∧ Dev w' p F (readD D) ∧ Ch w.heap.size (fun k => F k ∨ k = q) w w' ∧
      (tellsD D = true → ∃ g c, w'.cell? ⟨q, 2, none⟩ = some (.slice (some ⟨g, 0, none⟩) 256 c) ∧ Own w.heap.size w' (.slice (some ⟨g, 0, none⟩) 256 c) (pageOf D.now pg)) := by
  have hF := h.2.1
  have hp := h.p
  have hbq : q < w.heap.size := block_lt_of_cell hq0
  cases hd : D.dead with
  | true =>
    refine (op_dead h hd _ _ _ _).mono ?_
    rintro e w' ⟨rfl, hb⟩
    refine ⟨⟨7, by simp [tellsD, hd]⟩, ?_, Ch.of _ hb, by simp [tellsD, hd]⟩
    rw [show readD D = D by simp [readD, hd]]
    exact h.below hb
  | false =>
    by_cases hf : D.fuse = 0
    · refine (op_die_r h hd hf hops q hbq (fun a b => a = b) (fun w1 _ _ _ => (nothing_any w1).mono (fun e w2 h => ⟨h.1, by rw [← h.2]; exact Ch.refl _ _ _, h.2⟩))).mono ?_
      rintro e w' ⟨rfl, w1, w2, hd1, hc1, _, rfl, _, hl⟩
      refine ⟨⟨7, by simp [tellsD, hd, hf]⟩, ?_, (hc1.trans (hl.ch F)).mono (Nat.le_refl _) (fun _ _ e => .inl e), by simp [tellsD, hd, hf]⟩
      rw [show readD D = dieD D by simp [readD, hd, hf]]
      exact hd1.loc hl (fun k hk => .inl (hF k hk))
    · have hdo : ∀ w1, Dev w1 p F (opD D) → Ch w.heap.size F w w1 → w.heap.size + 4 ≤ w1.heap.size → Calls Tryz.prog 72 #[.pointer (some ⟨q, 0, none⟩)] w1 fun e w2 => e = .returned (.tuple #[]) ∧ Ch w1.heap.size (fun k => F k ∨ k = q) w1 w2 ∧ ((∃ g c, w2.cell? ⟨q, 2, none⟩ = some (.slice (some ⟨g, 0, none⟩) 256 c) ∧ Own w1.heap.size w2 (.slice (some ⟨g, 0, none⟩) 256 c) (pageOf D.now pg)) ∧ Ch w1.heap.size (fun k => k = q) w1 w2) :=
        fun w1 h1 hc1 _ => (rdo_any h1 q pg v ((hc1.cell (p := ⟨q, 0, none⟩) hbq hq).trans hq0) ((hc1.cell (p := ⟨q, 1, none⟩) hbq hq).trans hq1) ((hc1.cell (p := ⟨q, 2, none⟩) hbq hq).trans hq2) ((hc1.frozen (p := ⟨q, 2, none⟩) hbq hq).trans hz2) hpg).mono (fun e w2 h => ⟨h.1, h.2.2.mono (Nat.le_refl _) (fun _ _ e => .inr e), h.2.1, h.2.2⟩)
      have fin : ∀ w1 w2 w' : World, Dev w1 p F (opD D) → Ch w.heap.size F w w1 → w.heap.size + 4 ≤ w1.heap.size → ((∃ g c, w2.cell? ⟨q, 2, none⟩ = some (.slice (some ⟨g, 0, none⟩) 256 c) ∧ Own w1.heap.size w2 (.slice (some ⟨g, 0, none⟩) 256 c) (pageOf D.now pg)) ∧ Ch w1.heap.size (fun k => k = q) w1 w2) → LocEq w.heap.size w2 w' →
          Dev w' p F (opD D) ∧ Ch w.heap.size (fun k => F k ∨ k = q) w w' ∧ (∃ g c, w'.cell? ⟨q, 2, none⟩ = some (.slice (some ⟨g, 0, none⟩) 256 c) ∧ Own w.heap.size w' (.slice (some ⟨g, 0, none⟩) 256 c) (pageOf D.now pg)) := fun w1 w2 w' hd1 hc1 hs hr hl => by
        obtain ⟨⟨g, c, hg, ho⟩, hc2⟩ := hr
        have lg := ho.lt2
        refine ⟨(hd1.ch hc2 (fun k hk e => hq (e ▸ hk))).loc hl (fun k hk => .inl (hF k hk)), ?_, g, c, ?_, ?_⟩
        · exact ((hc1.mono (Nat.le_refl _) (fun _ _ e => .inl e)).trans (hc2.mono (by omega) (fun _ _ e => .inr e))).trans (hl.ch _)
        · rw [World.cell?_of_block (w := w2) (a := ⟨q, 2, none⟩) (hl.2.2.2.2 q (.inl hbq))]; exact hg
        · exact owns_base (ho.kept (hl.2.2.2.2 g (.inr (by omega)))) (fun k hk => by simp [Value.ownBlock] at hk; omega)
      rcases oc_cases h.1 with ho | ho | ho
      · refine (op_done0_r h hd hf ho hops q hbq _ hdo).mono ?_
        rintro e w' ⟨rfl, w1, w2, hd1, hc1, hs, hr, _, hl⟩
        obtain ⟨f1, f2, f3⟩ := fin w1 w2 w' hd1 hc1 hs hr hl
        rw [show readD D = opD D by simp [readD, hd, hf], show tellsD D = true by simp [tellsD, hd, hf, ho]]
        exact ⟨⟨_, rfl⟩, f1, f2, fun _ => f3⟩
      · refine (op_fail_r h hd hf ho hops q).mono ?_
        rintro e w' ⟨rfl, hd1, hc1⟩
        rw [show readD D = opD D by simp [readD, hd, hf], show tellsD D = false by simp [tellsD, hd, hf, ho]]
        exact ⟨⟨_, rfl⟩, hd1, hc1.mono (Nat.le_refl _) (fun _ _ e => .inl e), fun h => by cases h⟩
      · refine (op_done2_r h hd hf ho hops q hbq _ hdo).mono ?_
        rintro e w' ⟨rfl, w1, w2, hd1, hc1, hs, hr, _, hl⟩
        obtain ⟨f1, f2, f3⟩ := fin w1 w2 w' hd1 hc1 hs hr hl
        rw [show readD D = opD D by simp [readD, hd, hf], show tellsD D = true by simp [tellsD, hd, hf, ho]]
        exact ⟨⟨_, rfl⟩, f1, f2, fun _ => f3⟩

theorem read_bad {w : World} {p : Nat} {F : Nat → Prop} {D : Dv} (h : Dev w p F D) (pg : Int) (hb : hasB D pg = false) :
    Calls Tryz.prog 37 #[.pointer (some ⟨p, 0, none⟩), .int .i64 pg] w fun e w' => e = .returned (.tuple #[.slice none 0 0, .int .i64 1]) ∧ w = w' := by
  have hm := made_any h
  have hh := has_any h pg
  rw [hb] at hh
  clear h
  go_enter Tryz.func37, Tryz.ntmps37
  go_wp2_with (first | (go_at_call 65; refine hm.mono ?_; rintro e w' ⟨rfl, rfl⟩) | (go_at_call 70; refine hh.mono ?_; rintro e w' ⟨rfl, rfl⟩))
  go_ret2
  exact ⟨rfl, rfl⟩

/-- What a Read answers. -/
def ReadEnd (D : Dv) (pg : Nat) (w : World) (e : Ending) (w' : World) : Prop :=
  if tellsD D = true then ∃ g c, e = .returned (.tuple #[.slice (some ⟨g, 0, none⟩) 256 c, .int .i64 0]) ∧ Own w.heap.size w' (.slice (some ⟨g, 0, none⟩) 256 c) (pageOf D.now pg) else e = .returned (.tuple #[.slice none 0 0, .int .i64 7])

set_option maxHeartbeats 1000000 in
theorem read_any {w : World} {p : Nat} {F : Nat → Prop} {D : Dv} (h : Dev w p F D) (hops : D.ops ≤ 4611686018427387904) (pg : Nat) (hpg : pg < D.n) :
    Calls Tryz.prog 37 #[.pointer (some ⟨p, 0, none⟩), .int .i64 pg] w fun e w' => ReadEnd D pg w e w' ∧ Dev w' p F (readD D) ∧ Ch w.heap.size F w w' := by
  have hm := made_any h
  have hh := has_any h pg
  rw [show hasB D pg = true by simp [hasB]; omega] at hh
  have hF := h.2.1
  have hb0 : Below w.heap.size w (w.alloc (.cells #[.pointer (some ⟨p, 0, none⟩), .int .i64 pg, .slice none 0 0] 94)) := (Below.refl _ w).alloc (Nat.le_refl _) _
  have h0 := h.below hb0
  have ho := opR_any h0 hops w.heap.size pg hpg (fun e => by have := hF _ e; omega) (by simp [go_sem]) (by simp [go_sem]) (.slice none 0 0) (by simp [go_sem]) (by simp [go_sem])
  have hmk := mkf
  have HB0 : Hid _ := hb0
  have HF : Hid (∀ k, F k → k < w.heap.size) := hF
  clear h h0 hF hb0
  cases ht : tellsD D with
  | true =>
    rw [ht] at ho
    go_enter Tryz.func37, Tryz.ntmps37
    go_wp2_with (first | (go_at_call 65; refine hm.mono ?_; rintro e w' ⟨rfl, rfl⟩) | (go_at_call 70; refine hh.mono ?_; rintro e w' ⟨rfl, rfl⟩))
    refine ho.mono ?_
    rintro e w2 ⟨⟨i, rfl⟩, hd, hc, hg⟩
    obtain ⟨g, c, hg1, hg2⟩ := hg (by trivial)
    have HD : Hid (Dev w2 p F (readD D)) := hd
    have HC : Hid (Ch w.heap.size F w w2) := (Ch.of F HB0.out).trans (hc.mono (by simp) (fun k hk e => by rcases e with e | e; exact e; omega))
    have HG : Hid (Own w.heap.size w2 (.slice (some ⟨g, 0, none⟩) 256 c) (pageOf D.now pg)) := owns_base hg2 (fun k hk => by have := World.ownsRow.lt hg2 k hk; simp at this; omega)
    clear hd hc hg hg2 hm hh ho
    go_wp2
    go_ret2
    exact ⟨by unfold ReadEnd; rw [if_pos ht]; exact ⟨g, c, rfl, HG.out⟩, HD.out, HC.out⟩
  | false =>
    rw [ht] at ho
    go_enter Tryz.func37, Tryz.ntmps37
    go_wp2_with (first | (go_at_call 65; refine hm.mono ?_; rintro e w' ⟨rfl, rfl⟩) | (go_at_call 70; refine hh.mono ?_; rintro e w' ⟨rfl, rfl⟩))
    refine ho.mono ?_
    rintro e w2 ⟨⟨i, rfl⟩, hd, hc, _⟩
    have HD : Hid (Dev w2 p F (readD D)) := hd
    have HC : Hid (Ch w.heap.size F w w2) := (Ch.of F HB0.out).trans (hc.mono (by simp) (fun k hk e => by rcases e with e | e; exact e; omega))
    clear hd hc hm hh ho
    go_wp2
    go_ret2
    exact ⟨by unfold ReadEnd; rw [if_neg (by rw [ht]; simp)]; rfl, HD.out, HC.out⟩
end Go.Proofs.YtojckbhbnalkeaaGreat.Oct

/-
  Great structs, made and stored whole: laws behind names at which the walk does not look.
-/
namespace Go.Proofs.YtojckbhbnalkeaaGreat.Oct
open Go.RowKit

theorem fill_off (off : Nat) : ∀ (l : List Value) (k : Nat) (Z : Array Value), off + k + l.length ≤ Z.size → ((l.zipIdx k).foldl (fun (a : Array Value) (x : Value × Nat) => a.setIfInBounds (off + x.2) x.1) Z).toList = Z.toList.take (off + k) ++ l ++ Z.toList.drop (off + k + l.length)
  | [], k, Z, _ => by simp
  | v :: r, k, Z, h => by
    simp only [List.length_cons] at h
    rw [List.zipIdx_cons, List.foldl_cons]
    rw [fill_off off r (k + 1) _ (by simp; omega)]
    have hl : Z.toList.length = Z.size := by simp
    simp only [Array.toList_setIfInBounds, List.length_cons]
    rw [← Nat.add_assoc off k 1, List.take_add_one, List.take_set_of_le (by omega), List.getElem?_set_self (by omega), List.drop_set_of_lt (by omega)]
    simp [Nat.add_assoc, Nat.add_comm 1]

theorem fill_step (place : Nat → Option (Nat × Nat)) (Z : Array Value) (i off size : Nat) (v : Value) (rest : List (Nat × Value)) (hp : place i = some (off, size)) (hs : v.cells.size = size) (hz : off + size ≤ Z.size) :
    Instr.fill place Z ((i, v) :: rest) = Instr.fill place (Z.toList.take off ++ v.cells.toList ++ Z.toList.drop (off + size)).toArray rest := by
  conv => lhs; unfold Instr.fill
  rw [hp]
  show (if (v.cells.size ≠ size || off + v.cells.size > Z.size) = true then none else Instr.fill place _ rest) = _
  rw [if_neg (by rw [hs]; simp; omega)]
  congr 1
  apply Array.ext'
  rw [← Array.foldl_toList, Array.toList_zipIdx]
  have := fill_off off v.cells.toList 0 Z (by simp [hs]; omega)
  rw [show (fun (a : Array Value) (x : Value × Nat) => match x with | (c, j) => a.setIfInBounds (off + j) c) = (fun (a : Array Value) (x : Value × Nat) => a.setIfInBounds (off + x.2) x.1) from rfl, this]
  simp [hs]

theorem build_two {P : Program} (t : TypeId) (f0 f1 : Field) (z : Value) (s0 s1 : Nat) (hu : P.underlying t = some (.struct #[f0, f1])) (hz : ∀ w, (zeroValue t).run P w = .ok z w) (h0 : ∀ w, (sizeOf f0.type).run P w = .ok s0 w) (h1 : ∀ w, (sizeOf f1.type).run P w = .ok s1 w)
    (o0 : f0.offset = 0) (o1 : f1.offset = s0) (hzs : z.cells.size = s0 + s1) (v0 v1 : Value) (c0 : v0.cells.size = s0) (c1 : v1.cells.size = s1) (w : World) : (Instr.build t #[(0, v0), (1, v1)]).run P w = .ok (.agg (v0.cells ++ v1.cells)) w := by
  unfold Instr.build
  simp only [Sem.run_bind, hz, Result.andThen_ok, run_underlying hu]
  simp [h0, h1, o0, o1]
  rw [fill_step _ _ 0 0 s0 v0 _ (by simp) c0 (by omega), fill_step _ _ 1 s0 s1 v1 _ (by simp) c1 (by simp; omega)]
  unfold Instr.fill
  simp [c0]
  omega

theorem parts_of {t n b : Nat} (h : (Tryz.prog.info? t).map (fun i => (i.zero.map (·.cells.size), i.size, i.bytes)) = some (some n, n, b)) : ∃ z, (∀ w, (zeroValue t).run Tryz.prog w = .ok z w) ∧ (∀ w, (sizeOf t).run Tryz.prog w = .ok n w) ∧ z.cells.size = n ∧ (Tryz.prog.info? t).map (·.size) = some n := by
  cases hi : Tryz.prog.info? t with
  | none => rw [hi] at h; simp at h
  | some i =>
    rw [hi] at h
    simp only [Option.map_some, Option.some.injEq, Prod.mk.injEq] at h
    cases hz : i.zero with
    | none => rw [hz] at h; simp at h
    | some z =>
      rw [hz] at h
      simp only [Option.map_some, Option.some.injEq] at h
      exact ⟨z, fun w => by simp [zeroValue, typeInfo, hi, hz], fun w => by simp [sizeOf, typeInfo, hi, h.2.1], h.1, by simp [h.2.1]⟩

theorem size62 : (Tryz.prog.info? 67).map (·.size) = some 256 := by kernel_rfl
theorem inf62 : (Tryz.prog.info? 67).map (fun i => (i.zero.map (·.cells.size), i.size, i.bytes)) = some (some 256, 256, 256) := by kernel_rfl
theorem inf66 : (Tryz.prog.info? 106).map (fun i => (i.zero.map (·.cells.size), i.size, i.bytes)) = some (some 258, 258, 272) := by kernel_rfl
theorem inf23 : (Tryz.prog.info? 25).map (fun i => (i.zero.map (·.cells.size), i.size, i.bytes)) = some (some 1, 1, 8) := by kernel_rfl
theorem inf3 : (Tryz.prog.info? 3).map (fun i => (i.zero.map (·.cells.size), i.size, i.bytes)) = some (some 1, 1, 8) := by kernel_rfl

def LoadA (x : Value) : Sem Value := Instr.loadAt 67 x
theorem loadA_eq (x : Value) : Instr.loadAt 67 x = LoadA x := rfl
def BuildB (ps : Array (Nat × Value)) : Sem Value := Instr.build 104 ps
theorem buildB_eq (ps : Array (Nat × Value)) : Instr.build 104 ps = BuildB ps := rfl
def BuildC (ps : Array (Nat × Value)) : Sem Value := Instr.build 106 ps
theorem buildC_eq (ps : Array (Nat × Value)) : Instr.build 106 ps = BuildC ps := rfl
def AllocC : Sem Value := Instr.alloc 106 true undef
theorem allocC_eq (old : Value) : Instr.alloc 106 true old = AllocC := by simp [AllocC, Instr.alloc]
def StoreC (a v : Value) : Sem Unit := Instr.storeAt 106 a v
theorem storeC_eq (a v : Value) : Instr.storeAt 106 a v = StoreC a v := rfl
def AllocW : Sem Value := Instr.alloc 104 true undef
theorem allocW_eq (old : Value) : Instr.alloc 104 true old = AllocW := by simp [AllocW, Instr.alloc]
def StoreW (a v : Value) : Sem Unit := Instr.storeAt 104 a v
theorem storeW_eq (a v : Value) : Instr.storeAt 104 a v = StoreW a v := rfl

theorem load_a (w : World) (b o : Nat) (cs : List Value) (hl : cs.length = 256) (hr : w.rangeAt b o cs) : (LoadA (.pointer (some ⟨b, o, none⟩))).run Tryz.prog w = .ok (.agg cs.toArray) w :=
  run_loadAt_mid w b o 67 cs _ hr Tryz.underlying67 rfl (by rw [hl]; exact size62)

set_option maxRecDepth 20000 in
theorem build_b (w : World) (pg : Nat) (zs : List Int) (hl : zs.length = 256) : (BuildB #[(0, .int .i64 pg), (1, .agg (zs.map (Value.int .u8)).toArray)]).run Tryz.prog w = .ok (.agg (wcells (pg, zs)).toArray) w := by
  obtain ⟨z, hz, hs, hc, _⟩ := parts_of info64
  obtain ⟨_, _, h3, _⟩ := parts_of inf3
  obtain ⟨_, _, h62, _⟩ := parts_of inf62
  have := build_two 104 _ _ z 1 256 Tryz.underlying104 hz h3 h62 rfl rfl hc (.int .i64 pg) (.agg (zs.map (Value.int .u8)).toArray) rfl (by show (zs.map (Value.int .u8)).toArray.size = 256; simp [hl]) w
  rw [show BuildB #[(0, .int .i64 pg), (1, .agg (zs.map (Value.int .u8)).toArray)] = Instr.build 104 #[(0, .int .i64 pg), (1, .agg (zs.map (Value.int .u8)).toArray)] from rfl, this]
  congr 2
  simp [Value.cells, wcells]

set_option maxRecDepth 20000 in
theorem build_c (w : World) (p : Nat) (cs : List Value) (hl : cs.length = 257) : (BuildC #[(0, .pointer (some ⟨p, 0, none⟩)), (1, .agg cs.toArray)]).run Tryz.prog w = .ok (.agg (.pointer (some ⟨p, 0, none⟩) :: cs).toArray) w := by
  obtain ⟨z, hz, hs, hc, _⟩ := parts_of inf66
  obtain ⟨_, _, h3, _⟩ := parts_of inf23
  obtain ⟨_, _, h64, _⟩ := parts_of info64
  have := build_two 106 _ _ z 1 257 Tryz.underlying106 hz h3 h64 rfl rfl hc (.pointer (some ⟨p, 0, none⟩)) (.agg cs.toArray) rfl (by show cs.toArray.size = 257; simp [hl]) w
  rw [show BuildC #[(0, .pointer (some ⟨p, 0, none⟩)), (1, .agg cs.toArray)] = Instr.build 106 #[(0, .pointer (some ⟨p, 0, none⟩)), (1, .agg cs.toArray)] from rfl, this]
  congr 2
  simp [Value.cells]

theorem alloc_c : ∃ z : Array Value, z.size = 258 ∧ ∀ w, AllocC.run Tryz.prog w = .ok (.pointer (some ⟨w.heap.size, 0, none⟩)) (w.alloc (.cells z 106)) := by
  obtain ⟨z, hz, _, hc, _⟩ := parts_of inf66
  exact ⟨z.cells, hc, fun w => by simp [AllocC, Instr.alloc, hz, newVar, newRow]⟩
theorem alloc_w : ∃ z : Array Value, z.size = 257 ∧ ∀ w, AllocW.run Tryz.prog w = .ok (.pointer (some ⟨w.heap.size, 0, none⟩)) (w.alloc (.cells z 104)) := by
  obtain ⟨z, hz, _, hc, _⟩ := parts_of info64
  exact ⟨z.cells, hc, fun w => by simp [AllocW, Instr.alloc, hz, newVar, newRow]⟩

theorem store_c (w : World) (z : Array Value) (cs : List Value) (hz : z.size = 258) (hl : cs.length = 258) (h1 : ∀ v ∈ cs, v.oneCell' = true) : (StoreC (.pointer (some ⟨w.heap.size, 0, none⟩)) (.agg cs.toArray)).run Tryz.prog (w.alloc (.cells z 106)) = .ok () (w.alloc (.cells cs.toArray 106)) := by
  obtain ⟨_, _, _, _, hs⟩ := parts_of inf66
  have := run_storeVar_new (P := Tryz.prog) w 106 z cs.toArray (by rw [hs]; simp [hl]) (by simp [hz, hl]) (all_oneCell_toArray h1)
  simp only [StoreC, Instr.storeAt, Instr.sureAddr, Sem.run_bind, Sem.run_pure, Result.andThen_ok, this]
theorem store_w (w : World) (z : Array Value) (cs : List Value) (hz : z.size = 257) (hl : cs.length = 257) (h1 : ∀ v ∈ cs, v.oneCell' = true) : (StoreW (.pointer (some ⟨w.heap.size, 0, none⟩)) (.agg cs.toArray)).run Tryz.prog (w.alloc (.cells z 104)) = .ok () (w.alloc (.cells cs.toArray 104)) := by
  obtain ⟨_, _, _, _, hs⟩ := parts_of info64
  have := run_storeVar_new (P := Tryz.prog) w 104 z cs.toArray (by rw [hs]; simp [hl]) (by simp [hz, hl]) (all_oneCell_toArray h1)
  simp only [StoreW, Instr.storeAt, Instr.sureAddr, Sem.run_bind, Sem.run_pure, Result.andThen_ok, this]
end Go.Proofs.YtojckbhbnalkeaaGreat.Oct

/-
  device.Write.
-/
namespace Go.Proofs.YtojckbhbnalkeaaGreat.Oct
open Go.RowKit
attribute [local go_sem ↓] loadA_eq buildB_eq buildC_eq allocC_eq storeC_eq

theorem opW_any {w : World} {p : Nat} {F : Nat → Prop} {D : Dv} (h : Dev w p F D) (hops : D.ops ≤ 4611686018427387904) (hs : D.since.length ≤ 1000000) (q pg : Nat) (b : List Int) (hpg : pg < D.n) (hb : b.length = 256) (hby : Bys b) (hq : ¬ F q) (hq0 : w.cell? ⟨q, 0, none⟩ = some (.pointer (some ⟨p, 0, none⟩))) (hw : WriteAt w q 1 pg b) :
    Calls Tryz.prog 71 #[.pointer (some ⟨p, 0, none⟩), .func (.func 87) #[.pointer (some ⟨q, 0, none⟩)] #[], .func (.func 87) #[.pointer (some ⟨q, 0, none⟩)] #[]] w fun e w' => (∃ b, e = .returned (.tuple #[.bool b, .int .i64 (saysD D)])) ∧ ∃ F', Dev w' p F' (writeD D pg b) ∧ Step F F' w w' := by
  have hF := h.2.1
  have hp := h.p
  have hbq : q < w.heap.size := block_lt_of_cell hq0
  have hdo : ∀ (D1 : Dv) w1, D1.n = D.n → D1.since = D.since → Dev w1 p F D1 → Ch w.heap.size F w w1 → w.heap.size + 4 ≤ w1.heap.size → Calls Tryz.prog 87 #[.pointer (some ⟨q, 0, none⟩)] w1 fun e w2 => e = .returned (.tuple #[]) ∧ Ch w1.heap.size (fun k => F k ∨ k = q) w1 w2 ∧ ∃ F', Dev w2 p F' (wrD D1 pg b) ∧ Step F F' w1 w2 :=
    fun D1 w1 e1 e2 h1 hc1 _ => (wdo_any h1 q pg b ((hc1.cell (p := ⟨q, 0, none⟩) hbq hq).trans hq0) ⟨(hc1.cell (p := ⟨q, 1, none⟩) hbq hq).trans hw.1, fun i hi => (hc1.cell (p := ⟨q, 1 + 1 + i, none⟩) hbq hq).trans (hw.2 i hi)⟩ hb hby (by rw [e1]; exact hpg) hq (by rw [e2]; exact hs)).mono (fun e w2 h => by
      obtain ⟨h1, F', h2, h3⟩ := h
      exact ⟨h1, h3.1.mono (Nat.le_refl _) (fun _ _ e => .inl e), F', h2, h3⟩)
  have fin : ∀ (D1 : Dv) (w1 w2 w' : World), Ch w.heap.size F w w1 → w.heap.size + 4 ≤ w1.heap.size → (∃ F', Dev w2 p F' (wrD D1 pg b) ∧ Step F F' w1 w2) → LocEq w.heap.size w2 w' → ∃ F', Dev w' p F' (wrD D1 pg b) ∧ Step F F' w w' := fun D1 w1 w2 w' hc1 hs1 hr hl => by
    obtain ⟨F', h2, h3⟩ := hr
    refine ⟨F', h2.loc hl (fun k hk => ?_), (hc1.trans (h3.1.mono (by omega) (fun _ _ e => e))).trans (hl.ch F), fun k hk => ?_⟩
    · rcases h3.2 k hk with e | e
      · exact .inl (hF k e)
      · exact .inr (by omega)
    · rcases h3.2 k hk with e | e
      · exact .inl e
      · exact .inr (by omega)
  cases hd : D.dead with
  | true =>
    refine (op_dead h hd _ _ _ _).mono ?_
    rintro e w' ⟨rfl, hb⟩
    refine ⟨⟨false, by simp [saysD, hd]⟩, F, ?_, Ch.of F hb, fun _ h => .inl h⟩
    rw [show writeD D pg b = D by simp [writeD, hd]]
    exact h.below hb
  | false =>
    by_cases hf : D.fuse = 0
    · refine (op_die_w h hd hf hops q hbq _ (fun w1 h1 hc1 hs1 => hdo (dieD D) w1 rfl rfl h1 hc1 hs1)).mono ?_
      rintro e w' ⟨rfl, w1, w2, hd1, hc1, hs1, hr, _, hl⟩
      rw [show writeD D pg b = wrD (dieD D) pg b by simp [writeD, hd, hf]]
      exact ⟨⟨false, by simp [saysD, hd, hf]⟩, fin _ w1 w2 w' hc1 hs1 hr hl⟩
    · rcases oc_cases h.1 with ho | ho | ho
      · refine (op_done0_w h hd hf ho hops q hbq _ (fun w1 h1 hc1 hs1 => hdo (opD D) w1 rfl rfl h1 hc1 hs1)).mono ?_
        rintro e w' ⟨rfl, w1, w2, hd1, hc1, hs1, hr, _, hl⟩
        rw [show writeD D pg b = wrD (opD D) pg b by simp [writeD, hd, hf, ho]]
        exact ⟨⟨true, by simp [saysD, hd, hf, ho]⟩, fin _ w1 w2 w' hc1 hs1 hr hl⟩
      · refine (op_fail_w h hd hf ho hops q).mono ?_
        rintro e w' ⟨rfl, hd1, hc1⟩
        rw [show writeD D pg b = opD D by simp [writeD, hd, hf, ho]]
        exact ⟨⟨false, by simp [saysD, hd, hf, ho]⟩, F, hd1, hc1, fun _ h => .inl h⟩
      · refine (op_done2_w h hd hf ho hops q hbq _ (fun w1 h1 hc1 hs1 => hdo (opD D) w1 rfl rfl h1 hc1 hs1)).mono ?_
        rintro e w' ⟨rfl, w1, w2, hd1, hc1, hs1, hr, _, hl⟩
        rw [show writeD D pg b = wrD (opD D) pg b by simp [writeD, hd, hf, ho]]
        exact ⟨⟨true, by simp [saysD, hd, hf, ho]⟩, fin _ w1 w2 w' hc1 hs1 hr hl⟩

theorem write_bad {w : World} {p : Nat} {F : Nat → Prop} {D : Dv} (h : Dev w p F D) (pg : Int) (a : Option Addr) (len cap : Nat) (hb : (hasB D pg && decide (len = 256)) = false) :
    Calls Tryz.prog 81 #[.pointer (some ⟨p, 0, none⟩), .int .i64 pg, .slice a len cap] w fun e w' => e = .returned (.int .i64 1) ∧ w = w' := by
  have hm := made_any h
  have hh := has_any h pg
  clear h
  cases hhas : hasB D pg with
  | false =>
    rw [hhas] at hh
    go_enter Tryz.func81, Tryz.ntmps81
    go_wp2_with (first | (go_at_call 65; refine hm.mono ?_; rintro e w' ⟨rfl, rfl⟩) | (go_at_call 70; refine hh.mono ?_; rintro e w' ⟨rfl, rfl⟩))
    go_ret
    exact ⟨rfl, rfl⟩
  | true =>
    rw [hhas] at hh hb
    have hl : ((len : Int) != 256) = true := by
      have : ¬ len = 256 := by simpa using hb
      simp; omega
    clear hb hhas
    go_enter Tryz.func81, Tryz.ntmps81
    go_wp2_with (first | (go_at_call 65; refine hm.mono ?_; rintro e w' ⟨rfl, rfl⟩) | (go_at_call 70; refine hh.mono ?_; rintro e w' ⟨rfl, rfl⟩))
    go_ret
    exact ⟨rfl, rfl⟩

theorem row_range {w : World} {b o cap : Nat} {zs : List Int} (h : Row w (some ⟨b, o, none⟩) cap zs) : w.rangeAt b o (zs.map (Value.int .u8)) := by
  intro j v hj
  have := row_news h j v hj
  rwa [Addr.add_mid] at this

set_option maxHeartbeats 1000000 in
theorem write_any {w : World} {p : Nat} {F : Nat → Prop} {D : Dv} (h : Dev w p F D) (hops : D.ops ≤ 4611686018427387904) (hs : D.since.length ≤ 1000000) (pg : Nat) (hpg : pg < D.n) (ad : Option Addr) (cap : Nat) (b : List Int) (hr : Row w ad cap b) (hb : b.length = 256) :
    Calls Tryz.prog 81 #[.pointer (some ⟨p, 0, none⟩), .int .i64 pg, .slice ad 256 cap] w fun e w' => e = .returned (.int .i64 (saysD D)) ∧ ∃ F', Dev w' p F' (writeD D pg b) ∧ Step F F' w w' := by
  have hm := made_any h
  have hh := has_any h pg
  rw [show hasB D pg = true by simp [hasB]; omega] at hh
  have hF := h.2.1
  have hby := hr.1
  obtain ⟨rb, ro, rfl⟩ := hr.some' (by omega)
  have rA := load_a w rb ro (b.map (Value.int .u8)) (by simp [hb]) (row_range hr)
  have rT : (Instr.arrayAt 67 (.slice (some ⟨rb, ro, none⟩) 256 cap)).run Tryz.prog w = .ok (.pointer (some ⟨rb, ro, none⟩)) w := by simp [Instr.arrayAt, run_underlying Tryz.underlying67]
  have rB := build_b w pg b hb
  have hwl := wcells_len (x := (pg, b)) hb
  obtain ⟨cs, hcs⟩ : ∃ cs, wcells (pg, b) = cs := ⟨_, rfl⟩
  rw [hcs] at rB hwl
  have rC := build_c w p cs hwl
  obtain ⟨z, hz, rD⟩ := alloc_c
  have rD' := rD w
  have h1 : ∀ v ∈ (Value.pointer (some ⟨p, 0, none⟩) :: cs), v.oneCell' = true := by
    intro v hv
    rcases List.mem_cons.1 hv with rfl | hv
    · rfl
    · rw [← hcs] at hv; exact wcells_one _ v hv
  have rE := store_c w z (.pointer (some ⟨p, 0, none⟩) :: cs) hz (by simp [hwl]) h1
  obtain ⟨bs, hbs⟩ : ∃ bs, (b.map (Value.int .u8)).toArray = bs := ⟨_, rfl⟩
  rw [hbs] at rA rB
  obtain ⟨ca, hca⟩ : ∃ ca, cs.toArray = ca := ⟨_, rfl⟩
  rw [hca] at rB rC
  obtain ⟨ds, hds⟩ : ∃ ds, (Value.pointer (some ⟨p, 0, none⟩) :: cs).toArray = ds := ⟨_, rfl⟩
  rw [hds] at rC rE
  have hb0 : Below w.heap.size w (w.alloc (.cells ds 106)) := (Below.refl _ w).alloc (Nat.le_refl _) _
  have h0 := h.below hb0
  have hrange : (w.alloc (.cells ds 106)).rangeAt w.heap.size 0 (.pointer (some ⟨p, 0, none⟩) :: cs) := by
    intro j v hj
    rw [Nat.zero_add, cell_of_row _ _ j ds _ (0, 0) (heap_alloc_new w _), ← hds]
    simpa using hj
  have hwat : WriteAt (w.alloc (.cells ds 106)) w.heap.size 1 pg b := by
    refine WriteAt.of_range hb ?_
    rw [hcs]
    intro j v hj
    have := hrange (j + 1) v (by simpa using hj)
    rwa [show 0 + (j + 1) = 1 + j by omega] at this
  have ho := opW_any h0 hops hs w.heap.size pg b hpg hb hby (fun e => by have := hF _ e; omega) (hrange 0 _ rfl) hwat
  have hmk := mkf
  have HB0 : Hid (Below w.heap.size w (w.alloc (.cells ds 106))) := hb0
  clear h h0 hF hb0 hrange hwat hcs hwl rD hz h1 hbs hca hds hr hb
  go_enter Tryz.func81, Tryz.ntmps81
  go_wp2_with (first | (go_at_call 65; refine hm.mono ?_; rintro e w' ⟨rfl, rfl⟩) | (go_at_call 70; refine hh.mono ?_; rintro e w' ⟨rfl, rfl⟩))
  refine ho.mono ?_
  rintro e w2 ⟨⟨i, rfl⟩, F', hd, hst⟩
  have HD : Hid (Dev w2 p F' (writeD D pg b)) := hd
  have HS : Hid (Step F F' w w2) := ⟨(Ch.of F HB0.out).trans (hst.1.mono (by simp) (fun _ _ e => e)), fun k hk => by rcases hst.2 k hk with e | e; exact .inl e; exact .inr (by simp at e; omega)⟩
  clear hd hst hm hh ho
  go_wp2
  go_ret
  exact ⟨rfl, F', HD.out, HS.out⟩
end Go.Proofs.YtojckbhbnalkeaaGreat.Oct
