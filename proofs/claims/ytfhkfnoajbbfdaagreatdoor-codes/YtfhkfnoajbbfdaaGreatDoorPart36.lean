import Derived.Test.YtfhkfnoajbbfdaaGreatDoorPart35
import Derived.Test.YtfhkfnoajbbfdaaGreatDoorPart21
import Derived.Laws.MakeOwn
/- The document's machine, as it lies. -/
namespace Go.Proofs.YtfhkfnoajbbfdaaGreatDoor
open Go.RowKit

/-- The cells of an instruction. -/
def insCells (ic : Ic) : List Value := [.string (dOf ic).word, .int .i64 (dOf ic).d, .bool (dOf ic).a.reg, .int .i64 (dOf ic).a.v, .bool (dOf ic).b.reg, .int .i64 (dOf ic).b.v, .bool (dOf ic).c.reg, .int .i64 (dOf ic).c.v, .int .i64 (dOf ic).k]

def waitCells (q : List (Int × Int)) : List Value := q.flatMap fun p => [.int .i64 p.1, .int .i64 p.2]

/-- A thread of the document's machine: its blocks and rows, what it is. -/
structure CT where
  b : Nat
  rb : Nat
  cv : Value
  wv : Value
  ov : Value
  T : Th
  code : List Ic

structure CThAt (w : World) (t : CT) : Prop where
  sh : w.shape? t.b = some (93, 6)
  codec : w.cell? ⟨t.b, 0, none⟩ = some t.cv
  crow : w.ownsRow 0 127 9 t.cv t.code.length (t.code.flatMap insCells)
  pc : w.cell? ⟨t.b, 1, none⟩ = some (.int .i64 t.T.pl)
  regs : w.cell? ⟨t.b, 2, none⟩ = some (.slice (some ⟨t.rb, 0, none⟩) 8 8)
  rsh : w.shape? t.rb = some (2, 8)
  rcell : ∀ j, j < 8 → w.cell? ⟨t.rb, j, none⟩ = some (.int .i64 (t.T.r j))
  rfree : ∀ j, j < 8 → w.frozen? ⟨t.rb, j, none⟩ = false
  waits : w.cell? ⟨t.b, 3, none⟩ = some t.wv
  wrow : w.ownsRow 0 116 2 t.wv t.T.q.length (waitCells t.T.q)
  outc : w.cell? ⟨t.b, 4, none⟩ = some t.ov
  orow : w.ownsRow 0 2 1 t.ov t.T.out.length (t.T.out.map (Value.int .i64))
  state : w.cell? ⟨t.b, 5, none⟩ = some (.int .i64 t.T.st)
  free : ∀ j, j < 6 → w.frozen? ⟨t.b, j, none⟩ = false

/-- Each block of a machine has its label: so no two are one. -/
structure LabT (D : Nat → Prop) (lab : Nat → Nat × Nat) (i : Nat) (t : CT) : Prop where
  b : lab t.b = (i + 1, 0) ∧ D t.b
  rb : lab t.rb = (i + 1, 1) ∧ D t.rb
  cv : ∀ g, t.cv.ownBlock = some g → lab g = (i + 1, 2) ∧ D g
  wv : ∀ g, t.wv.ownBlock = some g → lab g = (i + 1, 3) ∧ D g
  ov : ∀ g, t.ov.ownBlock = some g → lab g = (i + 1, 4) ∧ D g

structure CMach (D : Nat → Prop) (lab : Nat → Nat × Nat) (w : World) (bm mb : Nat) (tv : Value) (m : Nat → Int) (ts : List CT) : Prop where
  sh : w.shape? bm = some (61, 2)
  memc : w.cell? ⟨bm, 0, none⟩ = some (.slice (some ⟨mb, 0, none⟩) 256 256)
  tc : w.cell? ⟨bm, 1, none⟩ = some tv
  free : ∀ j, j < 2 → w.frozen? ⟨bm, j, none⟩ = false
  msh : w.shape? mb = some (2, 256)
  mcell : ∀ j, j < 256 → w.cell? ⟨mb, j, none⟩ = some (.int .i64 (m j))
  mfree : ∀ j, j < 256 → w.frozen? ⟨mb, j, none⟩ = false
  trow : w.ownsRow 0 94 1 tv ts.length (ts.map fun t => ptr t.b)
  th : ∀ i (h : i < ts.length), CThAt w ts[i]
  lb : lab bm = (0, 0) ∧ D bm
  lm : lab mb = (0, 1) ∧ D mb
  lt : ∀ g, tv.ownBlock = some g → lab g = (0, 2) ∧ D g
  lts : ∀ i (h : i < ts.length), LabT D lab i ts[i]

theorem CThAt.keep {w w' : World} {t : CT} {M : Nat → Nat → Prop} (h : CThAt w t) (hc : Chg M w w') (hb : ∀ i, ¬ M t.b i) (hr : ∀ i, ¬ M t.rb i) (hcv : ∀ g, t.cv.ownBlock = some g → ∀ i, ¬ M g i) (hwv : ∀ g, t.wv.ownBlock = some g → ∀ i, ¬ M g i) (hov : ∀ g, t.ov.ownBlock = some g → ∀ i, ¬ M g i) : CThAt w' t := by
  have lb := lt_of_shape h.sh
  have lr := lt_of_shape h.rsh
  exact {
    sh := (hc.shape _ lb).trans h.sh
    codec := (hc.cell _ _ lb (hb 0)).trans h.codec
    crow := ownsRow_chg h.crow hc hcv
    pc := (hc.cell _ _ lb (hb 1)).trans h.pc
    regs := (hc.cell _ _ lb (hb 2)).trans h.regs
    rsh := (hc.shape _ lr).trans h.rsh
    rcell := fun j hj => (hc.cell _ _ lr (hr j)).trans (h.rcell j hj)
    rfree := fun j hj => (hc.frozen _ _ lr).trans (h.rfree j hj)
    waits := (hc.cell _ _ lb (hb 3)).trans h.waits
    wrow := ownsRow_chg h.wrow hc hwv
    outc := (hc.cell _ _ lb (hb 4)).trans h.outc
    orow := ownsRow_chg h.orow hc hov
    state := (hc.cell _ _ lb (hb 5)).trans h.state
    free := fun j hj => (hc.frozen _ _ lb).trans (h.free j hj) }

/-- What turns none of a machine's blocks leaves the machine. -/
theorem CMach.keep {D : Nat → Prop} {lab : Nat → Nat × Nat} {w w' : World} {bm mb : Nat} {tv : Value} {m : Nat → Int} {ts : List CT} {M : Nat → Nat → Prop} (h : CMach D lab w bm mb tv m ts) (hc : Chg M w w') (hM : ∀ k i, D k → ¬ M k i) : CMach D lab w' bm mb tv m ts := by
  have lb := lt_of_shape h.sh
  have lm := lt_of_shape h.msh
  exact {
    sh := (hc.shape _ lb).trans h.sh
    memc := (hc.cell _ _ lb (hM _ _ h.lb.2)).trans h.memc
    tc := (hc.cell _ _ lb (hM _ _ h.lb.2)).trans h.tc
    free := fun j hj => (hc.frozen _ _ lb).trans (h.free j hj)
    msh := (hc.shape _ lm).trans h.msh
    mcell := fun j hj => (hc.cell _ _ lm (hM _ _ h.lm.2)).trans (h.mcell j hj)
    mfree := fun j hj => (hc.frozen _ _ lm).trans (h.mfree j hj)
    trow := ownsRow_chg h.trow hc (fun g hg i => hM _ _ (h.lt g hg).2)
    th := fun i hi => (h.th i hi).keep hc (fun _ => hM _ _ (h.lts i hi).b.2) (fun _ => hM _ _ (h.lts i hi).rb.2) (fun g hg _ => hM _ _ ((h.lts i hi).cv g hg).2) (fun g hg _ => hM _ _ ((h.lts i hi).wv g hg).2) (fun g hg _ => hM _ _ ((h.lts i hi).ov g hg).2)
    lb := h.lb
    lm := h.lm
    lt := h.lt
    lts := h.lts }

theorem CMach.below {D : Nat → Prop} {lab : Nat → Nat × Nat} {w w' : World} {bm mb : Nat} {tv : Value} {m : Nat → Int} {ts : List CT} (h : CMach D lab w bm mb tv m ts) (hb : Below w.heap.size w w') : CMach D lab w' bm mb tv m ts :=
  h.keep (M := fun _ _ => False) (Chg.of_below hb) (fun _ _ _ e => e)

/-- Noughts. -/
def zeros (n : Nat) : Array Value := madeCells #[.int .i64 0] n
theorem zeros_size (n : Nat) : (zeros n).size = n := size_madeCells _ _
theorem zeros_get (n j : Nat) (h : j < n) : (zeros n)[j]? = some (.int .i64 0) := by
  unfold zeros madeCells
  simp [h, Nat.mod_one]
theorem make_zeros (n : Nat) (hn : n ≤ 1000) (w : World) : (Instr.makeSlice 34 (.int .i64 n) (.int .i64 n)).run Tryz.prog w = .ok (.slice (some ⟨w.heap.size, 0, none⟩) n n) (w.alloc (.cells (zeros n) 2)) := by
  obtain ⟨i0, hi, hz0, hz1, hz2⟩ := info_parts infoInt64
  have := run_make (P := Tryz.prog) w 34 2 i0 (.int .i64 0) Tryz.underlying34 hi hz0 .i64 .i64 n n (by omega) (Int.le_refl _) (by rw [hz2]; omega) (by omega)
  rw [this, hz1]
  simp [zeros]
  rfl

theorem nilRow9 (w : World) (t : TypeId) : w.ownsRow 0 t 9 (.slice none 0 0) 0 [] := ⟨rfl, .inl ⟨rfl, rfl⟩⟩

/-- The new thread of a code. -/
def ctNew (b rb : Nat) : CT := ⟨b, rb, .slice none 0 0, .slice none 0 0, .slice none 0 0, Th.init, []⟩

/-- The world with a new thread's blocks, ahead of the row's growing. -/
def newW (w : World) : World := (((w.alloc (.cells (zeros 8) 2)).alloc (.cells #[.slice none 0 0, .int .i64 0, .slice (some ⟨w.heap.size, 0, none⟩) 8 8, .slice none 0 0, .slice none 0 0, .int .i64 0] 93)).alloc (.cells #[ptr (w.heap.size + 1)] 94)).drew

theorem newW_size (w : World) : (newW w).heap.size = w.heap.size + 3 := by simp [newW]
theorem newW_chg (w : World) : Chg (fun _ _ => False) w (newW w) := ((((Chg.refl _ w).alloc _).alloc _).alloc _).drew
theorem newW_th (w : World) (o : Nat) (v : Value) (h : (#[Value.slice none 0 0, .int .i64 0, .slice (some ⟨w.heap.size, 0, none⟩) 8 8, .slice none 0 0, .slice none 0 0, .int .i64 0])[o]? = some v) : (newW w).cell? ⟨w.heap.size + 1, o, none⟩ = some v := by
  have hs : (w.alloc (.cells (zeros 8) 2)).heap.size = w.heap.size + 1 := by simp
  have := World.cell?_alloc_new (w.alloc (.cells (zeros 8) 2)) #[.slice none 0 0, .int .i64 0, .slice (some ⟨w.heap.size, 0, none⟩) 8 8, .slice none 0 0, .slice none 0 0, .int .i64 0] 93 o
  rw [hs] at this
  exact (World.cell?_alloc_past _ _ _ (by simp)).trans (this.trans h)
theorem newW_sh (w : World) : (newW w).shape? (w.heap.size + 1) = some (93, 6) := by
  have hs : (w.alloc (.cells (zeros 8) 2)).heap.size = w.heap.size + 1 := by simp
  have := shape_new (w.alloc (.cells (zeros 8) 2)) #[.slice none 0 0, .int .i64 0, .slice (some ⟨w.heap.size, 0, none⟩) 8 8, .slice none 0 0, .slice none 0 0, .int .i64 0] 93
  rw [hs] at this
  exact (shape_of_block (Below.heap_alloc _ _ _ (by simp))).trans this
theorem newW_fr (w : World) (o : Nat) : (newW w).frozen? ⟨w.heap.size + 1, o, none⟩ = false := by
  have hs : (w.alloc (.cells (zeros 8) 2)).heap.size = w.heap.size + 1 := by simp
  refine (World.frozen?_alloc_past _ _ _ (by simp)).trans ?_
  rw [← hs]
  simp
theorem newW_rg (w : World) (j : Nat) (h : j < 8) : (newW w).cell? ⟨w.heap.size, j, none⟩ = some (.int .i64 0) :=
  (World.cell?_alloc_past _ _ _ (by simp; omega)).trans ((World.cell?_alloc_past _ _ _ (by simp)).trans ((World.cell?_alloc_new w _ _ j).trans (zeros_get 8 j h)))
theorem newW_rs (w : World) : (newW w).shape? w.heap.size = some (2, 8) :=
  (shape_of_block (Below.heap_alloc _ _ _ (by simp; omega))).trans ((shape_of_block (Below.heap_alloc _ _ _ (by simp))).trans ((shape_new w _ _).trans (by rw [zeros_size])))
theorem newW_rf (w : World) (j : Nat) : (newW w).frozen? ⟨w.heap.size, j, none⟩ = false :=
  (World.frozen?_alloc_past _ _ _ (by simp; omega)).trans ((World.frozen?_alloc_past _ _ _ (by simp)).trans (by simp))
theorem newW_own {w : World} {e : TypeId} {v : Value} {n : Nat} {xs : List Value} (h : w.ownsRow 0 e 1 v n xs) : (newW w).ownsRow 0 e 1 v n xs := ownsRow_chg h (newW_chg w) (fun _ _ _ e => e)
theorem newW_one (w : World) : ∀ j u', [ptr (w.heap.size + 1)][j]? = some u' → (newW w).cell? ((⟨w.heap.size + 1 + 1, 0, none⟩ : Addr).add j) = some u' := by
  have hs : ((w.alloc (.cells (zeros 8) 2)).alloc (.cells #[.slice none 0 0, .int .i64 0, .slice (some ⟨w.heap.size, 0, none⟩) 8 8, .slice none 0 0, .slice none 0 0, .int .i64 0] 93)).heap.size = w.heap.size + 1 + 1 := by simp
  have := cell_one_new ((w.alloc (.cells (zeros 8) 2)).alloc (.cells #[.slice none 0 0, .int .i64 0, .slice (some ⟨w.heap.size, 0, none⟩) 8 8, .slice none 0 0, .slice none 0 0, .int .i64 0] 93)) (ptr (w.heap.size + 1)) 94
  rw [hs] at this
  exact this

theorem own_ne {D : Nat → Prop} {lab : Nat → Nat × Nat} {v : Value} {l l' : Nat × Nat} {k : Nat} (h : ∀ g, v.ownBlock = some g → lab g = l ∧ D g) (hk : lab k = l') (hl : l' ≠ l) : ¬ v.ownBlock = some k := fun e => hl (hk.symm.trans (h k e).1)

theorem cmach_thread {D : Nat → Prop} {lab : Nat → Nat × Nat} {w w3 : World} {bm mb q cp : Nat} {tv : Value} {m : Nat → Int} {ts : List CT} (h : CMach D lab w bm mb tv m ts) (hD : ∀ k, w.heap.size ≤ k → D k)
    (ho : w3.ownsRow 0 94 1 (.slice (some ⟨q, 0, none⟩) (ts.length + 1) cp) (ts.length + 1) ((ts.map fun t => ptr t.b) ++ [ptr (w.heap.size + 1)]))
    (hc : Chg (fun k _ => tv.ownBlock = some k) (newW w) w3) (hg : tv.ownBlock = some q ∨ q = (newW w).heap.size) :
    ∃ lab', CMach D lab' (w3.setCell ⟨bm, 1, none⟩ (.slice (some ⟨q, 0, none⟩) (ts.length + 1) cp)) bm mb (.slice (some ⟨q, 0, none⟩) (ts.length + 1) cp) m (ts ++ [ctNew (w.heap.size + 1) w.heap.size]) ∧ Chg (fun k _ => D k) w (w3.setCell ⟨bm, 1, none⟩ (.slice (some ⟨q, 0, none⟩) (ts.length + 1) cp)) := by
  have hn3 := newW_size w
  have lbm := lt_of_shape h.sh
  have lmb := lt_of_shape h.msh
  have htl : ∀ k, tv.ownBlock = some k → k < w.heap.size := fun k hk => (h.trow.lt k hk).2
  have hset : Chg (fun k i => k = bm ∧ i = 1) w3 (w3.setCell ⟨bm, 1, none⟩ (.slice (some ⟨q, 0, none⟩) (ts.length + 1) cp)) := (Chg.refl (fun k i => k = bm ∧ i = 1) w3).setCell (b := bm) (o := 1) (fun _ => ⟨rfl, rfl⟩) _
  have hw3 : Chg (fun k _ => tv.ownBlock = some k) w w3 := ((newW_chg w).mono (fun _ _ _ e => e.elim)).trans hc
  have hall : Chg (fun k i => tv.ownBlock = some k ∨ (k = bm ∧ i = 1)) w (w3.setCell ⟨bm, 1, none⟩ (.slice (some ⟨q, 0, none⟩) (ts.length + 1) cp)) := (hw3.mono (fun _ _ _ e => .inl e)).trans (hset.mono (fun _ _ _ e => .inr e))
  have hs3 : w.heap.size + 3 ≤ w3.heap.size := by have := hc.size; omega
  generalize hW : w3.setCell ⟨bm, 1, none⟩ (.slice (some ⟨q, 0, none⟩) (ts.length + 1) cp) = W at *
  -- what is new
  have new : ∀ k, w.heap.size ≤ k → k < w.heap.size + 3 → ∀ o, W.cell? ⟨k, o, none⟩ = (newW w).cell? ⟨k, o, none⟩ := fun k h1 h2 o => (hset.cell k o (by omega) (by omega)).trans (hc.cell k o (by omega) (fun e => by have := htl k e; omega))
  have newS : ∀ k, k < w.heap.size + 3 → W.shape? k = (newW w).shape? k := fun k h2 => (hset.shape k (by omega)).trans (hc.shape k (by omega))
  have newF : ∀ k, k < w.heap.size + 3 → ∀ o, W.frozen? ⟨k, o, none⟩ = (newW w).frozen? ⟨k, o, none⟩ := fun k h2 o => (hset.frozen k o (by omega)).trans (hc.frozen k o (by omega))
  let lab' : Nat → Nat × Nat := fun k => if k = w.heap.size then (ts.length + 1, 1) else if k = w.heap.size + 1 then (ts.length + 1, 0) else if k = q then (0, 2) else lab k
  have hold : ∀ k, k < w.heap.size → lab' k = lab k := by
    intro k hk
    show (if k = w.heap.size then _ else if k = w.heap.size + 1 then _ else if k = q then _ else _) = _
    rw [if_neg (by omega), if_neg (by omega)]
    by_cases e : k = q
    · rw [if_pos e]
      rcases hg with hg | hg
      · rw [e]; exact ((h.lt q hg).1).symm
      · omega
    · rw [if_neg e]
  have hqn : q ≠ w.heap.size ∧ q ≠ w.heap.size + 1 := by
    rcases hg with hg | hg
    · have := htl q hg; omega
    · omega
  have hqb : q ≠ bm := by
    rcases hg with hg | hg
    · intro e; exact own_ne h.lt h.lb.1 (by decide) (e ▸ hg)
    · omega
  have labs : ∀ i (hi : i < ts.length), LabT D lab' i ts[i] := fun i hi => by
    have l := h.lts i hi
    have t := h.th i hi
    exact ⟨⟨(hold _ (lt_of_shape t.sh)).trans l.b.1, l.b.2⟩, ⟨(hold _ (lt_of_shape t.rsh)).trans l.rb.1, l.rb.2⟩, fun g hg => ⟨(hold _ (t.crow.lt g hg).2).trans (l.cv g hg).1, (l.cv g hg).2⟩, fun g hg => ⟨(hold _ (t.wrow.lt g hg).2).trans (l.wv g hg).1, (l.wv g hg).2⟩, fun g hg => ⟨(hold _ (t.orow.lt g hg).2).trans (l.ov g hg).1, (l.ov g hg).2⟩⟩
  have notM : ∀ k l, lab k = l → l ≠ (0, 2) → l ≠ (0, 0) → ∀ i, ¬ (tv.ownBlock = some k ∨ (k = bm ∧ i = 1)) := by
    rintro k l hk h1 h2 i (e | ⟨e, _⟩)
    · exact own_ne h.lt hk h1 e
    · exact h2 (hk.symm.trans (e ▸ h.lb.1))
  refine ⟨lab', ⟨(hall.shape _ lbm).trans h.sh, (hall.cell _ _ lbm ?_).trans h.memc, ?_, fun j hj => (hall.frozen _ _ lbm).trans (h.free j hj), (hall.shape _ lmb).trans h.msh, fun j hj => (hall.cell _ _ lmb (notM _ _ h.lm.1 (by decide) (by decide) _)).trans (h.mcell j hj), fun j hj => (hall.frozen _ _ lmb).trans (h.mfree j hj), ?_, ?_, ⟨(hold _ lbm).trans h.lb.1, h.lb.2⟩, ⟨(hold _ lmb).trans h.lm.1, h.lm.2⟩, ?_, ?_⟩, hall.mono ?_⟩
  · rintro (e | e)
    · exact own_ne h.lt h.lb.1 (by decide) e
    · omega
  · rw [← hW]
    refine cell_set_eq (u := tv) ((hw3.cell _ _ lbm (own_ne h.lt h.lb.1 (by decide))).trans h.tc) rfl
  · have := ownsRow_chg ho hset (fun g hg' i e => by simp [Value.ownBlock] at hg'; omega)
    simpa [ctNew] using this
  · intro i hi
    by_cases hi' : i < ts.length
    · rw [List.getElem_append_left hi']
      have l := h.lts i hi'
      have ne : ∀ k x, lab k = (i + 1, x) → ∀ j, ¬ (tv.ownBlock = some k ∨ (k = bm ∧ j = 1)) := fun k x hk j => notM k _ hk (by simp) (by simp) j
      exact (h.th i hi').keep hall (ne _ _ l.b.1) (ne _ _ l.rb.1) (fun g hg => ne _ _ (l.cv g hg).1) (fun g hg => ne _ _ (l.wv g hg).1) (fun g hg => ne _ _ (l.ov g hg).1)
    · obtain rfl : i = ts.length := by simp at hi; omega
      rw [List.getElem_append_right (Nat.le_refl _)]
      simp only [Nat.sub_self, List.getElem_cons_zero]
      exact {
        sh := (newS _ (by show w.heap.size + 1 < _; omega)).trans (newW_sh w)
        codec := (new _ (by show w.heap.size ≤ w.heap.size + 1; omega) (by show w.heap.size + 1 < _; omega) 0).trans (newW_th w 0 _ rfl)
        crow := nilRow9 _ _
        pc := (new _ (by show w.heap.size ≤ w.heap.size + 1; omega) (by show w.heap.size + 1 < _; omega) 1).trans (newW_th w 1 _ rfl)
        regs := (new _ (by show w.heap.size ≤ w.heap.size + 1; omega) (by show w.heap.size + 1 < _; omega) 2).trans (newW_th w 2 _ rfl)
        rsh := (newS _ (by show w.heap.size < _; omega)).trans (newW_rs w)
        rcell := fun j hj => (new _ (Nat.le_refl _) (by show w.heap.size < _; omega) j).trans (newW_rg w j hj)
        rfree := fun j _ => (newF _ (by show w.heap.size < _; omega) j).trans (newW_rf w j)
        waits := (new _ (by show w.heap.size ≤ w.heap.size + 1; omega) (by show w.heap.size + 1 < _; omega) 3).trans (newW_th w 3 _ rfl)
        wrow := ⟨rfl, .inl ⟨rfl, rfl⟩⟩
        outc := (new _ (by show w.heap.size ≤ w.heap.size + 1; omega) (by show w.heap.size + 1 < _; omega) 4).trans (newW_th w 4 _ rfl)
        orow := ⟨rfl, .inl ⟨rfl, rfl⟩⟩
        state := (new _ (by show w.heap.size ≤ w.heap.size + 1; omega) (by show w.heap.size + 1 < _; omega) 5).trans (newW_th w 5 _ rfl)
        free := fun j _ => (newF _ (by show w.heap.size + 1 < _; omega) j).trans (newW_fr w j) }
  · intro g hg'
    simp [Value.ownBlock] at hg'
    subst hg'
    refine ⟨?_, ?_⟩
    · show (if q = w.heap.size then _ else if q = w.heap.size + 1 then _ else if q = q then _ else _) = _
      rw [if_neg hqn.1, if_neg hqn.2, if_pos rfl]
    · rcases hg with hg | hg
      · exact (h.lt q hg).2
      · exact hD q (by omega)
  · intro i hi
    by_cases hi' : i < ts.length
    · rw [List.getElem_append_left hi']
      exact labs i hi'
    · obtain rfl : i = ts.length := by simp at hi; omega
      rw [List.getElem_append_right (Nat.le_refl _)]
      simp only [Nat.sub_self, List.getElem_cons_zero]
      have none_own : ∀ g, (Value.slice none 0 0).ownBlock ≠ some g := fun g e => by simp [Value.ownBlock] at e
      refine ⟨⟨?_, hD _ (by show w.heap.size ≤ w.heap.size + 1; omega)⟩, ⟨?_, hD _ (Nat.le_refl _)⟩, fun g e => absurd e (none_own g), fun g e => absurd e (none_own g), fun g e => absurd e (none_own g)⟩
      · show (if w.heap.size + 1 = w.heap.size then _ else if w.heap.size + 1 = w.heap.size + 1 then _ else _) = _
        rw [if_neg (by omega), if_pos rfl]
      · show (if w.heap.size = w.heap.size then _ else _) = _
        rw [if_pos rfl]
  · rintro k i hk (e | ⟨rfl, _⟩)
    · exact (h.lt k e).2
    · exact h.lb.2

theorem row_cell1 {D : Nat → Prop} {lab : Nat → Nat × Nat} {w w3 : World} {bm mb : Nat} {tv : Value} {m : Nat → Int} {ts : List CT} (h : CMach D lab w bm mb tv m ts) (hc : Chg (fun k _ => tv.ownBlock = some k) (newW w) w3) : w3.cell? ⟨bm, 1, none⟩ = some tv :=
  (hc.cell bm 1 (by rw [newW_size]; have := lt_of_shape h.sh; omega) (own_ne h.lt h.lb.1 (by decide))).trans (((newW_chg w).cell bm 1 (lt_of_shape h.sh) (fun e => e)).trans h.tc)
theorem row_free1 {D : Nat → Prop} {lab : Nat → Nat × Nat} {w w3 : World} {bm mb : Nat} {tv : Value} {m : Nat → Int} {ts : List CT} (h : CMach D lab w bm mb tv m ts) (hc : Chg (fun k _ => tv.ownBlock = some k) (newW w) w3) : w3.frozen? ⟨bm, 1, none⟩ = false :=
  (hc.frozen bm 1 (by rw [newW_size]; have := lt_of_shape h.sh; omega)).trans (((newW_chg w).frozen bm 1 (lt_of_shape h.sh)).trans (h.free 1 (by omega)))

section
variable {D : Nat → Prop} {lab : Nat → Nat × Nat} {w : World} {bm mb bw c : Nat} {tv : Value} {m : Nat → Int} {ts : List CT} {us : List ByteArray} {u : ByteArray}

set_option maxRecDepth 100000 in
set_option maxHeartbeats 1000000 in
theorem cRow_limit (h : CMach D lab w bm mb tv m ts) (hw : StrsAt w bw [wThread]) (h3 : ts.length = 3) :
    Calls Tryz.prog 71 #[ptr bm, .slice (some ⟨bw, 0, none⟩) 1 c] w fun e w' => e = .returned (.int .i64 5) ∧ w' = w := by
  have hc := h.tc
  have h0 : w.cell? ⟨bw, 0, none⟩ = some (.string ⟨#[116, 104, 114, 101, 97, 100]⟩) := hw 0 (by simp)
  obtain ⟨ta, tk, rfl⟩ : ∃ ta tk, tv = .slice ta ts.length tk := by
    rcases h.trow.2 with ⟨e1, e2⟩ | ⟨g', cap', cur, e1, _⟩
    · exact ⟨none, 0, by rw [e1, e2]⟩
    · exact ⟨_, _, e1⟩
  rw [h3] at hc
  have H := hid h
  clear h hw
  go_enter Tryz.func71, Tryz.ntmps71
  go_wp2
  go_ret
  exact ⟨rfl, rfl⟩

theorem infoPcThread : (Tryz.prog.info? 94).map (fun i => (i.zero, i.size, i.bytes)) = some (some (.pointer none), 1, 8) := by kernel_rfl

set_option maxRecDepth 100000 in
set_option maxHeartbeats 1000000 in
theorem cRow_thread (h : CMach D lab w bm mb tv m ts) (hD : ∀ k, w.heap.size ≤ k → D k) (hw : StrsAt w bw [wThread]) (h3 : ts.length < 3) :
    Calls Tryz.prog 71 #[ptr bm, .slice (some ⟨bw, 0, none⟩) 1 c] w fun e w' => e = .returned (.int .i64 0) ∧ (∃ lab' tv' t, CMach D lab' w' bm mb tv' m (ts ++ [t]) ∧ t.T = Th.init ∧ t.code = []) ∧ Chg (fun k _ => D k) w w' := by
  obtain ⟨i0, hi, hz0, hz1, hz2⟩ := info_parts infoPcThread
  have hc := h.tc
  have hfc := h.free 1 (by omega)
  have h0 : w.cell? ⟨bw, 0, none⟩ = some (.string ⟨#[116, 104, 114, 101, 97, 100]⟩) := hw 0 (by simp)
  obtain ⟨ta, tk, rfl⟩ : ∃ ta tk, tv = .slice ta ts.length tk := by
    rcases h.trow.2 with ⟨e1, e2⟩ | ⟨g', cap', cur, e1, _⟩
    · exact ⟨none, 0, by rw [e1, e2]⟩
    · exact ⟨_, _, e1⟩
  have hlb := lt_of_shape h.sh
  have hlb1 : bm < w.heap.size + 1 := by omega
  have hlb2 : bm < w.heap.size + 1 + 1 := by omega
  have hn3 : ¬ (ts.length : Int) = 3 := by omega
  have hmk : ∀ w, (Instr.makeSlice 34 (.int .i64 8) (.int .i64 8)).run Tryz.prog w = .ok (.slice (some ⟨w.heap.size, 0, none⟩) 8 8) (w.alloc (.cells (zeros 8) 2)) := fun w => make_zeros 8 (by decide) w
  have hl1 : ts.length + 1 ≤ maxLen := by unfold maxLen; omega
  have hl2 : (ts.length + 1) * 8 ≤ 140737488355328 := by omega
  have H := hid h
  clear h hw
  go_enter Tryz.func71, Tryz.ntmps71
  go_wp2_with fail
  go_region_law (refine step_app1 rfl (.tmp 33) (.tmp 37) 59 rfl 94 i0 (.pointer none) 8 Tryz.underlying59 hi hz0 hz1 hz2 rfl (.slice ta ts.length tk) ts.length (ts.map fun t => ptr t.b) rfl ?own ⟨w.heap.size + 1 + 1, 0, none⟩ (ptr (w.heap.size + 1)) rfl ?cel rfl hl1 hl2 ?_; (case own => exact newW_own H.out.trow); (case cel => exact newW_one w); intro q cp w3 ho hch hg; have hcb := (row_cell1 H.out hch); have hfb := (row_free1 H.out hch); have HO := hid ho; have HC := hid hch; have HG := hid hg; clear ho hch hg)
  all_goals
    go_wp2
    go_ret
    obtain ⟨lab', h1, h2⟩ := cmach_thread H.out hD HO.out HC.out HG.out
    exact ⟨rfl, ⟨lab', _, _, h1, rfl, rfl⟩, h2⟩
end
end Go.Proofs.YtfhkfnoajbbfdaaGreatDoor

/- The document's row: an instruction. -/
namespace Go.Proofs.YtfhkfnoajbbfdaaGreatDoor
open Go.RowKit

theorem infoCIns : (Tryz.prog.info? 127).map (fun i => (i.zero, i.size, i.bytes)) = some (some (.agg #[.string ⟨#[]⟩, .int .i64 0, .bool false, .int .i64 0, .bool false, .int .i64 0, .bool false, .int .i64 0, .int .i64 0]), 9, 80) := by kernel_rfl

section
variable {D : Nat → Prop} {lab : Nat → Nat × Nat} {w : World} {bm mb bw c : Nat} {tv : Value} {m : Nat → Int} {ts : List CT} {us : List ByteArray} {u : ByteArray}

/-- Not the head of a thread. -/
def NotHead (u : ByteArray) (us : List ByteArray) : Prop := us ≠ [] ∨ u ≠ wThread

theorem head_cases (hN : NotHead u us) : (¬ ((us.length : Int) + 1 = 1)) ∨ ((us.length : Int) + 1 = 1 ∧ (u.toList == [116, 104, 114, 101, 97, 100]) = false) := by
  by_cases e : us = []
  · exact .inr ⟨by rw [e]; rfl, ne_list (hN.resolve_left (fun h => h e))⟩
  · have := List.length_pos_iff.2 e; exact .inl (by omega)

theorem row_slice {w : World} {e : TypeId} {sz : Nat} {v : Value} {n : Nat} {xs : List Value} (h : w.ownsRow 0 e sz v n xs) : ∃ ta tk, v = .slice ta n tk := by
  rcases h.2 with ⟨e1, e2⟩ | ⟨g', cap', cur, e1, _⟩
  · exact ⟨none, 0, by rw [e1, e2]⟩
  · exact ⟨_, _, e1⟩

set_option maxRecDepth 100000 in
set_option maxHeartbeats 1000000 in
theorem cRow_syntax (h : CMach D lab w bm mb tv m ts) (hN : NotHead u us) (hw : StrsAt w bw (u :: us))
    (hins : Hid (Calls Tryz.prog 101 #[.slice (some ⟨bw, 0, none⟩) (us.length + 1) c] w fun e w' => (∃ i, e = .returned (.tuple #[encDI i, .bool false])) ∧ Below w.heap.size w w')) :
    Calls Tryz.prog 71 #[ptr bm, .slice (some ⟨bw, 0, none⟩) (us.length + 1) c] w fun e w' => e = .returned (.int .i64 2) ∧ Below w.heap.size w w' := by
  have hc := h.tc
  have h0 : w.cell? ⟨bw, 0, none⟩ = some (.string u) := hw 0 (by simp)
  obtain ⟨ta, tk, rfl⟩ := row_slice h.trow
  have H := hid h
  clear h hw
  rcases head_cases hN with h1 | ⟨h1, h2⟩
  all_goals
    go_enter Tryz.func71, Tryz.ntmps71
    go_wp2_with fail
    refine hins.out.mono ?_
    rintro e W1 ⟨⟨i, rfl⟩, b1⟩
    unfold encDI
    have B1 := hid b1
    clear b1 hins
    go_wp2
    go_ret
    exact ⟨rfl, B1.out.alloc B1.out.size _⟩

set_option maxRecDepth 100000 in
set_option maxHeartbeats 1000000 in
theorem cRow_place (h : CMach D lab w bm mb tv m []) (hN : NotHead u us) (hw : StrsAt w bw (u :: us))
    (hins : Hid (Calls Tryz.prog 101 #[.slice (some ⟨bw, 0, none⟩) (us.length + 1) c] w fun e w' => (∃ i, e = .returned (.tuple #[encDI i, .bool true])) ∧ Below w.heap.size w w')) :
    Calls Tryz.prog 71 #[ptr bm, .slice (some ⟨bw, 0, none⟩) (us.length + 1) c] w fun e w' => e = .returned (.int .i64 3) ∧ Below w.heap.size w w' := by
  have hc := h.tc
  have h0 : w.cell? ⟨bw, 0, none⟩ = some (.string u) := hw 0 (by simp)
  obtain ⟨ta, tk, rfl⟩ := row_slice h.trow
  change w.cell? ⟨bm, 1, none⟩ = some (.slice ta 0 tk) at hc
  have H := hid h
  clear h hw
  rcases head_cases hN with h1 | ⟨h1, h2⟩
  all_goals
    go_enter Tryz.func71, Tryz.ntmps71
    go_wp2_with fail
    refine hins.out.mono ?_
    rintro e W1 ⟨⟨i, rfl⟩, b1⟩
    unfold encDI
    have B1 := hid b1
    clear b1 hins
    go_wp2
    go_ret
    exact ⟨rfl, B1.out.alloc B1.out.size _⟩

/-- The last thread of a machine. -/
theorem last_ptr {W : World} {k : Nat} {ta : Option Addr} {tk : Nat} (h : CMach D lab W bm mb (.slice ta ts.length tk) m ts) (hk : ts.length = k + 1) : ∃ tg, ta = some ⟨tg, 0, none⟩ ∧ W.cell? ⟨tg, k, none⟩ = some (ptr (ts[k]'(by omega)).b) ∧ tg < W.heap.size := by
  rcases h.trow.2 with ⟨e1, e2⟩ | ⟨g', cap', cur, e1, _⟩
  · omega
  · simp only [Value.slice.injEq] at e1
    obtain ⟨rfl, _, rfl⟩ := e1
    obtain ⟨q1, _, q3⟩ := ownsRow_cell h.trow k (by omega)
    refine ⟨g', rfl, ?_, q3⟩
    rw [q1]
    simp [List.getElem?_eq_getElem (show k < ts.length by omega)]

set_option maxRecDepth 100000 in
set_option maxHeartbeats 1000000 in
theorem cRow_full (h : CMach D lab w bm mb tv m ts) (k : Nat) (hk : ts.length = k + 1) (hf : (ts[k]'(by omega)).code.length = 4000) (hN : NotHead u us) (hw : StrsAt w bw (u :: us)) (hk3 : k < 3)
    (hins : Hid (Calls Tryz.prog 101 #[.slice (some ⟨bw, 0, none⟩) (us.length + 1) c] w fun e w' => (∃ i, e = .returned (.tuple #[encDI i, .bool true])) ∧ Below w.heap.size w w')) :
    Calls Tryz.prog 71 #[ptr bm, .slice (some ⟨bw, 0, none⟩) (us.length + 1) c] w fun e w' => e = .returned (.int .i64 5) ∧ Below w.heap.size w w' := by
  have hc := h.tc
  have h0 : w.cell? ⟨bw, 0, none⟩ = some (.string u) := hw 0 (by simp)
  obtain ⟨ta, tk, rfl⟩ := row_slice h.trow
  have H := hid h
  clear h hw
  rw [hk] at hc
  have hkk : wrap64 (((k + 1 : Nat) : Int) - 1) = (k : Int) := by unfold wrap64; omega
  have hk0 : ¬ (k : Int) < 0 := by omega
  rcases head_cases hN with h1 | ⟨h1, h2⟩
  all_goals
    go_enter Tryz.func71, Tryz.ntmps71
    go_wp2_with fail
    refine hins.out.mono ?_
    rintro e W1 ⟨⟨i, rfl⟩, b1⟩
    unfold encDI
    have H1 := H.out.below b1
    obtain ⟨tg, rfl, p1, p2⟩ := last_ptr H1 hk
    have hth := H1.th k (by omega)
    have c0 := hth.codec
    obtain ⟨ca, ck, hcv⟩ := row_slice hth.crow
    rw [hcv, hf] at c0
    have hc1 := H1.tc
    rw [hk] at hc1
    have hl1 := lt_of_shape H1.sh
    have hl2 := lt_of_shape hth.sh
    have B1 := hid b1
    clear b1 hins H1 hth hcv
    generalize (ts[k]'(by omega)).b = tb at *
    go_wp2
    go_ret
    exact ⟨rfl, B1.out.alloc B1.out.size _⟩
end
end Go.Proofs.YtfhkfnoajbbfdaaGreatDoor
