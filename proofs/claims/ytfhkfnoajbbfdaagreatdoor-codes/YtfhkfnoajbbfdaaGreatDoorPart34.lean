import Derived.Test.YtfhkfnoajbbfdaaGreatDoorPart33
/- The document's instructions: ins. -/
namespace Go.Proofs.YtfhkfnoajbbfdaaGreatDoor
open Go.RowKit

/-- An instruction of the document's. -/
structure DI where
  word : ByteArray
  d : Int
  a : Vl
  b : Vl
  c : Vl
  k : Int

def encDI (i : DI) : Value := .agg #[.string i.word, .int .i64 i.d, .bool i.a.reg, .int .i64 i.a.v, .bool i.b.reg, .int .i64 i.b.v, .bool i.c.reg, .int .i64 i.c.v, .int .i64 i.k]

/-- What a letter of a form makes of a word. -/
def stepL (x : UInt8) (u : ByteArray) (i : DI) : DI × Bool :=
  if x = 100 then ({ i with d := ((regVal u).getD 0 : Nat) }, (regVal u).isSome)
  else if x = 97 then ({ i with a := (valD u).1 }, (valD u).2)
  else if x = 98 then ({ i with b := (valD u).1 }, (valD u).2)
  else if x = 99 then ({ i with c := (valD u).1 }, (valD u).2)
  else if x = 107 then ({ i with k := (numVal u).getD 0 }, (numVal u).isSome)
  else if x = 116 then ({ i with k := (numVal u).getD 0 }, (numVal u).isSome && decide (0 ≤ (numVal u).getD 0) && decide ((numVal u).getD 0 ≤ 4000))
  else ({ i with k := (numVal u).getD 0 }, (numVal u).isSome && decide (1 ≤ (numVal u).getD 0) && decide ((numVal u).getD 0 ≤ 9))

def runL : List UInt8 → List ByteArray → DI → DI × Bool
  | x :: f, u :: ws, i => if (stepL x u i).2 = true then runL f ws (stepL x u i).1 else ((stepL x u i).1, false)
  | _, _, i => (i, true)

def zeroI (u : ByteArray) : DI := ⟨u, 0, ⟨false, 0⟩, ⟨false, 0⟩, ⟨false, 0⟩, 0⟩

/-- The cells of an instruction. -/
structure DIAt (w : World) (n : Nat) (i : DI) : Prop where
  c0 : w.cell? ⟨n, 0, none⟩ = some (.string i.word)
  c1 : w.cell? ⟨n, 1, none⟩ = some (.int .i64 i.d)
  c2 : w.cell? ⟨n, 2, none⟩ = some (.bool i.a.reg)
  c3 : w.cell? ⟨n, 3, none⟩ = some (.int .i64 i.a.v)
  c4 : w.cell? ⟨n, 4, none⟩ = some (.bool i.b.reg)
  c5 : w.cell? ⟨n, 5, none⟩ = some (.int .i64 i.b.v)
  c6 : w.cell? ⟨n, 6, none⟩ = some (.bool i.c.reg)
  c7 : w.cell? ⟨n, 7, none⟩ = some (.int .i64 i.c.v)
  c8 : w.cell? ⟨n, 8, none⟩ = some (.int .i64 i.k)

theorem DIAt.below {w w' : World} {n m : Nat} {i : DI} (h : DIAt w n i) (hb : Below m w w') (hn : n < m) : DIAt w' n i :=
  have k : ∀ o v, w.cell? ⟨n, o, none⟩ = some v → w'.cell? ⟨n, o, none⟩ = some v := fun o _ e => (hb.cell (p := ⟨n, o, none⟩) hn).trans e
  ⟨k _ _ h.c0, k _ _ h.c1, k _ _ h.c2, k _ _ h.c3, k _ _ h.c4, k _ _ h.c5, k _ _ h.c6, k _ _ h.c7, k _ _ h.c8⟩

theorem DIAt.new (w : World) (i : DI) (t : TypeId) : DIAt (w.alloc (.cells #[.string i.word, .int .i64 i.d, .bool i.a.reg, .int .i64 i.a.v, .bool i.b.reg, .int .i64 i.b.v, .bool i.c.reg, .int .i64 i.c.v, .int .i64 i.k] t)) w.heap.size i :=
  ⟨World.cell?_alloc_new _ _ _ 0, World.cell?_alloc_new _ _ _ 1, World.cell?_alloc_new _ _ _ 2, World.cell?_alloc_new _ _ _ 3, World.cell?_alloc_new _ _ _ 4, World.cell?_alloc_new _ _ _ 5, World.cell?_alloc_new _ _ _ 6, World.cell?_alloc_new _ _ _ 7, World.cell?_alloc_new _ _ _ 8⟩

/-- The nine cells, written one after the other. -/
def setDI (w : World) (n : Nat) (i : DI) : World := ((((((((w.setCell ⟨n, 0, none⟩ (.string i.word)).setCell ⟨n, 1, none⟩ (.int .i64 i.d)).setCell ⟨n, 2, none⟩ (.bool i.a.reg)).setCell ⟨n, 3, none⟩ (.int .i64 i.a.v)).setCell ⟨n, 4, none⟩ (.bool i.b.reg)).setCell ⟨n, 5, none⟩ (.int .i64 i.b.v)).setCell ⟨n, 6, none⟩ (.bool i.c.reg)).setCell ⟨n, 7, none⟩ (.int .i64 i.c.v)).setCell ⟨n, 8, none⟩ (.int .i64 i.k)

theorem set_keep {w : World} {b o k i : Nat} {v u : Value} (h : w.cell? ⟨k, i, none⟩ = some u) (e : k ≠ b ∨ i ≠ o) : (w.setCell ⟨b, o, none⟩ v).cell? ⟨k, i, none⟩ = some u := (cell_set_ne e).trans h

theorem setDI_at {w : World} {n : Nat} {j : DI} (h : DIAt w n j) (i : DI) : DIAt (setDI w n i) n i := by
  obtain ⟨h0, h1, h2, h3, h4, h5, h6, h7, h8⟩ := h
  unfold setDI
  constructor
  · exact set_keep (set_keep (set_keep (set_keep (set_keep (set_keep (set_keep (set_keep (cell_set_eq h0 rfl) (by omega)) (by omega)) (by omega)) (by omega)) (by omega)) (by omega)) (by omega)) (by omega)
  · exact set_keep (set_keep (set_keep (set_keep (set_keep (set_keep (set_keep (cell_set_eq (set_keep h1 (by omega)) rfl) (by omega)) (by omega)) (by omega)) (by omega)) (by omega)) (by omega)) (by omega)
  · exact set_keep (set_keep (set_keep (set_keep (set_keep (set_keep (cell_set_eq (set_keep (set_keep h2 (by omega)) (by omega)) rfl) (by omega)) (by omega)) (by omega)) (by omega)) (by omega)) (by omega)
  · exact set_keep (set_keep (set_keep (set_keep (set_keep (cell_set_eq (set_keep (set_keep (set_keep h3 (by omega)) (by omega)) (by omega)) rfl) (by omega)) (by omega)) (by omega)) (by omega)) (by omega)
  · exact set_keep (set_keep (set_keep (set_keep (cell_set_eq (set_keep (set_keep (set_keep (set_keep h4 (by omega)) (by omega)) (by omega)) (by omega)) rfl) (by omega)) (by omega)) (by omega)) (by omega)
  · exact set_keep (set_keep (set_keep (cell_set_eq (set_keep (set_keep (set_keep (set_keep (set_keep h5 (by omega)) (by omega)) (by omega)) (by omega)) (by omega)) rfl) (by omega)) (by omega)) (by omega)
  · exact set_keep (set_keep (cell_set_eq (set_keep (set_keep (set_keep (set_keep (set_keep (set_keep h6 (by omega)) (by omega)) (by omega)) (by omega)) (by omega)) (by omega)) rfl) (by omega)) (by omega)
  · exact set_keep (cell_set_eq (set_keep (set_keep (set_keep (set_keep (set_keep (set_keep (set_keep h7 (by omega)) (by omega)) (by omega)) (by omega)) (by omega)) (by omega)) (by omega)) rfl) (by omega)
  · exact cell_set_eq (set_keep (set_keep (set_keep (set_keep (set_keep (set_keep (set_keep (set_keep h8 (by omega)) (by omega)) (by omega)) (by omega)) (by omega)) (by omega)) (by omega)) (by omega)) rfl

theorem Chg.setDI {M : Nat → Nat → Prop} {a w : World} {n : Nat} (h : Chg M a w) (hm : ∀ o, n < a.heap.size → M n o) (i : DI) : Chg M a (setDI w n i) :=
  ((((((((h.setCell (hm 0) _).setCell (hm 1) _).setCell (hm 2) _).setCell (hm 3) _).setCell (hm 4) _).setCell (hm 5) _).setCell (hm 6) _).setCell (hm 7) _).setCell (hm 8) _

theorem below_setDI {a w : World} {n m : Nat} (h : Below m a w) (hn : m ≤ n) (i : DI) : Below m a (setDI w n i) :=
  ((((((((h.setCell hn _).setCell hn _).setCell hn _).setCell hn _).setCell hn _).setCell hn _).setCell hn _).setCell hn _).setCell hn _

theorem DIAt.setA {W : World} {n : Nat} {i : DI} (h : DIAt W n i) (x : Vl) : DIAt ((W.setCell ⟨n, 2, none⟩ (.bool x.reg)).setCell ⟨n, 3, none⟩ (.int .i64 x.v)) n { i with a := x } :=
  ⟨set_keep (set_keep h.c0 (by omega)) (by omega), set_keep (set_keep h.c1 (by omega)) (by omega), set_keep (cell_set_eq h.c2 rfl) (by omega), cell_set_eq (set_keep h.c3 (by omega)) rfl, set_keep (set_keep h.c4 (by omega)) (by omega), set_keep (set_keep h.c5 (by omega)) (by omega), set_keep (set_keep h.c6 (by omega)) (by omega), set_keep (set_keep h.c7 (by omega)) (by omega), set_keep (set_keep h.c8 (by omega)) (by omega)⟩

theorem DIAt.setB {W : World} {n : Nat} {i : DI} (h : DIAt W n i) (x : Vl) : DIAt ((W.setCell ⟨n, 4, none⟩ (.bool x.reg)).setCell ⟨n, 5, none⟩ (.int .i64 x.v)) n { i with b := x } :=
  ⟨set_keep (set_keep h.c0 (by omega)) (by omega), set_keep (set_keep h.c1 (by omega)) (by omega), set_keep (set_keep h.c2 (by omega)) (by omega), set_keep (set_keep h.c3 (by omega)) (by omega), set_keep (cell_set_eq h.c4 rfl) (by omega), cell_set_eq (set_keep h.c5 (by omega)) rfl, set_keep (set_keep h.c6 (by omega)) (by omega), set_keep (set_keep h.c7 (by omega)) (by omega), set_keep (set_keep h.c8 (by omega)) (by omega)⟩

theorem DIAt.setC {W : World} {n : Nat} {i : DI} (h : DIAt W n i) (x : Vl) : DIAt ((W.setCell ⟨n, 6, none⟩ (.bool x.reg)).setCell ⟨n, 7, none⟩ (.int .i64 x.v)) n { i with c := x } :=
  ⟨set_keep (set_keep h.c0 (by omega)) (by omega), set_keep (set_keep h.c1 (by omega)) (by omega), set_keep (set_keep h.c2 (by omega)) (by omega), set_keep (set_keep h.c3 (by omega)) (by omega), set_keep (set_keep h.c4 (by omega)) (by omega), set_keep (set_keep h.c5 (by omega)) (by omega), set_keep (cell_set_eq h.c6 rfl) (by omega), cell_set_eq (set_keep h.c7 (by omega)) rfl, set_keep (set_keep h.c8 (by omega)) (by omega)⟩

theorem DIAt.setK {W : World} {n : Nat} {i : DI} (h : DIAt W n i) (x : Int) : DIAt (W.setCell ⟨n, 8, none⟩ (.int .i64 x)) n { i with k := x } :=
  ⟨set_keep h.c0 (by omega), set_keep h.c1 (by omega), set_keep h.c2 (by omega), set_keep h.c3 (by omega), set_keep h.c4 (by omega), set_keep h.c5 (by omega), set_keep h.c6 (by omega), set_keep h.c7 (by omega), cell_set_eq h.c8 rfl⟩

theorem DIAt.setD {W : World} {n : Nat} {i : DI} (h : DIAt W n i) (x : Int) : DIAt (W.setCell ⟨n, 1, none⟩ (.int .i64 x)) n { i with d := x } :=
  ⟨set_keep h.c0 (by omega), cell_set_eq h.c1 rfl, set_keep h.c2 (by omega), set_keep h.c3 (by omega), set_keep h.c4 (by omega), set_keep h.c5 (by omega), set_keep h.c6 (by omega), set_keep h.c7 (by omega), set_keep h.c8 (by omega)⟩

theorem chg_one (W : World) (n o : Nat) (v : Value) : Chg (fun k _ => k = n) W (W.setCell ⟨n, o, none⟩ v) := (Chg.refl (fun k (_ : Nat) => k = n) W).setCell (b := n) (o := o) (fun _ => rfl) v
theorem chg_two (W : World) (n o o' : Nat) (v v' : Value) : Chg (fun k _ => k = n) W ((W.setCell ⟨n, o, none⟩ v).setCell ⟨n, o', none⟩ v') := ((Chg.refl (fun k (_ : Nat) => k = n) W).setCell (b := n) (o := o) (fun _ => rfl) v).setCell (b := n) (o := o') (fun _ => rfl) v'

theorem runL_step (f : ByteArray) (ws : List ByteArray) (i : DI) (j : Nat) (h : j < f.size) (h2 : j < ws.length) :
    runL (f.data.toList.drop j) (ws.drop j) i = if (stepL f[j] ws[j] i).2 = true then runL (f.data.toList.drop (j + 1)) (ws.drop (j + 1)) (stepL f[j] ws[j] i).1 else ((stepL f[j] ws[j] i).1, false) := by
  have hj : j < f.data.toList.length := by rw [Array.length_toList]; exact h
  rw [List.drop_eq_getElem_cons hj, List.drop_eq_getElem_cons h2, runL]
  simp [ByteArray.getElem_eq_getElem_data]

/-- What holds between two letters. -/
structure InsInv (w : World) (b : Nat) (us : List ByteArray) (W : World) (i : DI) : Prop where
  ins : DIAt W (w.heap.size + 1) i
  res : DIAt W w.heap.size (zeroI ⟨#[]⟩)
  fi : ∀ j, W.frozen? ⟨w.heap.size + 1, j, none⟩ = false
  fr : ∀ j, W.frozen? ⟨w.heap.size, j, none⟩ = false
  bel : Below w.heap.size w W
  siz : w.heap.size + 2 ≤ W.heap.size
  strs : StrsAt W b us

theorem InsInv.below {w : World} {b : Nat} {us : List ByteArray} {W W' : World} {i : DI} (h : InsInv w b us W i) (hb : b < w.heap.size) (hB : Below W.heap.size W W') : InsInv w b us W' i where
  ins := h.ins.below hB (by have := h.siz; omega)
  res := h.res.below hB (by have := h.siz; omega)
  fi := fun j => (hB.frozen (p := ⟨w.heap.size + 1, j, none⟩) (by show w.heap.size + 1 < _; have := h.siz; omega)).trans (h.fi j)
  fr := fun j => (hB.frozen (p := ⟨w.heap.size, j, none⟩) (by show w.heap.size < _; have := h.siz; omega)).trans (h.fr j)
  bel := h.bel.trans (hB.mono (by have := h.siz; omega))
  siz := Nat.le_trans h.siz hB.size
  strs := h.strs.keep (n := W.heap.size) (by have := h.siz; omega) hB

theorem InsInv.chg {w : World} {b : Nat} {us : List ByteArray} {W W' : World} {i i' : DI} (h : InsInv w b us W i) (hb : b < w.heap.size) (hc : Chg (fun k _ => k = w.heap.size + 1) W W') (hi : DIAt W' (w.heap.size + 1) i') : InsInv w b us W' i' := by
  have hs := h.siz
  have k : ∀ o v, W.cell? ⟨w.heap.size, o, none⟩ = some v → W'.cell? ⟨w.heap.size, o, none⟩ = some v := fun o _ e => (hc.cell _ o (by omega) (by omega)).trans e
  have r := h.res
  exact ⟨hi, ⟨k _ _ r.c0, k _ _ r.c1, k _ _ r.c2, k _ _ r.c3, k _ _ r.c4, k _ _ r.c5, k _ _ r.c6, k _ _ r.c7, k _ _ r.c8⟩, fun j => (hc.frozen _ j (by omega)).trans (h.fi j), fun j => (hc.frozen _ j (by omega)).trans (h.fr j), h.bel.trans (hc.below (by omega) (fun k i e => by omega)), Nat.le_trans hs hc.size, fun j hj => (hc.cell b j (by omega) (by omega)).trans (h.strs j hj)⟩

section
variable (w : World) (b c : Nat) (u : ByteArray) (ws : List ByteArray)

set_option maxRecDepth 100000 in
set_option maxHeartbeats 1000000 in
theorem cIns_none (hb : b < w.heap.size) (hw : Hid (StrsAt w b (u :: ws))) (hv : Hid (∀ j, j < 12 → opWords j ≠ u)) (hs : Hid (∀ j (h : j < cWords.length), cWords[j] ≠ u)) :
    Calls Tryz.prog 101 #[.slice (some ⟨b, 0, none⟩) (ws.length + 1) c] w fun e w' => (∃ i, e = .returned (.tuple #[encDI i, .bool false])) ∧ Below w.heap.size w w' := by
  have h0 : w.cell? ⟨b, 0, none⟩ = some (.string u) := hw.out 0 (by simp)
  go_enter Tryz.func101, Tryz.ntmps101
  go_wp2_with fail
  generalize hA : w.alloc _ = WA
  generalize hB : WA.alloc _ = WB
  have sA : WA.heap.size = w.heap.size + 1 := by rw [← hA]; simp
  have bA : Below w.heap.size w WB := by rw [← hB, ← hA]; exact ((Below.refl _ w).alloc (Nat.le_refl _) _).alloc (by simp) _
  have sB : WB.heap.size = w.heap.size + 2 := by rw [← hB]; simp [sA]
  have dI : DIAt WB (w.heap.size + 1) (zeroI u) := by rw [← hB, ← sA]; exact DIAt.new WA (zeroI u) 127
  have dR : DIAt WB w.heap.size (zeroI ⟨#[]⟩) := by rw [← hB]; exact (by rw [← hA]; exact DIAt.new w (zeroI ⟨#[]⟩) 127 : DIAt WA w.heap.size (zeroI ⟨#[]⟩)).below ((Below.refl WA.heap.size WA).alloc (Nat.le_refl _) _) (by omega)
  have fR : ∀ j, WB.frozen? ⟨w.heap.size, j, none⟩ = false := by intro j; rw [← hB, World.frozen?_alloc_past _ _ _ (by omega), ← hA]; simp
  clear hA hB
  refine (cForm_none WB u hv hs).mono ?_
  rintro e W1 ⟨rfl, b1⟩
  obtain ⟨i0, i1, i2, i3, i4, i5, i6, i7, i8⟩ := dI.below b1 (by omega)
  obtain ⟨r0, r1, r2, r3, r4, r5, r6, r7, r8⟩ := dR.below b1 (by omega)
  have f : ∀ j, W1.frozen? ⟨w.heap.size, j, none⟩ = false := fun j => (b1.frozen (p := ⟨w.heap.size, j, none⟩) (by show w.heap.size < _; omega)).trans (fR j)
  have f0 := f 0
  have f1 := f 1
  have f2 := f 2
  have f3 := f 3
  have f4 := f 4
  have f5 := f 5
  have f6 := f 6
  have f7 := f 7
  have f8 := f 8
  have B1 := hid b1
  have BA := hid bA
  clear b1 bA f fR dI dR
  simp only [zeroI] at i0 i1 i2 i3 i4 i5 i6 i7 i8 r0 r1 r2 r3 r4 r5 r6 r7 r8
  go_wp2
  have hR : DIAt W1 w.heap.size (zeroI ⟨#[]⟩) := ⟨r0, r1, r2, r3, r4, r5, r6, r7, r8⟩
  obtain ⟨q0, q1, q2, q3, q4, q5, q6, q7, q8⟩ := setDI_at hR (zeroI u)
  have hbel := below_setDI (BA.out.trans (B1.out.mono (by omega))) (Nat.le_refl w.heap.size) (zeroI u)
  refine ⟨rfl, .tuple #[encDI (zeroI u), .bool false], ?_, ⟨_, rfl⟩, hbel⟩
  change (results _ _).run _ (setDI W1 w.heap.size (zeroI u)) = .ok _ (setDI W1 w.heap.size (zeroI u))
  generalize setDI W1 w.heap.size (zeroI u) = W' at *
  simp [results, Tryz.results101, go_sem, q0, q1, q2, q3, q4, q5, q6, q7, q8, encDI, zeroI]

set_option maxRecDepth 100000 in
set_option maxHeartbeats 4000000 in
theorem cIns_form (f : ByteArray) (hf : f.size ≤ 5) (hq : (f.toList == [63]) = false) (hb : b < w.heap.size) (hw : Hid (StrsAt w b (u :: ws))) (hl : ws.length = f.size)
    (hlet : Hid (∀ j (h : j < f.size), f[j] = 100 ∨ f[j] = 97 ∨ f[j] = 98 ∨ f[j] = 99 ∨ f[j] = 107 ∨ f[j] = 116 ∨ f[j] = 110))
    (hform : Hid (∀ W, Calls Tryz.prog 131 #[.string u] W fun e w' => e = .returned (.string f) ∧ Below W.heap.size W w')) :
    Calls Tryz.prog 101 #[.slice (some ⟨b, 0, none⟩) (ws.length + 1) c] w fun e w' => e = .returned (.tuple #[encDI (runL f.data.toList ws (zeroI u)).1, .bool (runL f.data.toList ws (zeroI u)).2]) ∧ Below w.heap.size w w' := by
  have h0 : w.cell? ⟨b, 0, none⟩ = some (.string u) := hw.out 0 (by simp)
  generalize hRR : runL f.data.toList ws (zeroI u) = RR
  have HRR : Hid (runL (f.data.toList.drop 0) (ws.drop 0) (zeroI u) = RR) := hid (by simpa using hRR)
  clear hRR
  go_enter Tryz.func101, Tryz.ntmps101
  go_wp2_with fail
  generalize hA : w.alloc _ = WA
  generalize hB : WA.alloc _ = WB
  have sA : WA.heap.size = w.heap.size + 1 := by rw [← hA]; simp
  have bA : Below w.heap.size w WB := by rw [← hB, ← hA]; exact ((Below.refl _ w).alloc (Nat.le_refl _) _).alloc (by simp) _
  have sB : WB.heap.size = w.heap.size + 2 := by rw [← hB]; simp [sA]
  have dI : DIAt WB (w.heap.size + 1) (zeroI u) := by rw [← hB, ← sA]; exact DIAt.new WA (zeroI u) 127
  have dR : DIAt WB w.heap.size (zeroI ⟨#[]⟩) := by rw [← hB]; exact (by rw [← hA]; exact DIAt.new w (zeroI ⟨#[]⟩) 127 : DIAt WA w.heap.size (zeroI ⟨#[]⟩)).below ((Below.refl WA.heap.size WA).alloc (Nat.le_refl _) _) (by omega)
  have fR : ∀ j, WB.frozen? ⟨w.heap.size, j, none⟩ = false := by intro j; rw [← hB, World.frozen?_alloc_past _ _ _ (by omega), ← hA]; simp
  have fI : ∀ j, WB.frozen? ⟨w.heap.size + 1, j, none⟩ = false := by intro j; rw [← hB, ← sA]; simp
  have hI : InsInv w b (u :: ws) WB (zeroI u) := ⟨dI, dR, fI, fR, bA, by omega, hw.out.keep hb bA⟩
  clear hA hB bA dI dR fR fI
  refine (hform.out WB).mono ?_
  rintro e W1 ⟨rfl, b1⟩
  have HI := hid (hI.below hb b1)
  have hq' : ¬ f.toList = [63] := by simpa using hq
  have hlen : ((f.size : Int) + 1 != 1 + (f.size : Int)) = false := by simp; omega
  clear hform h0 b1 hI sA sB hw
  go_wp2
  go_loopw [6] (fun v6 wr => ∃ (j : Nat) (i : DI), j ≤ f.size ∧ v6 = .int .i64 j ∧ Hid (InsInv w b (u :: ws) wr i) ∧ Hid (runL (f.data.toList.drop j) (ws.drop j) i = RR)) (fun v6 _ => f.size - (intOf v6).toNat)
  case atStart => exact ⟨0, zeroI u, by omega, rfl, HI, HRR⟩
  case round =>
    clear HI HRR
    obtain ⟨j, i, hj, rfl, HI, HRR⟩ := hrel
    by_cases hlt : j < f.size
    · have hlt' : (j : Int) < (f.size : Int) := by omega
      have hjw : j < ws.length := by omega
      have hx : wr.cell? ⟨b, 1 + j, none⟩ = some (.string ws[j]) := by
        have := HI.out.strs (1 + j) (by simp; omega)
        rw [this]
        simp [Nat.add_comm 1 j]
      have HST := hid (HRR.out.symm.trans (runL_step f ws i j hlt hjw))
      have hlj := hlet.out j hlt
      generalize hxw : ws[j] = x at hx HST
      clear hxw HRR
      go_wp2_with fail
      have hvd := cVal_any wr x
      generalize hvx : valD x = vx at hvd
      obtain ⟨xv, vok⟩ := vx
      refine hvd.mono ?_
      rintro e W2 ⟨rfl, b2⟩
      have HI2 := hid (HI.out.below hb b2)
      clear b2 hvd HI hx
      unfold dVal
      go_wp2_with fail
      generalize hV : W2.alloc _ = W3
      have v0 : W3.cell? ⟨W2.heap.size, 0, none⟩ = some (.bool xv.reg) := by rw [← hV]; exact World.cell?_alloc_new _ _ _ 0
      have v1 : W3.cell? ⟨W2.heap.size, 1, none⟩ = some (.int .i64 xv.v) := by rw [← hV]; exact World.cell?_alloc_new _ _ _ 1
      have HI3 := hid (HI2.out.below hb (W' := W3) (by rw [← hV]; exact (Below.refl _ W2).alloc (Nat.le_refl _) _))
      have hn2 : w.heap.size + 2 ≤ W2.heap.size := HI2.out.siz
      clear hV HI2
      have hnm := cNumber_any W3 x
      unfold numOut at hnm
      generalize hna : (numVal x).getD 0 = na at hnm
      generalize hnb : (numVal x).isSome = nok at hnm
      refine hnm.mono ?_
      rintro e W4 ⟨rfl, hW⟩
      subst hW
      have HVX := hid hvx
      have HNA := hid hna
      have HNB := hid hnb
      clear hnm hvx hna hnb
      obtain ⟨i0, i1, i2, i3, i4, i5, i6, i7, i8⟩ := HI3.out.ins
      obtain ⟨r0, r1, r2, r3, r4, r5, r6, r7, r8⟩ := HI3.out.res
      have g0 := HI3.out.fi 0
      have g1 := HI3.out.fi 1
      have g2 := HI3.out.fi 2
      have g3 := HI3.out.fi 3
      have g4 := HI3.out.fi 4
      have g5 := HI3.out.fi 5
      have g6 := HI3.out.fi 6
      have g7 := HI3.out.fi 7
      have g8 := HI3.out.fi 8
      have f0 := HI3.out.fr 0
      have f1 := HI3.out.fr 1
      have f2 := HI3.out.fr 2
      have f3 := HI3.out.fr 3
      have f4 := HI3.out.fr 4
      have f5 := HI3.out.fr 5
      have f6 := HI3.out.fr 6
      have f7 := HI3.out.fr 7
      have f8 := HI3.out.fr 8
      rcases hlj with hc | hc | hc | hc | hc | hc | hc
      · rw [hc] at HST
        have hc' : (f[j].toNat : Int) = 100 := by rw [hc]; rfl
        clear hc
        have hrg := cRegister_any W4 x
        generalize hra : (((regVal x).getD 0 : Nat) : Int) = rv at hrg
        generalize hrb : (regVal x).isSome = rok at hrg
        have HRA := hid hra
        have HRB := hid hrb
        have HRG := hid hrg
        clear hra hrb hrg
        cases rok with
        | true =>
          have HS : Hid (stepL 100 x i = ({ i with d := rv }, true)) := hid (by simp [stepL, HRA.out, HRB.out])
          go_wp2_with fail
          refine HRG.out.mono ?_
          rintro e W5 ⟨rfl, hW5⟩
          rw [hW5]
          clear hW5
          go_wp2
          have hI2 : InsInv w b (u :: ws) (W4.setCell ⟨w.heap.size + 1, 1, none⟩ (.int .i64 rv)) { i with d := rv } := HI3.out.chg hb (chg_one _ _ _ _) (HI3.out.ins.setD _)
          refine ⟨⟨j + 1, { i with d := rv }, by omega, by go_num, hid hI2, hid ?_⟩, by simp [intOf]; omega⟩
          rw [HST.out, if_pos (by rw [HS.out]), HS.out]
        | false =>
          have HS : Hid (stepL 100 x i = ({ i with d := rv }, false)) := hid (by simp [stepL, HRA.out, HRB.out])
          go_wp2_with fail
          refine HRG.out.mono ?_
          rintro e W5 ⟨rfl, hW5⟩
          rw [hW5]
          clear hW5
          go_wp2
          have hI2 : InsInv w b (u :: ws) (W4.setCell ⟨w.heap.size + 1, 1, none⟩ (.int .i64 rv)) { i with d := rv } := HI3.out.chg hb (chg_one _ _ _ _) (HI3.out.ins.setD _)
          obtain ⟨z0, z1, z2, z3, z4, z5, z6, z7, z8⟩ := setDI_at hI2.res { i with d := rv }
          have hbel := below_setDI hI2.bel (Nat.le_refl w.heap.size) { i with d := rv }
          have hRR : RR = ({ i with d := rv }, false) := by rw [HST.out, if_neg (by rw [HS.out]; simp), HS.out]
          subst hRR
          refine ⟨rfl, .tuple #[encDI { i with d := rv }, .bool false], ?_, rfl, hbel⟩
          change (results _ _).run _ (setDI (W4.setCell ⟨w.heap.size + 1, 1, none⟩ (.int .i64 rv)) w.heap.size { i with d := rv }) = .ok _ (setDI (W4.setCell ⟨w.heap.size + 1, 1, none⟩ (.int .i64 rv)) w.heap.size { i with d := rv })
          generalize setDI (W4.setCell ⟨w.heap.size + 1, 1, none⟩ (.int .i64 rv)) w.heap.size { i with d := rv } = W' at *
          simp [results, Tryz.results101, go_sem, z0, z1, z2, z3, z4, z5, z6, z7, z8, encDI]
      · rw [hc] at HST
        have hc' : (f[j].toNat : Int) = 97 := by rw [hc]; rfl
        clear hc
        cases vok with
        | true =>
          have HS : Hid (stepL 97 x i = ({ i with a := xv }, true)) := hid (by simp [stepL, HVX.out])
          go_wp2
          have hI2 : InsInv w b (u :: ws) ((W4.setCell ⟨w.heap.size + 1, 2, none⟩ (.bool xv.reg)).setCell ⟨w.heap.size + 1, 3, none⟩ (.int .i64 xv.v)) { i with a := xv } := HI3.out.chg hb (chg_two _ _ _ _ _ _) (HI3.out.ins.setA _)
          refine ⟨⟨j + 1, { i with a := xv }, by omega, by go_num, hid hI2, hid ?_⟩, by simp [intOf]; omega⟩
          rw [HST.out, if_pos (by rw [HS.out]), HS.out]
        | false =>
          have HS : Hid (stepL 97 x i = ({ i with a := xv }, false)) := hid (by simp [stepL, HVX.out])
          go_wp2
          have hI2 : InsInv w b (u :: ws) ((W4.setCell ⟨w.heap.size + 1, 2, none⟩ (.bool xv.reg)).setCell ⟨w.heap.size + 1, 3, none⟩ (.int .i64 xv.v)) { i with a := xv } := HI3.out.chg hb (chg_two _ _ _ _ _ _) (HI3.out.ins.setA _)
          obtain ⟨z0, z1, z2, z3, z4, z5, z6, z7, z8⟩ := setDI_at hI2.res { i with a := xv }
          have hbel := below_setDI hI2.bel (Nat.le_refl w.heap.size) { i with a := xv }
          have hRR : RR = ({ i with a := xv }, false) := by rw [HST.out, if_neg (by rw [HS.out]; simp), HS.out]
          subst hRR
          refine ⟨rfl, .tuple #[encDI { i with a := xv }, .bool false], ?_, rfl, hbel⟩
          change (results _ _).run _ (setDI ((W4.setCell ⟨w.heap.size + 1, 2, none⟩ (.bool xv.reg)).setCell ⟨w.heap.size + 1, 3, none⟩ (.int .i64 xv.v)) w.heap.size { i with a := xv }) = .ok _ (setDI ((W4.setCell ⟨w.heap.size + 1, 2, none⟩ (.bool xv.reg)).setCell ⟨w.heap.size + 1, 3, none⟩ (.int .i64 xv.v)) w.heap.size { i with a := xv })
          generalize setDI ((W4.setCell ⟨w.heap.size + 1, 2, none⟩ (.bool xv.reg)).setCell ⟨w.heap.size + 1, 3, none⟩ (.int .i64 xv.v)) w.heap.size { i with a := xv } = W' at *
          simp [results, Tryz.results101, go_sem, z0, z1, z2, z3, z4, z5, z6, z7, z8, encDI]
      · rw [hc] at HST
        have hc' : (f[j].toNat : Int) = 98 := by rw [hc]; rfl
        clear hc
        cases vok with
        | true =>
          have HS : Hid (stepL 98 x i = ({ i with b := xv }, true)) := hid (by simp [stepL, HVX.out])
          go_wp2
          have hI2 : InsInv w b (u :: ws) ((W4.setCell ⟨w.heap.size + 1, 4, none⟩ (.bool xv.reg)).setCell ⟨w.heap.size + 1, 5, none⟩ (.int .i64 xv.v)) { i with b := xv } := HI3.out.chg hb (chg_two _ _ _ _ _ _) (HI3.out.ins.setB _)
          refine ⟨⟨j + 1, { i with b := xv }, by omega, by go_num, hid hI2, hid ?_⟩, by simp [intOf]; omega⟩
          rw [HST.out, if_pos (by rw [HS.out]), HS.out]
        | false =>
          have HS : Hid (stepL 98 x i = ({ i with b := xv }, false)) := hid (by simp [stepL, HVX.out])
          go_wp2
          have hI2 : InsInv w b (u :: ws) ((W4.setCell ⟨w.heap.size + 1, 4, none⟩ (.bool xv.reg)).setCell ⟨w.heap.size + 1, 5, none⟩ (.int .i64 xv.v)) { i with b := xv } := HI3.out.chg hb (chg_two _ _ _ _ _ _) (HI3.out.ins.setB _)
          obtain ⟨z0, z1, z2, z3, z4, z5, z6, z7, z8⟩ := setDI_at hI2.res { i with b := xv }
          have hbel := below_setDI hI2.bel (Nat.le_refl w.heap.size) { i with b := xv }
          have hRR : RR = ({ i with b := xv }, false) := by rw [HST.out, if_neg (by rw [HS.out]; simp), HS.out]
          subst hRR
          refine ⟨rfl, .tuple #[encDI { i with b := xv }, .bool false], ?_, rfl, hbel⟩
          change (results _ _).run _ (setDI ((W4.setCell ⟨w.heap.size + 1, 4, none⟩ (.bool xv.reg)).setCell ⟨w.heap.size + 1, 5, none⟩ (.int .i64 xv.v)) w.heap.size { i with b := xv }) = .ok _ (setDI ((W4.setCell ⟨w.heap.size + 1, 4, none⟩ (.bool xv.reg)).setCell ⟨w.heap.size + 1, 5, none⟩ (.int .i64 xv.v)) w.heap.size { i with b := xv })
          generalize setDI ((W4.setCell ⟨w.heap.size + 1, 4, none⟩ (.bool xv.reg)).setCell ⟨w.heap.size + 1, 5, none⟩ (.int .i64 xv.v)) w.heap.size { i with b := xv } = W' at *
          simp [results, Tryz.results101, go_sem, z0, z1, z2, z3, z4, z5, z6, z7, z8, encDI]
      · rw [hc] at HST
        have hc' : (f[j].toNat : Int) = 99 := by rw [hc]; rfl
        clear hc
        cases vok with
        | true =>
          have HS : Hid (stepL 99 x i = ({ i with c := xv }, true)) := hid (by simp [stepL, HVX.out])
          go_wp2
          have hI2 : InsInv w b (u :: ws) ((W4.setCell ⟨w.heap.size + 1, 6, none⟩ (.bool xv.reg)).setCell ⟨w.heap.size + 1, 7, none⟩ (.int .i64 xv.v)) { i with c := xv } := HI3.out.chg hb (chg_two _ _ _ _ _ _) (HI3.out.ins.setC _)
          refine ⟨⟨j + 1, { i with c := xv }, by omega, by go_num, hid hI2, hid ?_⟩, by simp [intOf]; omega⟩
          rw [HST.out, if_pos (by rw [HS.out]), HS.out]
        | false =>
          have HS : Hid (stepL 99 x i = ({ i with c := xv }, false)) := hid (by simp [stepL, HVX.out])
          go_wp2
          have hI2 : InsInv w b (u :: ws) ((W4.setCell ⟨w.heap.size + 1, 6, none⟩ (.bool xv.reg)).setCell ⟨w.heap.size + 1, 7, none⟩ (.int .i64 xv.v)) { i with c := xv } := HI3.out.chg hb (chg_two _ _ _ _ _ _) (HI3.out.ins.setC _)
          obtain ⟨z0, z1, z2, z3, z4, z5, z6, z7, z8⟩ := setDI_at hI2.res { i with c := xv }
          have hbel := below_setDI hI2.bel (Nat.le_refl w.heap.size) { i with c := xv }
          have hRR : RR = ({ i with c := xv }, false) := by rw [HST.out, if_neg (by rw [HS.out]; simp), HS.out]
          subst hRR
          refine ⟨rfl, .tuple #[encDI { i with c := xv }, .bool false], ?_, rfl, hbel⟩
          change (results _ _).run _ (setDI ((W4.setCell ⟨w.heap.size + 1, 6, none⟩ (.bool xv.reg)).setCell ⟨w.heap.size + 1, 7, none⟩ (.int .i64 xv.v)) w.heap.size { i with c := xv }) = .ok _ (setDI ((W4.setCell ⟨w.heap.size + 1, 6, none⟩ (.bool xv.reg)).setCell ⟨w.heap.size + 1, 7, none⟩ (.int .i64 xv.v)) w.heap.size { i with c := xv })
          generalize setDI ((W4.setCell ⟨w.heap.size + 1, 6, none⟩ (.bool xv.reg)).setCell ⟨w.heap.size + 1, 7, none⟩ (.int .i64 xv.v)) w.heap.size { i with c := xv } = W' at *
          simp [results, Tryz.results101, go_sem, z0, z1, z2, z3, z4, z5, z6, z7, z8, encDI]
      · rw [hc] at HST
        have hc' : (f[j].toNat : Int) = 107 := by rw [hc]; rfl
        clear hc
        cases nok with
        | true =>
          have HS : Hid (stepL 107 x i = ({ i with k := na }, true)) := hid (by simp [stepL, HNA.out, HNB.out])
          go_wp2
          have hI2 : InsInv w b (u :: ws) (W4.setCell ⟨w.heap.size + 1, 8, none⟩ (.int .i64 na)) { i with k := na } := HI3.out.chg hb (chg_one _ _ _ _) (HI3.out.ins.setK _)
          refine ⟨⟨j + 1, { i with k := na }, by omega, by go_num, hid hI2, hid ?_⟩, by simp [intOf]; omega⟩
          rw [HST.out, if_pos (by rw [HS.out]), HS.out]
        | false =>
          have HS : Hid (stepL 107 x i = ({ i with k := na }, false)) := hid (by simp [stepL, HNA.out, HNB.out])
          go_wp2
          have hI2 : InsInv w b (u :: ws) (W4.setCell ⟨w.heap.size + 1, 8, none⟩ (.int .i64 na)) { i with k := na } := HI3.out.chg hb (chg_one _ _ _ _) (HI3.out.ins.setK _)
          obtain ⟨z0, z1, z2, z3, z4, z5, z6, z7, z8⟩ := setDI_at hI2.res { i with k := na }
          have hbel := below_setDI hI2.bel (Nat.le_refl w.heap.size) { i with k := na }
          have hRR : RR = ({ i with k := na }, false) := by rw [HST.out, if_neg (by rw [HS.out]; simp), HS.out]
          subst hRR
          refine ⟨rfl, .tuple #[encDI { i with k := na }, .bool false], ?_, rfl, hbel⟩
          change (results _ _).run _ (setDI (W4.setCell ⟨w.heap.size + 1, 8, none⟩ (.int .i64 na)) w.heap.size { i with k := na }) = .ok _ (setDI (W4.setCell ⟨w.heap.size + 1, 8, none⟩ (.int .i64 na)) w.heap.size { i with k := na })
          generalize setDI (W4.setCell ⟨w.heap.size + 1, 8, none⟩ (.int .i64 na)) w.heap.size { i with k := na } = W' at *
          simp [results, Tryz.results101, go_sem, z0, z1, z2, z3, z4, z5, z6, z7, z8, encDI]
      · rw [hc] at HST
        have hc' : (f[j].toNat : Int) = 116 := by rw [hc]; rfl
        clear hc
        cases nok with
        | true =>
          by_cases hlo : 0 ≤ na
          · by_cases hhi : na ≤ 4000
            · have HS : Hid (stepL 116 x i = ({ i with k := na }, true)) := hid (by simp [stepL, HNA.out, HNB.out, hlo, hhi])
              go_wp2
              have hI2 : InsInv w b (u :: ws) (W4.setCell ⟨w.heap.size + 1, 8, none⟩ (.int .i64 na)) { i with k := na } := HI3.out.chg hb (chg_one _ _ _ _) (HI3.out.ins.setK _)
              refine ⟨⟨j + 1, { i with k := na }, by omega, by go_num, hid hI2, hid ?_⟩, by simp [intOf]; omega⟩
              rw [HST.out, if_pos (by rw [HS.out]), HS.out]
            · have HS : Hid (stepL 116 x i = ({ i with k := na }, false)) := hid (by simp [stepL, HNA.out, HNB.out, hlo, hhi])
              go_wp2
              case roundEnd => exfalso; rename_i hx; simp at hx; omega
              have hI2 : InsInv w b (u :: ws) (W4.setCell ⟨w.heap.size + 1, 8, none⟩ (.int .i64 na)) { i with k := na } := HI3.out.chg hb (chg_one _ _ _ _) (HI3.out.ins.setK _)
              obtain ⟨z0, z1, z2, z3, z4, z5, z6, z7, z8⟩ := setDI_at hI2.res { i with k := na }
              have hbel := below_setDI hI2.bel (Nat.le_refl w.heap.size) { i with k := na }
              have hRR : RR = ({ i with k := na }, false) := by rw [HST.out, if_neg (by rw [HS.out]; simp), HS.out]
              subst hRR
              refine ⟨rfl, .tuple #[encDI { i with k := na }, .bool false], ?_, rfl, hbel⟩
              change (results _ _).run _ (setDI (W4.setCell ⟨w.heap.size + 1, 8, none⟩ (.int .i64 na)) w.heap.size { i with k := na }) = .ok _ (setDI (W4.setCell ⟨w.heap.size + 1, 8, none⟩ (.int .i64 na)) w.heap.size { i with k := na })
              generalize setDI (W4.setCell ⟨w.heap.size + 1, 8, none⟩ (.int .i64 na)) w.heap.size { i with k := na } = W' at *
              simp [results, Tryz.results101, go_sem, z0, z1, z2, z3, z4, z5, z6, z7, z8, encDI]
          · have HS : Hid (stepL 116 x i = ({ i with k := na }, false)) := hid (by simp [stepL, HNA.out, HNB.out, hlo])
            go_wp2
            have hI2 : InsInv w b (u :: ws) (W4.setCell ⟨w.heap.size + 1, 8, none⟩ (.int .i64 na)) { i with k := na } := HI3.out.chg hb (chg_one _ _ _ _) (HI3.out.ins.setK _)
            obtain ⟨z0, z1, z2, z3, z4, z5, z6, z7, z8⟩ := setDI_at hI2.res { i with k := na }
            have hbel := below_setDI hI2.bel (Nat.le_refl w.heap.size) { i with k := na }
            have hRR : RR = ({ i with k := na }, false) := by rw [HST.out, if_neg (by rw [HS.out]; simp), HS.out]
            subst hRR
            refine ⟨rfl, .tuple #[encDI { i with k := na }, .bool false], ?_, rfl, hbel⟩
            change (results _ _).run _ (setDI (W4.setCell ⟨w.heap.size + 1, 8, none⟩ (.int .i64 na)) w.heap.size { i with k := na }) = .ok _ (setDI (W4.setCell ⟨w.heap.size + 1, 8, none⟩ (.int .i64 na)) w.heap.size { i with k := na })
            generalize setDI (W4.setCell ⟨w.heap.size + 1, 8, none⟩ (.int .i64 na)) w.heap.size { i with k := na } = W' at *
            simp [results, Tryz.results101, go_sem, z0, z1, z2, z3, z4, z5, z6, z7, z8, encDI]
        | false =>
          have HS : Hid (stepL 116 x i = ({ i with k := na }, false)) := hid (by simp [stepL, HNA.out, HNB.out])
          go_wp2
          have hI2 : InsInv w b (u :: ws) (W4.setCell ⟨w.heap.size + 1, 8, none⟩ (.int .i64 na)) { i with k := na } := HI3.out.chg hb (chg_one _ _ _ _) (HI3.out.ins.setK _)
          obtain ⟨z0, z1, z2, z3, z4, z5, z6, z7, z8⟩ := setDI_at hI2.res { i with k := na }
          have hbel := below_setDI hI2.bel (Nat.le_refl w.heap.size) { i with k := na }
          have hRR : RR = ({ i with k := na }, false) := by rw [HST.out, if_neg (by rw [HS.out]; simp), HS.out]
          subst hRR
          refine ⟨rfl, .tuple #[encDI { i with k := na }, .bool false], ?_, rfl, hbel⟩
          change (results _ _).run _ (setDI (W4.setCell ⟨w.heap.size + 1, 8, none⟩ (.int .i64 na)) w.heap.size { i with k := na }) = .ok _ (setDI (W4.setCell ⟨w.heap.size + 1, 8, none⟩ (.int .i64 na)) w.heap.size { i with k := na })
          generalize setDI (W4.setCell ⟨w.heap.size + 1, 8, none⟩ (.int .i64 na)) w.heap.size { i with k := na } = W' at *
          simp [results, Tryz.results101, go_sem, z0, z1, z2, z3, z4, z5, z6, z7, z8, encDI]
      · rw [hc] at HST
        have hc' : (f[j].toNat : Int) = 110 := by rw [hc]; rfl
        clear hc
        cases nok with
        | true =>
          by_cases hlo : 1 ≤ na
          · by_cases hhi : na ≤ 9
            · have HS : Hid (stepL 110 x i = ({ i with k := na }, true)) := hid (by simp [stepL, HNA.out, HNB.out, hlo, hhi])
              go_wp2
              have hI2 : InsInv w b (u :: ws) (W4.setCell ⟨w.heap.size + 1, 8, none⟩ (.int .i64 na)) { i with k := na } := HI3.out.chg hb (chg_one _ _ _ _) (HI3.out.ins.setK _)
              refine ⟨⟨j + 1, { i with k := na }, by omega, by go_num, hid hI2, hid ?_⟩, by simp [intOf]; omega⟩
              rw [HST.out, if_pos (by rw [HS.out]), HS.out]
            · have HS : Hid (stepL 110 x i = ({ i with k := na }, false)) := hid (by simp [stepL, HNA.out, HNB.out, hlo, hhi])
              go_wp2
              case roundEnd => exfalso; rename_i hx; simp at hx; omega
              have hI2 : InsInv w b (u :: ws) (W4.setCell ⟨w.heap.size + 1, 8, none⟩ (.int .i64 na)) { i with k := na } := HI3.out.chg hb (chg_one _ _ _ _) (HI3.out.ins.setK _)
              obtain ⟨z0, z1, z2, z3, z4, z5, z6, z7, z8⟩ := setDI_at hI2.res { i with k := na }
              have hbel := below_setDI hI2.bel (Nat.le_refl w.heap.size) { i with k := na }
              have hRR : RR = ({ i with k := na }, false) := by rw [HST.out, if_neg (by rw [HS.out]; simp), HS.out]
              subst hRR
              refine ⟨rfl, .tuple #[encDI { i with k := na }, .bool false], ?_, rfl, hbel⟩
              change (results _ _).run _ (setDI (W4.setCell ⟨w.heap.size + 1, 8, none⟩ (.int .i64 na)) w.heap.size { i with k := na }) = .ok _ (setDI (W4.setCell ⟨w.heap.size + 1, 8, none⟩ (.int .i64 na)) w.heap.size { i with k := na })
              generalize setDI (W4.setCell ⟨w.heap.size + 1, 8, none⟩ (.int .i64 na)) w.heap.size { i with k := na } = W' at *
              simp [results, Tryz.results101, go_sem, z0, z1, z2, z3, z4, z5, z6, z7, z8, encDI]
          · have HS : Hid (stepL 110 x i = ({ i with k := na }, false)) := hid (by simp [stepL, HNA.out, HNB.out, hlo])
            go_wp2
            have hI2 : InsInv w b (u :: ws) (W4.setCell ⟨w.heap.size + 1, 8, none⟩ (.int .i64 na)) { i with k := na } := HI3.out.chg hb (chg_one _ _ _ _) (HI3.out.ins.setK _)
            obtain ⟨z0, z1, z2, z3, z4, z5, z6, z7, z8⟩ := setDI_at hI2.res { i with k := na }
            have hbel := below_setDI hI2.bel (Nat.le_refl w.heap.size) { i with k := na }
            have hRR : RR = ({ i with k := na }, false) := by rw [HST.out, if_neg (by rw [HS.out]; simp), HS.out]
            subst hRR
            refine ⟨rfl, .tuple #[encDI { i with k := na }, .bool false], ?_, rfl, hbel⟩
            change (results _ _).run _ (setDI (W4.setCell ⟨w.heap.size + 1, 8, none⟩ (.int .i64 na)) w.heap.size { i with k := na }) = .ok _ (setDI (W4.setCell ⟨w.heap.size + 1, 8, none⟩ (.int .i64 na)) w.heap.size { i with k := na })
            generalize setDI (W4.setCell ⟨w.heap.size + 1, 8, none⟩ (.int .i64 na)) w.heap.size { i with k := na } = W' at *
            simp [results, Tryz.results101, go_sem, z0, z1, z2, z3, z4, z5, z6, z7, z8, encDI]
        | false =>
          have HS : Hid (stepL 110 x i = ({ i with k := na }, false)) := hid (by simp [stepL, HNA.out, HNB.out])
          go_wp2
          have hI2 : InsInv w b (u :: ws) (W4.setCell ⟨w.heap.size + 1, 8, none⟩ (.int .i64 na)) { i with k := na } := HI3.out.chg hb (chg_one _ _ _ _) (HI3.out.ins.setK _)
          obtain ⟨z0, z1, z2, z3, z4, z5, z6, z7, z8⟩ := setDI_at hI2.res { i with k := na }
          have hbel := below_setDI hI2.bel (Nat.le_refl w.heap.size) { i with k := na }
          have hRR : RR = ({ i with k := na }, false) := by rw [HST.out, if_neg (by rw [HS.out]; simp), HS.out]
          subst hRR
          refine ⟨rfl, .tuple #[encDI { i with k := na }, .bool false], ?_, rfl, hbel⟩
          change (results _ _).run _ (setDI (W4.setCell ⟨w.heap.size + 1, 8, none⟩ (.int .i64 na)) w.heap.size { i with k := na }) = .ok _ (setDI (W4.setCell ⟨w.heap.size + 1, 8, none⟩ (.int .i64 na)) w.heap.size { i with k := na })
          generalize setDI (W4.setCell ⟨w.heap.size + 1, 8, none⟩ (.int .i64 na)) w.heap.size { i with k := na } = W' at *
          simp [results, Tryz.results101, go_sem, z0, z1, z2, z3, z4, z5, z6, z7, z8, encDI]
    · have hlt' : ¬ (j : Int) < (f.size : Int) := by omega
      obtain rfl : j = f.size := by omega
      have hRR : RR = (i, true) := by
        rw [← HRR.out, List.drop_eq_nil_of_le (by rw [Array.length_toList]; exact Nat.le_refl _)]
        rfl
      subst hRR
      obtain ⟨i0, i1, i2, i3, i4, i5, i6, i7, i8⟩ := HI.out.ins
      obtain ⟨r0, r1, r2, r3, r4, r5, r6, r7, r8⟩ := HI.out.res
      have f0 := HI.out.fr 0
      have f1 := HI.out.fr 1
      have f2 := HI.out.fr 2
      have f3 := HI.out.fr 3
      have f4 := HI.out.fr 4
      have f5 := HI.out.fr 5
      have f6 := HI.out.fr 6
      have f7 := HI.out.fr 7
      have f8 := HI.out.fr 8
      go_wp2
      obtain ⟨z0, z1, z2, z3, z4, z5, z6, z7, z8⟩ := setDI_at HI.out.res i
      have hbel := below_setDI HI.out.bel (Nat.le_refl w.heap.size) i
      refine ⟨rfl, .tuple #[encDI i, .bool true], ?_, rfl, hbel⟩
      change (results _ _).run _ (setDI wr w.heap.size i) = .ok _ (setDI wr w.heap.size i)
      generalize setDI wr w.heap.size i = W' at *
      simp [results, Tryz.results101, go_sem, z0, z1, z2, z3, z4, z5, z6, z7, z8, encDI]
end
end Go.Proofs.YtfhkfnoajbbfdaaGreatDoor
