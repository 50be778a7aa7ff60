import Derived.Test.YtfhkfnoajbbfdaaGreatDoorPart40
/- The document's row: an instruction. -/
namespace Go.Proofs.YtfhkfnoajbbfdaaGreatDoor
open Go.RowKit

theorem infoCIns : (Tryz.prog.info? 127).map (fun i => (i.zero, i.size, i.bytes)) = some (some (.agg #[.string ⟨#[]⟩, .int .i64 0, .bool false, .int .i64 0, .bool false, .int .i64 0, .bool false, .int .i64 0, .int .i64 0]), 9, 80) := by kernel_rfl

section
variable {D : Nat → Prop} {lab : Nat → Nat × Nat} {w : World} {bm mb bw c : Nat} {tv : Value} {m : Nat → Int} {ts : List CT} {us : List ByteArray} {u : ByteArray}

/-- Not the head of a thread. -/
def NotHead (u : ByteArray) (us : List ByteArray) : Prop := us ≠ [] ∨ u ≠ wThread

theorem head_cases (hN : NotHead u us) : (¬ ((us.length : Int) + 1 = 1)) ∨ ((us.length : Int) + 1 = 1 ∧ (u.toList == [116, 104, 114, 101, 97, 100]) = false) := by
  by_cases e : us = []
  · exact .inr ⟨by rw [e]; rfl, ne_list (hN.resolve_left (fun h => h e))⟩
  · have := List.length_pos_iff.2 e; exact .inl (by omega)

theorem row_slice {w : World} {e : TypeId} {sz : Nat} {v : Value} {n : Nat} {xs : List Value} (h : w.ownsRow 0 e sz v n xs) : ∃ ta tk, v = .slice ta n tk := by
  rcases h.2 with ⟨e1, e2⟩ | ⟨g', cap', cur, e1, _⟩
  · exact ⟨none, 0, by rw [e1, e2]⟩
  · exact ⟨_, _, e1⟩

set_option maxRecDepth 100000 in
set_option maxHeartbeats 1000000 in
theorem cRow_syntax (h : CMach D lab w bm mb tv m ts) (hN : NotHead u us) (hw : StrsAt w bw (u :: us))
    (hins : Hid (Calls Tryz.prog 101 #[.slice (some ⟨bw, 0, none⟩) (us.length + 1) c] w fun e w' => (∃ i, e = .returned (.tuple #[encDI i, .bool false])) ∧ Below w.heap.size w w')) :
    Calls Tryz.prog 71 #[ptr bm, .slice (some ⟨bw, 0, none⟩) (us.length + 1) c] w fun e w' => e = .returned (.int .i64 2) ∧ Below w.heap.size w w' := by
  have hc := h.tc
  have h0 : w.cell? ⟨bw, 0, none⟩ = some (.string u) := hw 0 (by simp)
  obtain ⟨ta, tk, rfl⟩ := row_slice h.trow
  have H := hid h
  clear h hw
  rcases head_cases hN with h1 | ⟨h1, h2⟩
  all_goals
    go_enter Tryz.func71, Tryz.ntmps71
    go_wp2_with fail
    refine hins.out.mono ?_
    rintro e W1 ⟨⟨i, rfl⟩, b1⟩
    unfold encDI
    have B1 := hid b1
    clear b1 hins
    go_wp2
    go_ret
    exact ⟨rfl, B1.out.alloc B1.out.size _⟩

set_option maxRecDepth 100000 in
set_option maxHeartbeats 1000000 in
theorem cRow_place (h : CMach D lab w bm mb tv m []) (hN : NotHead u us) (hw : StrsAt w bw (u :: us))
    (hins : Hid (Calls Tryz.prog 101 #[.slice (some ⟨bw, 0, none⟩) (us.length + 1) c] w fun e w' => (∃ i, e = .returned (.tuple #[encDI i, .bool true])) ∧ Below w.heap.size w w')) :
    Calls Tryz.prog 71 #[ptr bm, .slice (some ⟨bw, 0, none⟩) (us.length + 1) c] w fun e w' => e = .returned (.int .i64 3) ∧ Below w.heap.size w w' := by
  have hc := h.tc
  have h0 : w.cell? ⟨bw, 0, none⟩ = some (.string u) := hw 0 (by simp)
  obtain ⟨ta, tk, rfl⟩ := row_slice h.trow
  change w.cell? ⟨bm, 1, none⟩ = some (.slice ta 0 tk) at hc
  have H := hid h
  clear h hw
  rcases head_cases hN with h1 | ⟨h1, h2⟩
  all_goals
    go_enter Tryz.func71, Tryz.ntmps71
    go_wp2_with fail
    refine hins.out.mono ?_
    rintro e W1 ⟨⟨i, rfl⟩, b1⟩
    unfold encDI
    have B1 := hid b1
    clear b1 hins
    go_wp2
    go_ret
    exact ⟨rfl, B1.out.alloc B1.out.size _⟩

/-- The last thread of a machine. -/
theorem last_ptr {W : World} {k : Nat} {ta : Option Addr} {tk : Nat} (h : CMach D lab W bm mb (.slice ta ts.length tk) m ts) (hk : ts.length = k + 1) : ∃ tg, ta = some ⟨tg, 0, none⟩ ∧ W.cell? ⟨tg, k, none⟩ = some (ptr (ts[k]'(by omega)).b) ∧ tg < W.heap.size := by
  rcases h.trow.2 with ⟨e1, e2⟩ | ⟨g', cap', cur, e1, _⟩
  · omega
  · simp only [Value.slice.injEq] at e1
    obtain ⟨rfl, _, rfl⟩ := e1
    obtain ⟨q1, _, q3⟩ := ownsRow_cell h.trow k (by omega)
    refine ⟨g', rfl, ?_, q3⟩
    rw [q1]
    simp [List.getElem?_eq_getElem (show k < ts.length by omega)]

set_option maxRecDepth 100000 in
set_option maxHeartbeats 1000000 in
theorem cRow_full (h : CMach D lab w bm mb tv m ts) (k : Nat) (hk : ts.length = k + 1) (hf : (ts[k]'(by omega)).code.length = 4000) (hN : NotHead u us) (hw : StrsAt w bw (u :: us)) (hk3 : k < 3)
    (hins : Hid (Calls Tryz.prog 101 #[.slice (some ⟨bw, 0, none⟩) (us.length + 1) c] w fun e w' => (∃ i, e = .returned (.tuple #[encDI i, .bool true])) ∧ Below w.heap.size w w')) :
    Calls Tryz.prog 71 #[ptr bm, .slice (some ⟨bw, 0, none⟩) (us.length + 1) c] w fun e w' => e = .returned (.int .i64 5) ∧ Below w.heap.size w w' := by
  have hc := h.tc
  have h0 : w.cell? ⟨bw, 0, none⟩ = some (.string u) := hw 0 (by simp)
  obtain ⟨ta, tk, rfl⟩ := row_slice h.trow
  have H := hid h
  clear h hw
  rw [hk] at hc
  have hkk : wrap64 (((k + 1 : Nat) : Int) - 1) = (k : Int) := by unfold wrap64; omega
  have hk0 : ¬ (k : Int) < 0 := by omega
  rcases head_cases hN with h1 | ⟨h1, h2⟩
  all_goals
    go_enter Tryz.func71, Tryz.ntmps71
    go_wp2_with fail
    refine hins.out.mono ?_
    rintro e W1 ⟨⟨i, rfl⟩, b1⟩
    unfold encDI
    have H1 := H.out.below b1
    obtain ⟨tg, rfl, p1, p2⟩ := last_ptr H1 hk
    have hth := H1.th k (by omega)
    have c0 := hth.codec
    obtain ⟨ca, ck, hcv⟩ := row_slice hth.crow
    rw [hcv, hf] at c0
    have hc1 := H1.tc
    rw [hk] at hc1
    have hl1 := lt_of_shape H1.sh
    have hl2 := lt_of_shape hth.sh
    have B1 := hid b1
    clear b1 hins H1 hth hcv
    generalize (ts[k]'(by omega)).b = tb at *
    go_wp2
    go_ret
    exact ⟨rfl, B1.out.alloc B1.out.size _⟩
end
end Go.Proofs.YtfhkfnoajbbfdaaGreatDoor
