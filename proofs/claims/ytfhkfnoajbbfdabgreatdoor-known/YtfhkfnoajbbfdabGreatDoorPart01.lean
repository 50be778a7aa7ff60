import Derived.WalkKit
import Derived.WalkSpells
import Derived.Deep.Quiet
import Derived.Test.YtfhkfnoajbbfdabGreatDoorProg
import Derived.Deep.RegionWith
/- What a call may have turned: the cells that M names, no other cell of the blocks that were there. -/
namespace Go.Proofs.YtfhkfnoajbbfdabGreatDoor
open Go.RowKit

structure Chg (M : Nat → Nat → Prop) (w w' : World) : Prop where
  os : w'.os = w.os
  tape : w'.tape = w.tape
  output : w'.output = w.output
  size : w.heap.size ≤ w'.heap.size
  block : ∀ k, k < w.heap.size → (∀ i, ¬ M k i) → w'.heap[k]? = w.heap[k]?
  cell : ∀ k i, k < w.heap.size → ¬ M k i → w'.cell? ⟨k, i, none⟩ = w.cell? ⟨k, i, none⟩
  frozen : ∀ k i, k < w.heap.size → w'.frozen? ⟨k, i, none⟩ = w.frozen? ⟨k, i, none⟩
  shape : ∀ k, k < w.heap.size → w'.shape? k = w.shape? k

theorem Chg.refl (M : Nat → Nat → Prop) (w : World) : Chg M w w := ⟨rfl, rfl, rfl, Nat.le_refl _, fun _ _ _ => rfl, fun _ _ _ _ => rfl, fun _ _ _ => rfl, fun _ _ => rfl⟩

theorem Chg.trans {M : Nat → Nat → Prop} {a b c : World} (h : Chg M a b) (k : Chg M b c) : Chg M a c :=
  ⟨k.os.trans h.os, k.tape.trans h.tape, k.output.trans h.output, Nat.le_trans h.size k.size,
   fun j hj hm => (k.block j (Nat.lt_of_lt_of_le hj h.size) hm).trans (h.block j hj hm),
   fun j i hj hm => (k.cell j i (Nat.lt_of_lt_of_le hj h.size) hm).trans (h.cell j i hj hm),
   fun j i hj => (k.frozen j i (Nat.lt_of_lt_of_le hj h.size)).trans (h.frozen j i hj),
   fun j hj => (k.shape j (Nat.lt_of_lt_of_le hj h.size)).trans (h.shape j hj)⟩

/-- What lies behind the first world's end may turn freely. -/
theorem Chg.mono {M M' : Nat → Nat → Prop} {w w' : World} (h : Chg M w w') (hm : ∀ k i, k < w.heap.size → M k i → M' k i) : Chg M' w w' :=
  ⟨h.os, h.tape, h.output, h.size,
   fun k hk hn => h.block k hk fun i hi => hn i (hm k i hk hi),
   fun k i hk hn => h.cell k i hk fun hi => hn (hm k i hk hi),
   h.frozen, h.shape⟩

/-- One change behind another: the second may turn what lies behind the first world's end. -/
theorem Chg.then {M N : Nat → Nat → Prop} {a b c : World} (h : Chg M a b) (k : Chg N b c) (hN : ∀ j i, j < a.heap.size → N j i → M j i) : Chg M a c :=
  ((h.mono (M' := fun j i => M j i ∨ a.heap.size ≤ j) (fun _ _ _ hm => .inl hm)).trans (k.mono (fun j i _ hn => if hj : j < a.heap.size then .inl (hN j i hj hn) else .inr (Nat.le_of_not_lt hj)))).mono
    (fun _ _ hj hm => hm.elim id (fun hm => absurd hj (Nat.not_lt_of_le hm)))

theorem Chg.drew {M : Nat → Nat → Prop} {a w : World} (h : Chg M a w) : Chg M a w.drew := ⟨h.os, h.tape, h.output, h.size, h.block, h.cell, h.frozen, h.shape⟩

theorem shape_of_block {w w' : World} {k : Nat} (h : w'.heap[k]? = w.heap[k]?) : w'.shape? k = w.shape? k := by simp [World.shape?, h]

theorem shape_setCell (w : World) (a : Addr) (v : Value) (k : Nat) : (w.setCell a v).shape? k = w.shape? k := by
  unfold World.setCell World.shape?
  simp only [Array.getElem?_modify]
  by_cases hk : a.block = k
  · subst hk
    simp only [if_true]
    cases h : w.heap[a.block]? with
    | none => simp
    | some o => cases o <;> simp <;> split <;> simp
  · simp [hk]

theorem Chg.alloc {M : Nat → Nat → Prop} {a w : World} (h : Chg M a w) (o : Obj) : Chg M a (w.alloc o) := by
  refine ⟨h.os, h.tape, h.output, ?_, ?_, ?_, ?_, ?_⟩
  · have := h.size; simp; omega
  · intro k hk hn; exact (Below.heap_alloc w o k (Nat.lt_of_lt_of_le hk h.size)).trans (h.block k hk hn)
  · intro k i hk hn; exact (World.cell?_alloc_past o k i (Nat.lt_of_lt_of_le hk h.size)).trans (h.cell k i hk hn)
  · intro k i hk; exact (World.frozen?_alloc_past o k i (Nat.lt_of_lt_of_le hk h.size)).trans (h.frozen k i hk)
  · intro k hk; exact (shape_of_block (Below.heap_alloc w o k (Nat.lt_of_lt_of_le hk h.size))).trans (h.shape k hk)

theorem Chg.setCell {M : Nat → Nat → Prop} {a w : World} (h : Chg M a w) {b o : Nat} (hm : b < a.heap.size → M b o) (v : Value) : Chg M a (w.setCell ⟨b, o, none⟩ v) := by
  refine ⟨h.os, h.tape, h.output, ?_, ?_, ?_, ?_, ?_⟩
  · have := h.size; simpa [World.setCell] using this
  · intro k hk hn
    have hkb : k ≠ b := fun e => hn o (e ▸ hm (e ▸ hk))
    exact (Below.heap_setCell w ⟨b, o, none⟩ v k hkb).trans (h.block k hk hn)
  · intro k i hk hn
    have hkb : ¬ (k = b ∧ i = o) := fun e => hn (by rw [e.1, e.2]; exact hm (e.1 ▸ hk))
    exact (World.cell?_setCell_other w _ _ v (by simp; omega)).trans (h.cell k i hk hn)
  · intro k i hk
    exact (World.frozen?_setCell w _ _ v).trans (h.frozen k i hk)
  · intro k hk; exact (shape_setCell w _ v k).trans (h.shape k hk)

theorem Chg.of_below {M : Nat → Nat → Prop} {w w' : World} (h : Below w.heap.size w w') : Chg M w w' :=
  ⟨h.os, h.tape, h.output, h.size, fun k hk _ => h.block k hk, fun k i hk _ => h.cell (p := ⟨k, i, none⟩) hk, fun k i hk => h.frozen (p := ⟨k, i, none⟩) hk, fun k hk => shape_of_block (h.block k hk)⟩

theorem Chg.below {M : Nat → Nat → Prop} {w w' : World} {B : Nat} (h : Chg M w w') (hB : B ≤ w.heap.size) (hM : ∀ k i, M k i → B ≤ k) : Below B w w' :=
  ⟨h.os, h.tape, h.output, h.size, fun k hk => h.block k (Nat.lt_of_lt_of_le hk hB) fun i hi => Nat.lt_irrefl _ (Nat.lt_of_lt_of_le hk (hM k i hi))⟩

theorem cell_set_eq {w : World} {b o : Nat} {v u : Value} (h : w.cell? ⟨b, o, none⟩ = some u) {i : Nat} (e : i = o) : (w.setCell ⟨b, o, none⟩ v).cell? ⟨b, i, none⟩ = some v := by
  subst e; exact World.cell?_setCell_same w _ v h

theorem cell_set_ne {w : World} {b o k i : Nat} {v : Value} (e : k ≠ b ∨ i ≠ o) : (w.setCell ⟨b, o, none⟩ v).cell? ⟨k, i, none⟩ = w.cell? ⟨k, i, none⟩ :=
  World.cell?_setCell_other w _ _ v (by simp; omega)

theorem size_set (w : World) (a : Addr) (v : Value) : (w.setCell a v).heap.size = w.heap.size := by simp [World.setCell]

end Go.Proofs.YtfhkfnoajbbfdabGreatDoor

namespace Go.Proofs.YtfhkfnoajbbfdabGreatDoor
open Go.RowKit

/-- A ring at b, o: its eight cells of slots, where it begins, how much it holds. -/
structure RingAt (w : World) (b o : Nat) (x y : Nat → Int) (f c : Nat) : Prop where
  lt : b < w.heap.size
  first : f < 4
  count : c ≤ 4
  at_ : ∀ j, j < 4 → w.cell? ⟨b, o + j * 2, none⟩ = some (.int .i64 (x j))
  what : ∀ j, j < 4 → w.cell? ⟨b, o + j * 2 + 1, none⟩ = some (.int .i64 (y j))
  c8 : w.cell? ⟨b, o + 8, none⟩ = some (.int .i64 f)
  c9 : w.cell? ⟨b, o + 9, none⟩ = some (.int .i64 c)
  free : ∀ j, j < 10 → w.frozen? ⟨b, o + j, none⟩ = false

theorem RingAt.chg {w w' : World} {b o f c : Nat} {x y : Nat → Int} {M : Nat → Nat → Prop} (h : RingAt w b o x y f c) (hc : Chg M w w') (hM : ∀ j, j < 10 → ¬ M b (o + j)) : RingAt w' b o x y f c := {
  lt := Nat.lt_of_lt_of_le h.lt hc.size
  first := h.first
  count := h.count
  at_ := fun j hj => (hc.cell b _ h.lt (hM _ (by omega))).trans (h.at_ j hj)
  what := fun j hj => (hc.cell b _ h.lt (hM (j * 2 + 1) (by omega))).trans (h.what j hj)
  c8 := (hc.cell b _ h.lt (hM 8 (by omega))).trans h.c8
  c9 := (hc.cell b _ h.lt (hM 9 (by omega))).trans h.c9
  free := fun j hj => (hc.frozen b _ h.lt).trans (h.free j hj) }

def inRing (b o : Nat) : Nat → Nat → Prop := fun k i => k = b ∧ o ≤ i ∧ i < o + 10

theorem slot_any (b o : Nat) (i f : Int) (w : World) (hf : w.cell? ⟨b, o + 8, none⟩ = some (.int .i64 f)) (h0 : 0 ≤ f) (h1 : f < 4) (i0 : 0 ≤ i) (i1 : i ≤ 4) :
    Calls Tryz.prog 118 #[.pointer (some ⟨b, o, none⟩), .int .i64 i] w fun e w' => e = .returned (.int .i64 ((f + i) % 4)) ∧ w' = w := by
  go_enter Tryz.func118, Tryz.ntmps118
  go_wp2
  go_ret
  exact ⟨rfl, rfl⟩

set_option maxHeartbeats 400000 in
theorem pop_none (b o : Nat) (w : World) (hb : b < w.heap.size) (h9 : w.cell? ⟨b, o + 9, none⟩ = some (.int .i64 0)) :
    Calls Tryz.prog 79 #[.pointer (some ⟨b, o, none⟩)] w fun e w' => e = .returned (.tuple #[.agg #[.int .i64 0, .int .i64 0], .bool false]) ∧ Below w.heap.size w w' := by
  have hb1 : b < w.heap.size + 1 := by omega
  have hb2 : b < w.heap.size + 2 := by omega
  go_enter Tryz.func79, Tryz.ntmps79
  go_wp2
  exact bodyPost_ret (v := .tuple #[.agg #[.int .i64 0, .int .i64 0], .bool false]) (by simp [results, Tryz.results79, go_sem]) rfl ⟨rfl, ((Below.refl _ _).alloc (Nat.le_refl _) _).alloc (by simp) _⟩

theorem pop_ring {b o f c : Nat} {x y : Nat → Int} {w : World} (h : RingAt w b o x y f c) (hc : 1 ≤ c) (o1 o2 o3 : Obj) :
    RingAt (((((((w.setCell ⟨b, o + f * 2, none⟩ (.int .i64 0)).setCell ⟨b, o + f * 2 + 1, none⟩ (.int .i64 0)).setCell ⟨b, o + 8, none⟩ (.int .i64 (((f : Int) + 1) % 4))).setCell ⟨b, o + 9, none⟩ (.int .i64 ((c : Int) - 1))).alloc o1).alloc o2).alloc o3).drew.drew
      b o (fun j => if j = f then 0 else x j) (fun j => if j = f then 0 else y j) ((f + 1) % 4) (c - 1) := by
  have hb := h.lt
  have hf := h.first
  have hc4 := h.count
  let u := (((w.setCell ⟨b, o + f * 2, none⟩ (.int .i64 0)).setCell ⟨b, o + f * 2 + 1, none⟩ (.int .i64 0)).setCell ⟨b, o + 8, none⟩ (.int .i64 (((f : Int) + 1) % 4))).setCell ⟨b, o + 9, none⟩ (.int .i64 ((c : Int) - 1))
  have hu : RingAt u b o (fun j => if j = f then 0 else x j) (fun j => if j = f then 0 else y j) ((f + 1) % 4) (c - 1) := by
    refine ⟨by simpa [u, World.setCell] using hb, by omega, by omega, ?_, ?_, ?_, ?_, ?_⟩
    · intro j hj
      have e := h.at_ j hj
      rw [cell_set_ne (by omega), cell_set_ne (by omega), cell_set_ne (by omega)]
      by_cases ej : j = f
      · subst ej; rw [if_pos rfl]; exact cell_set_eq e rfl
      · rw [if_neg ej, cell_set_ne (by omega)]; exact e
    · intro j hj
      have e := h.what j hj
      rw [cell_set_ne (by omega), cell_set_ne (by omega)]
      by_cases ej : j = f
      · subst ej; rw [if_pos rfl]; exact cell_set_eq ((cell_set_ne (by omega)).trans e) rfl
      · rw [if_neg ej, cell_set_ne (by omega), cell_set_ne (by omega)]; exact e
    · rw [cell_set_ne (by omega)]
      have e : ((f : Int) + 1) % 4 = (((f + 1) % 4 : Nat) : Int) := by omega
      rw [e]
      exact cell_set_eq ((cell_set_ne (by omega)).trans ((cell_set_ne (by omega)).trans h.c8)) rfl
    · have e : (c : Int) - 1 = ((c - 1 : Nat) : Int) := by omega
      show u.cell? _ = _
      rw [← e]
      exact cell_set_eq ((cell_set_ne (by omega)).trans ((cell_set_ne (by omega)).trans ((cell_set_ne (by omega)).trans h.c9))) rfl
    · intro j hj
      simp only [u, World.frozen?_setCell]
      exact h.free j hj
  exact hu.chg (M := fun _ _ => False) ((((((Chg.refl _ u).alloc o1).alloc o2).alloc o3).drew).drew) (fun _ _ h => h)

set_option maxHeartbeats 1000000 in
theorem pop_some (b o f c : Nat) (x y : Nat → Int) (w : World) (h : RingAt w b o x y f c) (hc : 1 ≤ c) :
    Calls Tryz.prog 79 #[.pointer (some ⟨b, o, none⟩)] w fun e w' => e = .returned (.tuple #[.agg #[.int .i64 (x f), .int .i64 (y f)], .bool true]) ∧ Chg (inRing b o) w w' ∧
      RingAt w' b o (fun j => if j = f then 0 else x j) (fun j => if j = f then 0 else y j) ((f + 1) % 4) (c - 1) := by
  have hb := h.lt
  have hf := h.first
  have hc4 := h.count
  have h8 := h.c8
  have h9 := h.c9
  have hx1 := h.at_ f hf
  have hy1 := h.what f hf
  have hz8 := h.free 8 (by omega)
  have hz9 := h.free 9 (by omega)
  have hzx := h.free (f * 2) (by omega)
  have hzy : w.frozen? ⟨b, o + f * 2 + 1, none⟩ = false := h.free (f * 2 + 1) (by omega)
  have hne : ((c : Int) == 0) = false := by simp; omega
  have hb1 : b < w.heap.size + 1 := by omega
  have hb2 : b < w.heap.size + 2 := by omega
  have hb3 : b < w.heap.size + 1 + 1 := by omega
  have hb4 : b < w.heap.size + 3 := by omega
  have hf' : (f : Int) < 4 := by omega
  have HR : Hid (RingAt w b o x y f c) := h
  clear h
  go_enter Tryz.func79, Tryz.ntmps79
  go_wp2
  go_region
  all_goals go_wp2
  all_goals go_region
  all_goals go_wp2
  all_goals
    have h := HR.out
    refine bodyPost_ret (v := .tuple #[.agg #[.int .i64 (x f), .int .i64 (y f)], .bool true]) (by simp [results, Tryz.results79, go_sem]) rfl ⟨rfl, ?_, ?_⟩
    · refine (((((((((Chg.refl _ w).setCell ?_ _).setCell ?_ _).setCell ?_ _).setCell ?_ _).alloc _).alloc _).alloc _).drew).drew <;> exact fun _ => ⟨rfl, by omega, by omega⟩
    · exact pop_ring h hc _ _ _

theorem push_ring {b o f c : Nat} {x y : Nat → Int} {w : World} (h : RingAt w b o x y f c) (hc : c < 4) (p q : Int) :
    RingAt (((w.setCell ⟨b, o + (f + c) % 4 * 2, none⟩ (.int .i64 p)).setCell ⟨b, o + (f + c) % 4 * 2 + 1, none⟩ (.int .i64 q)).setCell ⟨b, o + 9, none⟩ (.int .i64 ((c : Int) + 1)))
      b o (fun j => if j = (f + c) % 4 then p else x j) (fun j => if j = (f + c) % 4 then q else y j) f (c + 1) := by
  have hb := h.lt
  have hf := h.first
  generalize hg : (f + c) % 4 = g
  have hg4 : g < 4 := by omega
  refine ⟨by simpa [World.setCell] using hb, hf, by omega, ?_, ?_, ?_, ?_, ?_⟩
  · intro j hj
    have e := h.at_ j hj
    rw [cell_set_ne (by omega), cell_set_ne (by omega)]
    by_cases ej : j = g
    · subst ej; rw [if_pos rfl]; exact cell_set_eq e rfl
    · rw [if_neg ej, cell_set_ne (by omega)]; exact e
  · intro j hj
    have e := h.what j hj
    rw [cell_set_ne (by omega)]
    by_cases ej : j = g
    · subst ej; rw [if_pos rfl]; exact cell_set_eq ((cell_set_ne (by omega)).trans e) rfl
    · rw [if_neg ej, cell_set_ne (by omega), cell_set_ne (by omega)]; exact e
  · rw [cell_set_ne (by omega), cell_set_ne (by omega), cell_set_ne (by omega)]; exact h.c8
  · have e : (c : Int) + 1 = ((c + 1 : Nat) : Int) := by omega
    rw [← e]
    exact cell_set_eq ((cell_set_ne (by omega)).trans ((cell_set_ne (by omega)).trans h.c9)) rfl
  · intro j hj
    simp only [World.frozen?_setCell]
    exact h.free j hj

set_option maxHeartbeats 1000000 in
theorem push_room (b o f c : Nat) (x y : Nat → Int) (p q : Int) (w : World) (h : RingAt w b o x y f c) (hc : c < 4) :
    Calls Tryz.prog 336 #[.pointer (some ⟨b, o, none⟩), .agg #[.int .i64 p, .int .i64 q]] w fun e w' => e = .returned (.tuple #[.agg #[.int .i64 0, .int .i64 0], .bool false]) ∧ Chg (inRing b o) w w' ∧
      RingAt w' b o (fun j => if j = (f + c) % 4 then p else x j) (fun j => if j = (f + c) % 4 then q else y j) f (c + 1) := by
  have hb := h.lt
  have hf := h.first
  have h8 := h.c8
  have h9 := h.c9
  have hx1 := h.at_ ((f + c) % 4) (by omega)
  have hy1 := h.what ((f + c) % 4) (by omega)
  have hz9 := h.free 9 (by omega)
  have hzx := h.free ((f + c) % 4 * 2) (by omega)
  have hzy : w.frozen? ⟨b, o + (f + c) % 4 * 2 + 1, none⟩ = false := h.free ((f + c) % 4 * 2 + 1) (by omega)
  have hne : ((c : Int) == 4) = false := by simp; omega
  have hb1 : b < w.heap.size + 1 := by omega
  have hb2 : b < w.heap.size + 2 := by omega
  have hb3 : b < w.heap.size + 1 + 1 := by omega
  have hb4 : b < w.heap.size + 3 := by omega
  have hf' : (f : Int) < 4 := by omega
  have HR : Hid (RingAt w b o x y f c) := h
  clear h
  go_enter Tryz.func336, Tryz.ntmps336
  go_wp2
  go_region_calls
  all_goals go_wp2
  all_goals
    have h := HR.out
    refine bodyPost_ret (v := .tuple #[.agg #[.int .i64 0, .int .i64 0], .bool false]) (by simp [results, Tryz.results336, go_sem]) rfl ⟨rfl, ?_, ?_⟩
    · refine (((((((Chg.refl _ w).setCell ?_ _).setCell ?_ _).setCell ?_ _).alloc _).alloc _).alloc _).drew <;> exact fun _ => ⟨rfl, by omega, by omega⟩
    · exact (push_ring h hc p q).chg (M := fun _ _ => False) (((((Chg.refl _ _).alloc _).alloc _).alloc _).drew) (fun _ _ h => h)

end Go.Proofs.YtfhkfnoajbbfdabGreatDoor

namespace Go.Proofs.YtfhkfnoajbbfdabGreatDoor
open Go.RowKit

theorem push_full_ring {b o f g k1 k2 : Nat} {x y : Nat → Int} {p q u1 u2 u3 u4 : Int} {w1 : World} (h : RingAt w1 b o (fun j => if j = f then 0 else x j) (fun j => if j = f then 0 else y j) g 3) (hf : f < 4) (hg : g < 4)
    (he : ((g : Int) + 3) % 4 = f) (h1 : b ≠ k1) (h2 : b ≠ k2) (hgf : g = (f + 1) % 4) :
    RingAt (((((((w1.setCell ⟨k2, 0, none⟩ (.int .i64 u1)).setCell ⟨k2, 1, none⟩ (.int .i64 u2)).setCell ⟨b, o + f * 2, none⟩ (.int .i64 p)).setCell ⟨b, o + f * 2 + 1, none⟩ (.int .i64 q)).setCell ⟨b, o + 9, none⟩ (.int .i64 4)).setCell ⟨k1, 0, none⟩ (.int .i64 u3)).setCell ⟨k1, 1, none⟩ (.int .i64 u4)).drew
      b o (fun j => if j = f then p else x j) (fun j => if j = f then q else y j) ((f + 1) % 4) 4 := by
  have hu : RingAt ((w1.setCell ⟨k2, 0, none⟩ (.int .i64 u1)).setCell ⟨k2, 1, none⟩ (.int .i64 u2)) b o (fun j => if j = f then 0 else x j) (fun j => if j = f then 0 else y j) g 3 :=
    h.chg (M := fun k _ => k = k2) (((Chg.refl (fun k _ => k = k2) w1).setCell (b := k2) (o := 0) (fun _ => rfl) _).setCell (b := k2) (o := 1) (fun _ => rfl) _) (fun _ _ e => h2 e)
  have hp := push_ring hu (by omega) p q
  have hn : (g + 3) % 4 = f := by omega
  rw [hn] at hp
  have e1 : (fun j => if j = f then p else if j = f then 0 else x j) = (fun j => if j = f then p else x j) := by funext j; split <;> rfl
  have e2 : (fun j => if j = f then q else if j = f then 0 else y j) = (fun j => if j = f then q else y j) := by funext j; split <;> rfl
  rw [e1, e2] at hp
  subst hgf
  have e4 : (((3 : Nat) : Int) + 1) = 4 := rfl
  rw [e4] at hp
  exact hp.chg (M := fun k _ => k = k1) ((((Chg.refl (fun k _ => k = k1) _).setCell (b := k1) (o := 0) (fun _ => rfl) _).setCell (b := k1) (o := 1) (fun _ => rfl) _).drew) (fun _ _ e => h1 e)

set_option maxHeartbeats 1000000 in
theorem push_full (b o f : Nat) (x y : Nat → Int) (p q : Int) (w : World) (h : RingAt w b o x y f 4) :
    Calls Tryz.prog 336 #[.pointer (some ⟨b, o, none⟩), .agg #[.int .i64 p, .int .i64 q]] w fun e w' => e = .returned (.tuple #[.agg #[.int .i64 (x f), .int .i64 (y f)], .bool true]) ∧ Chg (inRing b o) w w' ∧
      RingAt w' b o (fun j => if j = f then p else x j) (fun j => if j = f then q else y j) ((f + 1) % 4) 4 := by
  have hb := h.lt
  have hf := h.first
  have h9 := h.c9
  have HR : Hid (RingAt w b o x y f 4) := h
  have hb1 : b < w.heap.size + 1 := by omega
  have hb2 : b < w.heap.size + 2 := by omega
  clear h
  go_enter Tryz.func336, Tryz.ntmps336
  go_wp2_with fail
  refine (pop_some b o f 4 x y _ (HR.out.chg (M := fun _ _ => False) ((((Chg.refl _ w).alloc _).alloc _).alloc _) (fun _ _ h => h)) (by omega)).mono ?_
  rintro e w1 ⟨rfl, hchg, hr⟩
  have k0 : ∀ i v, (((w.alloc (.cells #[.int .i64 p, .int .i64 q] 115)).alloc (.cells #[.int .i64 0, .int .i64 0] 115)).alloc (.cells #[.int .i64 0, .int .i64 0] 115)).cell? ⟨w.heap.size, i, none⟩ = v → w1.cell? ⟨w.heap.size, i, none⟩ = v := fun i v hv => (hchg.cell _ i (by simp; omega) (by intro h; exact absurd h.1 (by omega))).trans hv
  have k1 : ∀ i v, (((w.alloc (.cells #[.int .i64 p, .int .i64 q] 115)).alloc (.cells #[.int .i64 0, .int .i64 0] 115)).alloc (.cells #[.int .i64 0, .int .i64 0] 115)).cell? ⟨w.heap.size + 1, i, none⟩ = v → w1.cell? ⟨w.heap.size + 1, i, none⟩ = v := fun i v hv => (hchg.cell _ i (by simp) (by intro h; exact absurd h.1 (by omega))).trans hv
  have k2 : ∀ i v, (((w.alloc (.cells #[.int .i64 p, .int .i64 q] 115)).alloc (.cells #[.int .i64 0, .int .i64 0] 115)).alloc (.cells #[.int .i64 0, .int .i64 0] 115)).cell? ⟨w.heap.size + 2, i, none⟩ = v → w1.cell? ⟨w.heap.size + 2, i, none⟩ = v := fun i v hv => (hchg.cell _ i (by simp) (by intro h; exact absurd h.1 (by omega))).trans hv
  have a0 := k0 0 (some (.int .i64 p)) (by simp [go_sem])
  have a1 := k0 1 (some (.int .i64 q)) (by simp [go_sem])
  have b0 := k1 0 (some (.int .i64 0)) (by simp [go_sem])
  have b1 := k1 1 (some (.int .i64 0)) (by simp [go_sem])
  have c0 := k2 0 (some (.int .i64 0)) (by simp [go_sem])
  have c1 := k2 1 (some (.int .i64 0)) (by simp [go_sem])
  have z1 : ∀ i, w1.frozen? ⟨w.heap.size + 1, i, none⟩ = false := fun i => (hchg.frozen _ i (by simp)).trans (by simp [go_sem])
  have z2 : ∀ i, w1.frozen? ⟨w.heap.size + 2, i, none⟩ = false := fun i => (hchg.frozen _ i (by simp)).trans (by simp [go_sem])
  have hs1 : w.heap.size + 2 < w1.heap.size := by have := hchg.size; simp at this; omega
  have hs2 : w.heap.size + 1 < w1.heap.size := by omega
  have hs3 : w.heap.size < w1.heap.size := by omega
  have HC : Hid (Chg (inRing b o) (((w.alloc (.cells #[.int .i64 p, .int .i64 q] 115)).alloc (.cells #[.int .i64 0, .int .i64 0] 115)).alloc (.cells #[.int .i64 0, .int .i64 0] 115)) w1) := hchg
  clear k0 k1 k2 hchg
  have e3 : (f + 1) % 4 < 4 := by omega
  have hx1 := hr.at_ f hf
  have hy1 := hr.what f hf
  have hz9 := hr.free 9 (by omega)
  have hzx := hr.free (f * 2) (by omega)
  have hzy : w1.frozen? ⟨b, o + f * 2 + 1, none⟩ = false := hr.free (f * 2 + 1) (by omega)
  have h8 := hr.c8
  have h9' := hr.c9
  have HR1 : Hid (RingAt w1 b o (fun j => if j = f then 0 else x j) (fun j => if j = f then 0 else y j) ((f + 1) % 4) 3) := hr
  have hbb := hr.lt
  clear hr h9
  simp only [if_true] at hx1 hy1
  have he : ((((f + 1) % 4 : Nat) : Int) + 3) % 4 = (f : Int) := by omega
  generalize (f + 1) % 4 = g at *
  go_wp2
  go_region_calls
  all_goals go_wp2
  all_goals
    refine bodyPost_ret (v := .tuple #[.agg #[.int .i64 (x f), .int .i64 (y f)], .bool true]) (by simp [results, Tryz.results336, go_sem, *]) rfl ⟨rfl, ?_, ?_⟩
    · have hc0 : Chg (inRing b o) w w1 := ((((Chg.refl _ w).alloc _).alloc _).alloc _).trans HC.out
      refine (((((((hc0.setCell ?_ _).setCell ?_ _).setCell ?_ _).setCell ?_ _).setCell ?_ _).setCell ?_ _).setCell ?_ _).drew <;> first | exact fun _ => ⟨rfl, by omega, by omega⟩ | (intro h; exact absurd h (by omega))
    · exact push_full_ring HR1.out (by omega) e3 he (by omega) (by omega) (by omega)
end Go.Proofs.YtfhkfnoajbbfdabGreatDoor
