import Derived.Test.YtfhkfnoajbbfdaaGreatDoorPart07
import Derived.Deep.OwnRows
import Derived.Laws.IdiomCopy
import Derived.Test.YtfhkfnoajbbfdaaGreatDoorPart13
import Derived.Test.YtfhkfnoajbbfdaaGreatDoorPart14
import Derived.Test.YtfhkfnoajbbfdaaGreatDoorPart16
import Derived.Test.YtfhkfnoajbbfdaaGreatDoorPart17
import Derived.Test.YtfhkfnoajbbfdaaGreatDoorPart15
import Derived.Test.YtfhkfnoajbbfdaaGreatDoorPart18
import Derived.RangeFuncLeaves
namespace Go.Proofs.YtfhkfnoajbbfdaaGreatDoor
open Go.RowKit

section
variable {D : Nat → Prop} {w : World} {bm : Nat} {m : Nat → Int} {ts : List Tr}

set_option maxRecDepth 100000 in
set_option maxHeartbeats 1000000 in
theorem has_yes (bm bt n cap : Nat) (i : Nat) (hc : w.cell? ⟨bm, 256, none⟩ = some (.slice (some ⟨bt, 0, none⟩) n cap)) (hi : i < n) :
    Calls Tryz.prog 78 #[ptr bm, .int .i64 i] w fun e w' => e = .returned (.bool true) ∧ w' = w := by
  have hi' : (i : Int) < (n : Int) := by omega
  go_enter Tryz.func78, Tryz.ntmps78
  go_wp2
  go_ret
  exact ⟨by simp, rfl⟩

set_option maxRecDepth 100000 in
set_option maxHeartbeats 1000000 in
theorem has_no (bm bt n cap : Nat) (i : Nat) (hc : w.cell? ⟨bm, 256, none⟩ = some (.slice (some ⟨bt, 0, none⟩) n cap)) (hi : n ≤ i) :
    Calls Tryz.prog 78 #[ptr bm, .int .i64 i] w fun e w' => e = .returned (.bool false) ∧ w' = w := by
  have hi' : ¬ (i : Int) < (n : Int) := by omega
  go_enter Tryz.func78, Tryz.ntmps78
  go_wp2
  go_ret
  exact ⟨by simp, rfl⟩

theorem MAt.slot (h : MAt D w bm m ts) : ∃ bt cap, w.cell? ⟨bm, 256, none⟩ = some (.slice (some ⟨bt, 0, none⟩) ts.length cap) ∧ ∀ i (h : i < ts.length), w.cell? ⟨bt, i, none⟩ = some (ptr ts[i].b) :=
  let ⟨bt, cap, _, h1, _, h3⟩ := h.thr; ⟨bt, cap, h1, h3⟩

set_option maxRecDepth 100000 in
set_option maxHeartbeats 1000000 in
theorem m_step_yes (h : MAt D w bm m ts) (i : Nat) (hi : i < ts.length) (R : World → Prop) (hs : Calls Tryz.prog 80 #[ptr ts[i].b] w fun e w' => e = .returned (.tuple #[]) ∧ R w') :
    Calls Tryz.prog 55 #[ptr bm, .int .i64 i] w fun e w' => e = .returned (.tuple #[]) ∧ R w' := by
  obtain ⟨bt, cap, h1, h3⟩ := h.slot
  have hx : w.cell? ⟨bt, i, none⟩ = some (.pointer (some ⟨ts[i].b, 0, none⟩)) := h3 i hi
  have hi' : (i : Int) < (ts.length : Int) := by omega
  have HS := hid hs
  clear h h3 hs
  go_enter Tryz.func55, Tryz.ntmps55
  go_wp2_with fail
  refine (has_yes bm bt _ cap i h1 hi).mono ?_
  rintro e w' ⟨rfl, rfl⟩
  go_wp2_with fail
  refine HS.out.mono ?_
  rintro e w1 ⟨rfl, hr⟩
  have HR := hid hr
  clear hr HS
  go_wp2
  go_end0
  exact ⟨rfl, HR.out⟩

set_option maxRecDepth 100000 in
set_option maxHeartbeats 1000000 in
theorem m_step_no (h : MAt D w bm m ts) (i : Nat) (hi : ts.length ≤ i) :
    Calls Tryz.prog 55 #[ptr bm, .int .i64 i] w fun e w' => e = .returned (.tuple #[]) ∧ w' = w := by
  obtain ⟨bt, cap, h1, h3⟩ := h.slot
  clear h h3
  go_enter Tryz.func55, Tryz.ntmps55
  go_wp2_with fail
  refine (has_no bm bt _ cap i h1 hi).mono ?_
  rintro e w' ⟨rfl, rfl⟩
  go_wp2
  go_end0
  exact ⟨rfl, rfl⟩

set_option maxRecDepth 100000 in
set_option maxHeartbeats 1000000 in
theorem m_flush_yes (h : MAt D w bm m ts) (i : Nat) (hi : i < ts.length) (v : Bool) (R : World → Prop) (hs : Calls Tryz.prog 83 #[ptr ts[i].b] w fun e w' => e = .returned (.bool v) ∧ R w') :
    Calls Tryz.prog 58 #[ptr bm, .int .i64 i] w fun e w' => e = .returned (.tuple #[]) ∧ R w' := by
  obtain ⟨bt, cap, h1, h3⟩ := h.slot
  have hx : w.cell? ⟨bt, i, none⟩ = some (.pointer (some ⟨ts[i].b, 0, none⟩)) := h3 i hi
  have hi' : (i : Int) < (ts.length : Int) := by omega
  have HS := hid hs
  clear h h3 hs
  go_enter Tryz.func58, Tryz.ntmps58
  go_wp2_with fail
  refine (has_yes bm bt _ cap i h1 hi).mono ?_
  rintro e w' ⟨rfl, rfl⟩
  go_wp2_with fail
  refine HS.out.mono ?_
  rintro e w1 ⟨rfl, hr⟩
  have HR := hid hr
  clear hr HS
  go_wp2
  go_end0
  exact ⟨rfl, HR.out⟩

set_option maxRecDepth 100000 in
set_option maxHeartbeats 1000000 in
theorem m_state_yes (h : MAt D w bm m ts) (i : Nat) (hi : i < ts.length) :
    Calls Tryz.prog 59 #[ptr bm, .int .i64 i] w fun e w' => e = .returned (.int .i64 ts[i].T.st) ∧ w' = w := by
  obtain ⟨bt, cap, h1, h3⟩ := h.slot
  have hx : w.cell? ⟨bt, i, none⟩ = some (.pointer (some ⟨ts[i].b, 0, none⟩)) := h3 i hi
  have hi' : (i : Int) < (ts.length : Int) := by omega
  have hst := (h.th i hi).state
  clear h h3
  go_enter Tryz.func59, Tryz.ntmps59
  go_wp2_with fail
  refine (has_yes bm bt _ cap i h1 hi).mono ?_
  rintro e w' ⟨rfl, rfl⟩
  go_wp2_with fail
  refine (state_any _ _ _ hst).mono ?_
  rintro e w1 ⟨rfl, rfl⟩
  go_wp2
  go_ret
  exact ⟨rfl, rfl⟩

set_option maxRecDepth 100000 in
set_option maxHeartbeats 1000000 in
theorem m_waiting_yes (h : MAt D w bm m ts) (i : Nat) (hi : i < ts.length) :
    Calls Tryz.prog 57 #[ptr bm, .int .i64 i] w fun e w' => e = .returned (.int .i64 (ts[i].T.q.length : Int)) ∧ w' = w := by
  obtain ⟨bt, cap, h1, h3⟩ := h.slot
  have hx : w.cell? ⟨bt, i, none⟩ = some (.pointer (some ⟨ts[i].b, 0, none⟩)) := h3 i hi
  have hi' : (i : Int) < (ts.length : Int) := by omega
  have hst := (h.th i hi).ring.count
  clear h h3
  go_enter Tryz.func57, Tryz.ntmps57
  go_wp2_with fail
  refine (has_yes bm bt _ cap i h1 hi).mono ?_
  rintro e w' ⟨rfl, rfl⟩
  go_wp2_with fail
  refine (waiting_any _ _ _ hst).mono ?_
  rintro e w1 ⟨rfl, rfl⟩
  go_wp2
  go_ret
  exact ⟨rfl, rfl⟩

set_option maxRecDepth 100000 in
set_option maxHeartbeats 1000000 in
theorem m_peek (h : MemAt w bm m) (j : Nat) (hj : j < 256) :
    Calls Tryz.prog 56 #[ptr bm, .int .i64 j] w fun e w' => e = .returned (.int .i64 (m j)) ∧ w' = w := by
  have hc := h.cells j hj
  have hj' : (j : Int) < 256 := by omega
  have hj2 : ¬ (256 : Int) ≤ (j : Int) := by omega
  clear h
  go_enter Tryz.func56, Tryz.ntmps56
  go_wp2
  go_ret
  exact ⟨by simp, rfl⟩
end
end Go.Proofs.YtfhkfnoajbbfdaaGreatDoor

namespace Go.Proofs.YtfhkfnoajbbfdaaGreatDoor
open Go.RowKit

section
variable {w : World} {b bm : Nat} {iv ov : Value} {T : Th} {m : Nat → Int}

theorem below_setCells {w0 : World} {B : Nat} (g : Nat) (hg : B ≤ g) : ∀ (vs : List Value) (o : Nat) (w : World), Below B w0 w → Below B w0 (w.setCells g o vs)
  | [], _, _, h => h
  | v :: r, o, _, h => below_setCells g hg r (o + 1) _ (h.setCell (p := ⟨g, o, none⟩) hg v)

theorem size_setCells (g : Nat) : ∀ (vs : List Value) (o : Nat) (w : World), (w.setCells g o vs).heap.size = w.heap.size
  | [], _, _ => rfl
  | v :: r, o, w => (size_setCells g r (o + 1) _).trans (size_set w _ v)

theorem run_copy_out (w : World) (ov : Value) (xs : List Int) (hown : w.ownsRow 0 2 1 ov xs.length (xs.map (Value.int .i64))) (ty : TypeId) :
    ∃ k, (Builtin.copy_ #[34, 34] ty #[.slice (some ⟨w.heap.size, 0, none⟩) xs.length xs.length, ov]).run Tryz.prog (w.alloc (.cells (madeCells #[.int .i64 0] xs.length) 2)) = .ok (goInt k) ((w.alloc (.cells (madeCells #[.int .i64 0] xs.length) 2)).setCells w.heap.size 0 (xs.map (Value.int .i64))) := by
  have hs : (Tryz.prog.info? 2).map (·.size) = some 1 := by kernel_rfl
  rcases hown.2 with ⟨rfl, h0⟩ | ⟨g, cap, cur, rfl, _, hg, hn, _, hcs, htake⟩
  · have hx : xs = [] := List.eq_nil_of_length_eq_zero h0
    subst hx
    exact ⟨0, run_copy_none (P := Tryz.prog) _ _ _ ty 2 _ _ _ _ _ _ Tryz.underlying34 hs (by simp)⟩
  · refine ⟨_, run_copy_cells (P := Tryz.prog) _ 34 34 ty 2 w.heap.size 0 _ _ ⟨g, 0, none⟩ _ cap (xs.map (Value.int .i64)) Tryz.underlying34 hs (by simp) ?_ ?_ ?_ ?_⟩
    · intro j v hv
      have := hown.cells (g := g) rfl j v hv
      rw [← this]
      have hlt : g < w.heap.size := (Array.getElem?_eq_some_iff.1 hg).1
      exact World.cell?_alloc_lt w _ _ (by unfold Addr.add; split <;> exact hlt)
    · intro j hj
      rw [World.cell?_alloc_at _ _ _ _ rfl]
      simp at hj ⊢
      simp [madeCells, hj]
    · intro j hj
      exact World.frozen?_alloc_at _ _ _ _ rfl
    · intro v hv
      obtain ⟨z, _, rfl⟩ := List.mem_map.1 hv
      rfl

set_option maxRecDepth 100000 in
set_option maxHeartbeats 1000000 in
theorem th_out (h : ThAt w b bm iv ov T) (hl : T.out.length < 1099511627776) :
    Calls Tryz.prog 79 #[ptr b] w fun e w' => e = .returned (.slice (some ⟨w.heap.size, 0, none⟩) T.out.length T.out.length) ∧ Below w.heap.size w w' ∧ w.heap.size < w'.heap.size ∧ ∀ j (hj : j < T.out.length), w'.cell? ⟨w.heap.size, j, none⟩ = some (.int .i64 T.out[j]) := by
  have hmk := fun W => run_make_row' (P := Tryz.prog) 34 2 (.int .i64 0) 8 Tryz.underlying34 infoInt64 rfl .i64 .i64 T.out.length (by omega) (by omega) W
  have ho := h.outc
  have hb := h.lt
  have hsl : (∃ a n c, ov = .slice a n c) ∧ ov = .slice (match ov with | .slice a _ _ => a | _ => none) T.out.length (match ov with | .slice _ _ c => c | _ => 0) := by
    rcases h.out.2 with ⟨e, h0⟩ | ⟨g, cap, cur, e, _⟩
    · subst e; rw [h0]; exact ⟨⟨_, _, _, rfl⟩, rfl⟩
    · subst e; exact ⟨⟨_, _, _, rfl⟩, rfl⟩
  obtain ⟨⟨a, n, c, rfl⟩, he⟩ := hsl
  simp only [Value.slice.injEq, true_and, and_true] at he
  subst he
  have hcp := fun ty => run_copy_out w _ T.out h.out ty
  have hc0 : ∀ o, (w.alloc o).cell? ⟨b, 21, none⟩ = some (.slice a T.out.length c) := fun o => (World.cell?_alloc_past _ _ _ hb).trans ho
  obtain ⟨k, hk⟩ := hcp 3
  clear hcp h
  go_enter Tryz.func79, Tryz.ntmps79
  go_wp2
  go_ret
  refine ⟨rfl, below_setCells _ (Nat.le_refl _) _ _ _ (below_box _ _), by rw [size_setCells]; simp, fun j hj => ?_⟩
  have := World.cell?_setCells_in w.heap.size (T.out.map (Value.int .i64)) 0 (w.alloc (.cells (madeCells #[.int .i64 0] T.out.length) 2)) (fun j hj => by rw [World.cell?_alloc_at _ _ _ _ rfl]; simp at hj ⊢; simp [madeCells, hj]) j (by simpa using hj)
  simpa using this
end
end Go.Proofs.YtfhkfnoajbbfdaaGreatDoor

namespace Go.Proofs.YtfhkfnoajbbfdaaGreatDoor
open Go.RowKit

section
variable {D : Nat → Prop} {w : World} {bm : Nat} {m : Nat → Int} {ts : List Tr}

set_option maxRecDepth 100000 in
set_option maxHeartbeats 1000000 in
theorem m_out_yes (h : MAt D w bm m ts) (i : Nat) (hi : i < ts.length) (hl : ts[i].T.out.length < 1099511627776) :
    Calls Tryz.prog 54 #[ptr bm, .int .i64 i] w fun e w' => e = .returned (.slice (some ⟨w.heap.size, 0, none⟩) ts[i].T.out.length ts[i].T.out.length) ∧ Below w.heap.size w w' ∧ w.heap.size < w'.heap.size ∧ ∀ j (hj : j < ts[i].T.out.length), w'.cell? ⟨w.heap.size, j, none⟩ = some (.int .i64 ts[i].T.out[j]) := by
  obtain ⟨bt, cap, h1, h3⟩ := h.slot
  have hx : w.cell? ⟨bt, i, none⟩ = some (.pointer (some ⟨ts[i].b, 0, none⟩)) := h3 i hi
  have hi' : (i : Int) < (ts.length : Int) := by omega
  have HS := hid (th_out (h.th i hi) hl)
  clear h h3
  go_enter Tryz.func54, Tryz.ntmps54
  go_wp2_with fail
  refine (has_yes bm bt _ cap i h1 hi).mono ?_
  rintro e w' ⟨rfl, rfl⟩
  go_wp2_with fail
  refine HS.out.mono ?_
  rintro e w1 ⟨rfl, hr⟩
  have HR := hid hr
  clear hr HS
  go_wp2
  go_ret
  exact ⟨rfl, HR.out⟩

set_option maxRecDepth 100000 in
set_option maxHeartbeats 1000000 in
theorem p_state (h : MAt D w bm m ts) (i : Nat) (hi : i < ts.length) :
    Calls Tryz.prog 31 #[ptr bm, .int .i64 i] w fun e w' => e = .returned (.int .i64 ts[i].T.st) ∧ w' = w := by
  have HS := hid (m_state_yes h i hi)
  clear h
  go_enter Tryz.func31, Tryz.ntmps31
  go_wp2_with fail
  refine HS.out.mono ?_
  rintro e w1 ⟨rfl, rfl⟩
  go_wp2
  go_ret
  exact ⟨rfl, rfl⟩

set_option maxRecDepth 100000 in
set_option maxHeartbeats 1000000 in
theorem p_waiting (h : MAt D w bm m ts) (i : Nat) (hi : i < ts.length) :
    Calls Tryz.prog 29 #[ptr bm, .int .i64 i] w fun e w' => e = .returned (.int .i64 (ts[i].T.q.length : Int)) ∧ w' = w := by
  have HS := hid (m_waiting_yes h i hi)
  clear h
  go_enter Tryz.func29, Tryz.ntmps29
  go_wp2_with fail
  refine HS.out.mono ?_
  rintro e w1 ⟨rfl, rfl⟩
  go_wp2
  go_ret
  exact ⟨rfl, rfl⟩

set_option maxRecDepth 100000 in
set_option maxHeartbeats 1000000 in
theorem p_peek (h : MAt D w bm m ts) (j : Nat) (hj : j < 256) :
    Calls Tryz.prog 28 #[ptr bm, .int .i64 j] w fun e w' => e = .returned (.int .i64 (m j)) ∧ w' = w := by
  have HS := hid (m_peek h.mem j hj)
  clear h
  go_enter Tryz.func28, Tryz.ntmps28
  go_wp2_with fail
  refine HS.out.mono ?_
  rintro e w1 ⟨rfl, rfl⟩
  go_wp2
  go_ret
  exact ⟨rfl, rfl⟩

set_option maxRecDepth 100000 in
set_option maxHeartbeats 1000000 in
theorem p_out (h : MAt D w bm m ts) (i : Nat) (hi : i < ts.length) (hl : ts[i].T.out.length < 1099511627776) :
    Calls Tryz.prog 26 #[ptr bm, .int .i64 i] w fun e w' => e = .returned (.slice (some ⟨w.heap.size, 0, none⟩) ts[i].T.out.length ts[i].T.out.length) ∧ Below w.heap.size w w' ∧ w.heap.size < w'.heap.size ∧ ∀ j (hj : j < ts[i].T.out.length), w'.cell? ⟨w.heap.size, j, none⟩ = some (.int .i64 ts[i].T.out[j]) := by
  have HS := hid (m_out_yes h i hi hl)
  clear h
  go_enter Tryz.func26, Tryz.ntmps26
  go_wp2_with fail
  refine HS.out.mono ?_
  rintro e w1 ⟨rfl, hr⟩
  have HR := hid hr
  clear hr HS
  go_wp2
  go_ret
  exact ⟨rfl, HR.out⟩
end
end Go.Proofs.YtfhkfnoajbbfdaaGreatDoor

namespace Go.Proofs.YtfhkfnoajbbfdaaGreatDoor
open Go.RowKit

/-- An instruction, and what its parts keep to. -/
def okI (i : Ic) : Prop := i.d < 8 ∧ i.a.ok ∧ i.b.ok ∧ i.c.ok ∧ (i.k = 2 ∨ i.k = 3 ∨ i.k = 4 ∨ i.k = 5 ∨ i.k = 6 ∨ i.k = 7 ∨ i.k = 8 ∨ i.k = 10 ∨ i.k = 0 ∨ (i.k = 1 ∧ i.op < 12) ∨ i.k = 9)

theorem encVl_num {x : Vl} (h : x.reg = false) : encVl x = .iface 378 (.int .i64 x.v) := by simp [encVl, h]
theorem encVl_reg {x : Vl} (h : x.reg = true) : encVl x = .iface 300 (.int .i64 x.v) := by simp [encVl, h]
theorem Vl.of_num {x : Vl} (h : x.reg = false) (T : Th) : x.of T = x.v := by simp [Vl.of, h]
theorem Vl.of_reg {x : Vl} (h : x.reg = true) (T : Th) : x.of T = T.r x.v.toNat := by simp [Vl.of, h]

section
variable {w : World} {b bm : Nat} {iv ov : Value} {T : Th} {m : Nat → Int}

theorem th_do (h : ThAt w b bm iv ov T) (hm : MemAt w bm m) (i : Ic) (hok : okI i) (hl : T.out.length < 1099511627776) :
    Calls Tryz.prog (insF i) #[insV i, ifc b] w fun e w' => e = .returned (.tuple #[]) ∧ Eff w b bm iv ov (doI i T m).1 (doI i T m).2 w' := by
  obtain ⟨k, op, d, xa, xb, xc, n⟩ := i
  obtain ⟨hd, ha, hb, hc, hk⟩ := hok
  simp only at hd ha hb hc hk
  have d0 : (0 : Int) ≤ (d : Int) := by omega
  have d1 : (d : Int) < 8 := by omega
  have hk' := hk
  rcases hk with rfl | rfl | rfl | rfl | rfl | rfl | rfl | rfl | rfl | ⟨rfl, hop⟩ | rfl
  · simp only [insF, insV, doI, if_true]
    by_cases hin : 0 ≤ atOf xa n T ∧ atOf xa n T < 256
    · rw [if_pos hin]
      have := do_load_in h hm xa ha n d d0 d1 hin.1 hin.2
      rwa [Int.toNat_natCast] at this
    · rw [if_neg hin]
      exact do_load_out h hm xa ha n d hin
  · simp only [insF, insV, doI, if_true, Nat.reduceEqDiff, if_false]
    by_cases hin : 0 ≤ atOf xa n T ∧ atOf xa n T < 256
    · rw [if_pos hin]
      cases hr : xb.reg
      · rw [encVl_num hr, Vl.of_num hr]; exact do_store_num h hm xa ha n xb.v hin.1 hin.2
      · have hv := hb hr
        rw [encVl_reg hr, Vl.of_reg hr]; exact do_store_reg h hm xa ha n xb.v hv.1 hv.2 hin.1 hin.2
    · rw [if_neg hin]
      exact do_store_out h hm xa xb ha n hin
  · simp only [insF, insV, doI, if_true, Nat.reduceEqDiff, if_false]
    by_cases hin : 0 ≤ atOf xa n T ∧ atOf xa n T < 256
    · rw [if_pos hin]
      by_cases he : drainM m T.q (atOf xa n T).toNat = xb.of T
      · have := do_cas_eq_any h hm xa xb xc ha hb hc n d d0 d1 hin.1 hin.2 he
        rw [Int.toNat_natCast] at this
        rw [if_pos he]; exact this
      · have := do_cas_ne_any h hm xa xb xc ha hb hc n d d0 d1 hin.1 hin.2 he
        rw [Int.toNat_natCast] at this
        rw [if_neg he]; exact this
    · rw [if_neg hin]
      exact do_cas_out h hm xa xb xc ha n d hin
  · simp only [insF, insV, doI, if_true, Nat.reduceEqDiff, if_false]
    by_cases hin : 0 ≤ atOf xa n T ∧ atOf xa n T < 256
    · rw [if_pos hin]
      have := do_xadd_any h hm xa xb ha hb n d d0 d1 hin.1 hin.2
      rwa [Int.toNat_natCast] at this
    · rw [if_neg hin]
      exact do_xadd_out h hm xa xb ha n d hin
  · simp only [insF, insV, doI, if_true, Nat.reduceEqDiff, if_false]
    exact do_fence h hm
  · simp only [insF, insV, doI, if_true, Nat.reduceEqDiff, if_false]
    exact do_give h hm xa ha hl
  · simp only [insF, insV, doI, if_true, Nat.reduceEqDiff, if_false]
    exact do_leap h hm n
  · simp only [insF, insV, doI, Nat.reduceEqDiff, if_false]
    exact do_end h hm n
  · simp only [insF, insV, doI, if_true, Nat.reduceEqDiff, if_false]
    have := do_move h hm xa ha d d0 d1
    rwa [Int.toNat_natCast] at this
  · simp only [insF, insV, doI, if_true, Nat.reduceEqDiff, if_false]
    cases hv : opV op (xa.of T) (xb.of T) with
    | some v =>
      have := do_operate_ok h hm xa xb ha hb op d v d0 d1 (fun W => by
        have := opOf_any (xa.of T) (xb.of T) W op hop
        rw [hv] at this
        exact this)
      rw [Int.toNat_natCast] at this
      exact this
    | none =>
      exact do_operate_trap h hm xa xb ha hb op d 0 (fun W => by
        have := opOf_any (xa.of T) (xb.of T) W op hop
        rw [hv] at this
        exact this)
  · simp only [insF, insV, doI, if_true, Nat.reduceEqDiff, if_false]
    by_cases hz : xa.of T = 0
    · rw [if_pos hz]; exact do_leapIf_zero h hm xa ha n hz
    · rw [if_neg hz]; exact do_leapIf_not h hm xa ha n hz

theorem ins_method (i : Ic) (hok : okI i) (W : World) : (method 584 (insT i) (insV i) "Do").run Tryz.prog W = .ok (insF i, insV i) W := by
  obtain ⟨k, op, d, xa, xb, xc, n⟩ := i
  obtain ⟨hd, ha, hb, hc, hk⟩ := hok
  simp only at hk
  rcases hk with rfl | rfl | rfl | rfl | rfl | rfl | rfl | rfl | rfl | ⟨rfl, hop⟩ | rfl
  · exact mDoload _ W
  · exact mDostore _ W
  · exact mDocas _ W
  · exact mDoxadd _ W
  · exact mDofence _ W
  · exact mDogive _ W
  · exact mDoleap _ W
  · exact mDoend _ W
  · exact mDomove _ W
  · exact mDooperate _ W
  · exact mDoleapIf _ W

theorem ins_enters (i : Ic) (hok : okI i) : ∀ args W, (callFunc (insF i) args).run Tryz.prog W = .ok (.enter (insF i) args) W := by
  obtain ⟨k, op, d, xa, xb, xc, n⟩ := i
  obtain ⟨hd, ha, hb, hc, hk⟩ := hok
  simp only at hk
  rcases hk with rfl | rfl | rfl | rfl | rfl | rfl | rfl | rfl | rfl | ⟨rfl, hop⟩ | rfl
  · exact enters_of Tryz.func324 (by kernel_rfl) rfl
  · exact enters_of Tryz.func325 (by kernel_rfl) rfl
  · exact enters_of Tryz.func326 (by kernel_rfl) rfl
  · exact enters_of Tryz.func327 (by kernel_rfl) rfl
  · exact enters_of Tryz.func328 (by kernel_rfl) rfl
  · exact enters_of Tryz.func329 (by kernel_rfl) rfl
  · exact enters_of Tryz.func330 (by kernel_rfl) rfl
  · exact enters_of Tryz.func332 (by kernel_rfl) rfl
  · exact enters_of Tryz.func322 (by kernel_rfl) rfl
  · exact enters_of Tryz.func316 (by kernel_rfl) rfl
  · exact enters_of Tryz.func331 (by kernel_rfl) rfl

/-- A thread's step, whatever stands at its place. -/
theorem th_step (h : ThAt w b bm iv ov T) (hm : MemAt w bm m) {D : Nat → Prop} (c : List Ic) (hc : CodeAt D w iv c) (hok : ∀ i ∈ c, okI i) (hlen : c.length ≤ 4000) (hpl : 0 ≤ T.pl) (hl : T.out.length < 1099511627776) :
    Calls Tryz.prog 80 #[ptr b] w fun e w' => e = .returned (.tuple #[]) ∧ Eff w b bm iv ov (stepT T m c).1 (stepT T m c).2 w' := by
  by_cases hst : T.st = 0
  · obtain ⟨p, hp⟩ := Int.eq_ofNat_of_zero_le hpl
    by_cases hlt : p < c.length
    · rcases hc with ⟨_, hnil⟩ | ⟨bi, cap, n, hiv, _, hcell⟩
      · subst hnil; simp at hlt
      · have hi := hok c[p] (List.getElem_mem hlt)
        have := th_step_do h hm hst bi c.length cap hiv p hp hlt (insT c[p]) (insV c[p]) (hcell p hlt) (by omega) (insF c[p]) _ _ (ins_method _ hi) (ins_enters _ hi) (fun W h' hm' => th_do h' hm' c[p] hi hl)
        simpa only [stepT, hst, if_true, hp, Int.toNat_natCast, List.getElem?_eq_getElem hlt] using this
    · have hge : (c.length : Int) ≤ T.pl := by omega
      have hs : stepT T m c = ({ T with st := 10 }, m) := by
        simp only [stepT, hst, if_true, hp, Int.toNat_natCast, List.getElem?_eq_none (Nat.le_of_not_lt hlt)]
      rw [hs]
      rcases hc with ⟨hiv, hnil⟩ | ⟨bi, cap, n, hiv, _⟩
      · subst hnil; exact th_step_end h hm hst none 0 0 hiv hge
      · exact th_step_end h hm hst _ c.length cap hiv hge
  · have hs : stepT T m c = (T, m) := by simp only [stepT, hst, if_false]
    rw [hs]
    refine (th_step_still h hst).mono ?_
    rintro e w' ⟨rfl, rfl⟩
    exact ⟨rfl, ov, h, hm, Chg.refl _ _, .inl rfl⟩

theorem th_flush (h : ThAt w b bm iv ov T) (hm : MemAt w bm m) :
    ∃ v, Calls Tryz.prog 83 #[ptr b] w fun e w' => e = .returned (.bool v) ∧ Eff w b bm iv ov (flushT T m).1 (flushT T m).2 w' := by
  cases hq : T.q with
  | nil => exact ⟨false, by simpa only [flushT, hq] using th_flush_nil h hm hq⟩
  | cons p q => exact ⟨true, by simpa only [flushT, hq] using th_flush_cons h hm p q hq⟩
end

/-- A machine as plain data lies in memory. -/
def MRep (D : Nat → Prop) (w : World) (bm : Nat) (A : List (Th × List Ic)) (m : Nat → Int) : Prop := ∃ ts, MAt D w bm m ts ∧ ts.map (fun t => (t.T, t.code)) = A

def stepA (A : List (Th × List Ic)) (m : Nat → Int) (i : Nat) : List (Th × List Ic) × (Nat → Int) := match A[i]? with
  | none => (A, m)
  | some p => (A.set i ((stepT p.1 m p.2).1, p.2), (stepT p.1 m p.2).2)
def flushA (A : List (Th × List Ic)) (m : Nat → Int) (i : Nat) : List (Th × List Ic) × (Nat → Int) := match A[i]? with
  | none => (A, m)
  | some p => (A.set i ((flushT p.1 m).1, p.2), (flushT p.1 m).2)
def okA (A : List (Th × List Ic)) : Prop := ∀ p ∈ A, 0 ≤ p.1.pl ∧ p.2.length ≤ 4000 ∧ (∀ i ∈ p.2, okI i) ∧ p.1.out.length < 1099511627776

section
variable {D : Nat → Prop} {w : World} {bm : Nat} {A : List (Th × List Ic)} {m : Nat → Int}

theorem m_step (h : MRep D w bm A m) (hD : ∀ k, w.heap.size ≤ k → D k) (hok : okA A) (i : Nat) (hi : i < A.length) :
    Calls Tryz.prog 55 #[ptr bm, .int .i64 i] w fun e w' => e = .returned (.tuple #[]) ∧ (MRep D w' bm (stepA A m i).1 (stepA A m i).2 ∧ Chg (fun k _ => D k) w w') := by
  obtain ⟨ts, h, rfl⟩ := h
  have hi' : i < ts.length := by simpa using hi
  have hp := hok (ts[i].T, ts[i].code) (List.mem_map.2 ⟨ts[i], List.getElem_mem hi', rfl⟩)
  have hs : stepA (ts.map fun t => (t.T, t.code)) m i = ((ts.map fun t => (t.T, t.code)).set i ((stepT ts[i].T m ts[i].code).1, ts[i].code), (stepT ts[i].T m ts[i].code).2) := by
    simp only [stepA, List.getElem?_map, List.getElem?_eq_getElem hi', Option.map_some]
  rw [hs]
  refine m_step_yes h i hi' _ ((th_step (h.th i hi') h.mem ts[i].code (h.code i hi') hp.2.2.1 hp.2.1 hp.1 hp.2.2.2).mono ?_)
  rintro e w' ⟨rfl, he⟩
  obtain ⟨ov', h1, h2⟩ := h.frame hi' hD he
  exact ⟨rfl, ⟨_, h1, by rw [List.map_set]⟩, h2⟩

theorem m_flush (h : MRep D w bm A m) (hD : ∀ k, w.heap.size ≤ k → D k) (i : Nat) (hi : i < A.length) :
    Calls Tryz.prog 58 #[ptr bm, .int .i64 i] w fun e w' => e = .returned (.tuple #[]) ∧ (MRep D w' bm (flushA A m i).1 (flushA A m i).2 ∧ Chg (fun k _ => D k) w w') := by
  obtain ⟨ts, h, rfl⟩ := h
  have hi' : i < ts.length := by simpa using hi
  have hs : flushA (ts.map fun t => (t.T, t.code)) m i = ((ts.map fun t => (t.T, t.code)).set i ((flushT ts[i].T m).1, ts[i].code), (flushT ts[i].T m).2) := by
    simp only [flushA, List.getElem?_map, List.getElem?_eq_getElem hi', Option.map_some]
  rw [hs]
  obtain ⟨v, hv⟩ := th_flush (h.th i hi') h.mem
  refine m_flush_yes h i hi' v _ (hv.mono ?_)
  rintro e w' ⟨rfl, he⟩
  obtain ⟨ov', h1, h2⟩ := h.frame hi' hD he
  exact ⟨rfl, ⟨_, h1, by rw [List.map_set]⟩, h2⟩
end
end Go.Proofs.YtfhkfnoajbbfdaaGreatDoor

namespace Go.Proofs.YtfhkfnoajbbfdaaGreatDoor
open Go.RowKit

/-- k steps of thread i. -/
def stepsA (A : List (Th × List Ic)) (m : Nat → Int) (i : Nat) : Nat → List (Th × List Ic) × (Nat → Int)
  | 0 => (A, m)
  | k + 1 => stepA (stepsA A m i k).1 (stepsA A m i k).2 i

theorem stepA_length (A : List (Th × List Ic)) (m : Nat → Int) (i : Nat) : (stepA A m i).1.length = A.length := by
  unfold stepA; split <;> simp
theorem flushA_length (A : List (Th × List Ic)) (m : Nat → Int) (i : Nat) : (flushA A m i).1.length = A.length := by
  unfold flushA; split <;> simp
theorem stepsA_length (A : List (Th × List Ic)) (m : Nat → Int) (i : Nat) : ∀ k, (stepsA A m i k).1.length = A.length
  | 0 => rfl
  | k + 1 => (stepA_length _ _ _).trans (stepsA_length A m i k)

section
variable {D : Nat → Prop} {w : World} {bm : Nat} {A : List (Th × List Ic)} {m : Nat → Int} {I : List (Th × List Ic) → (Nat → Int) → Prop}

theorem stepsA_inv (hI : ∀ A m i, I A m → I (stepA A m i).1 (stepA A m i).2) (h : I A m) (i : Nat) : ∀ k, I (stepsA A m i k).1 (stepsA A m i k).2
  | 0 => h
  | k + 1 => hI _ _ i (stepsA_inv hI h i k)

set_option maxRecDepth 100000 in
set_option maxHeartbeats 1000000 in
theorem p_step (hI : ∀ A m i, I A m → I (stepA A m i).1 (stepA A m i).2) (hok : ∀ A m, I A m → okA A) (h : MRep D w bm A m) (hA : I A m) (hD : ∀ k, w.heap.size ≤ k → D k) (i : Nat) (hi : i < A.length) (n : Nat) (hn : (n : Int) ≤ 1000000) :
    Calls Tryz.prog 27 #[ptr bm, .int .i64 i, .int .i64 n] w fun e w' => e = .returned (.tuple #[]) ∧ MRep D w' bm (stepsA A m i n).1 (stepsA A m i n).2 ∧ Chg (fun k _ => D k) w w' := by
  have HI := hid (stepsA_inv hI hA i)
  have HK := hid hok
  have HD := hid hD
  have H := hid h
  clear hI hA hok hD h
  go_enter Tryz.func27, Tryz.ntmps27
  go_wp2
  go_loopw [7] (fun v wr => ∃ k : Nat, k ≤ n ∧ v = .int .i64 k ∧ Hid (MRep D wr bm (stepsA A m i k).1 (stepsA A m i k).2 ∧ Chg (fun k _ => D k) w wr)) (fun v _ => n - (intOf v).toNat)
  case atStart => exact ⟨0, Nat.zero_le _, rfl, H.out, Chg.refl _ _⟩
  case round =>
    obtain ⟨k, hk, rfl, hr⟩ := hrel
    by_cases hlt : k < n
    · have hlt' : (k : Int) < (n : Int) := by omega
      go_wp2_with fail
      refine (m_step hr.out.1 (fun j hj => HD.out j (Nat.le_trans hr.out.2.size hj)) (HK.out _ _ (HI.out k)) i (by rw [stepsA_length]; exact hi)).mono ?_
      rintro e w1 ⟨rfl, h1⟩
      have H1 := hid h1
      clear h1
      go_wp2
      go_roundw
      case rel => exact ⟨k + 1, by omega, by go_num, H1.out.1, hr.out.2.trans H1.out.2⟩
      case measure => simp [intOf]; omega
    · have hk' : k = n := by omega
      subst hk'
      have hlt' : ¬ (k : Int) < (k : Int) := by omega
      go_wp2
      go_end0
      exact ⟨rfl, hr.out⟩

set_option maxRecDepth 100000 in
set_option maxHeartbeats 1000000 in
theorem p_flush (h : MRep D w bm A m) (hD : ∀ k, w.heap.size ≤ k → D k) (i : Nat) (hi : i < A.length) :
    Calls Tryz.prog 30 #[ptr bm, .int .i64 i] w fun e w' => e = .returned (.tuple #[]) ∧ MRep D w' bm (flushA A m i).1 (flushA A m i).2 ∧ Chg (fun k _ => D k) w w' := by
  have HS := hid (m_flush h hD i hi)
  clear h hD
  go_enter Tryz.func30, Tryz.ntmps30
  go_wp2_with fail
  refine HS.out.mono ?_
  rintro e w1 ⟨rfl, hr⟩
  have HR := hid hr
  clear hr HS
  go_wp2
  go_end0
  exact ⟨rfl, HR.out⟩
end
end Go.Proofs.YtfhkfnoajbbfdaaGreatDoor

namespace Go.Proofs.YtfhkfnoajbbfdaaGreatDoor
open Go.RowKit

section
variable {D : Nat → Prop} {w : World} {bm : Nat} {A : List (Th × List Ic)} {m : Nat → Int} {I : List (Th × List Ic) → (Nat → Int) → Prop}

theorem p_stepI (hI : ∀ A m i, I A m → I (stepA A m i).1 (stepA A m i).2) (hok : ∀ A m, I A m → okA A) (h : MRep D w bm A m) (hA : I A m) (hD : ∀ k, w.heap.size ≤ k → D k) (t n : Int) (t0 : 0 ≤ t) (t1 : t < A.length) (n0 : 0 ≤ n) (n1 : n ≤ 1000000) :
    Calls Tryz.prog 27 #[ptr bm, .int .i64 t, .int .i64 n] w fun e w' => e = .returned (.tuple #[]) ∧ MRep D w' bm (stepsA A m t.toNat n.toNat).1 (stepsA A m t.toNat n.toNat).2 ∧ Chg (fun k _ => D k) w w' := by
  obtain ⟨i, rfl⟩ := Int.eq_ofNat_of_zero_le t0
  obtain ⟨k, rfl⟩ := Int.eq_ofNat_of_zero_le n0
  simp only [Int.toNat_natCast]
  exact p_step hI hok h hA hD i (by omega) k n1

theorem p_flushI (h : MRep D w bm A m) (hD : ∀ k, w.heap.size ≤ k → D k) (t : Int) (t0 : 0 ≤ t) (t1 : t < A.length) :
    Calls Tryz.prog 30 #[ptr bm, .int .i64 t] w fun e w' => e = .returned (.tuple #[]) ∧ MRep D w' bm (flushA A m t.toNat).1 (flushA A m t.toNat).2 ∧ Chg (fun k _ => D k) w w' := by
  obtain ⟨i, rfl⟩ := Int.eq_ofNat_of_zero_le t0
  simp only [Int.toNat_natCast]
  exact p_flush h hD i (by omega)

theorem wrap_neg_bound (c : Int) (h0 : -9223372036854775808 ≤ c) (h1 : c < 0) : 0 ≤ wrap64 (-wrap64 (c + 1)) := by unfold wrap64; omega

set_option maxRecDepth 100000 in
set_option maxHeartbeats 1000000 in
theorem pick_any (c n : Int) (w : World) (hc : Hid (-9223372036854775808 ≤ c)) (hn : 0 < n) :
    Calls Tryz.prog 21 #[.int .i64 c, .int .i64 n] w fun e w' => ∃ r, e = .returned (.int .i64 r) ∧ 0 ≤ r ∧ r < n ∧ w' = w := by
  have hn0 : ¬ n = 0 := by omega
  have HN := hid hn
  clear hn
  by_cases hlt : c < 0
  · go_enter Tryz.func21, Tryz.ntmps21
    go_wp2
    go_ret
    have h0 := wrap_neg_bound c hc.out hlt
    refine ⟨(wrap64 (-wrap64 (c + 1))).tmod n, rfl, ?_, ?_, rfl⟩
    · exact Int.tmod_nonneg n h0
    · rw [Int.tmod_eq_emod_of_nonneg h0]; exact Int.emod_lt_of_pos _ HN.out
  · go_enter Tryz.func21, Tryz.ntmps21
    go_wp2
    go_ret
    exact ⟨c % n, rfl, Int.emod_nonneg _ hn0, Int.emod_lt_of_pos _ HN.out, rfl⟩

theorem addr_block (x : Addr) (k : Nat) : (x.add k).block = x.block := by unfold Addr.add; split <;> rfl

/-- A cell that can be read, at whatever address. -/
theorem Chg.cellA {M : Nat → Nat → Prop} {w w' : World} (h : Chg M w w') {x : Addr} {v : Value} (hv : w.cell? x = some v) (hM : ¬ M x.block x.off) : w'.cell? x = some v := by
  have hs := World.cell?_spot hv
  have hb := World.block_lt_of_cell? _ _ hv
  obtain ⟨b, o, s⟩ := x
  cases hs
  exact (h.cell b o hb hM).trans hv

set_option maxRecDepth 100000 in
set_option maxHeartbeats 2000000 in
/-- Two threads, whatever is picked: what steps and flushes keep is kept. -/
theorem play_inv (hI : ∀ A m i, I A m → I (stepA A m i).1 (stepA A m i).2) (hF : ∀ A m i, I A m → I (flushA A m i).1 (flushA A m i).2) (hok : ∀ A m, I A m → okA A) (h2 : ∀ A m, I A m → A.length = 2)
    (h : MRep D w bm A m) (hA : I A m) (hD : ∀ k, w.heap.size ≤ k → D k) (x : Addr) (len cap : Nat) (zs : List Int) (hln : len ≤ zs.length) (hlen : len ≤ 4096) (hnD : 0 < len → ¬ D x.block) (hz : ∀ j (h : j < zs.length), w.cell? (x.add j) = some (.int .i64 zs[j])) (hwf : ∀ z ∈ zs, -9223372036854775808 ≤ z) :
    Calls Tryz.prog 24 #[ptr bm, .slice (some x) len cap, .int .i64 2] w fun e w' => e = .returned (.tuple #[]) ∧ ∃ A' m', MRep D w' bm A' m' ∧ I A' m' ∧ Chg (fun k _ => D k) w w' := by
  have HI := hid hI
  have HF := hid hF
  have HK := hid hok
  have H2 := hid h2
  have HD := hid hD
  have H := hid h
  have HA := hid hA
  have HZ := hid hz
  have HW := hid hwf
  clear hI hF hok h2 hD h hA hz hwf
  go_enter Tryz.func24, Tryz.ntmps24
  go_wp2
  go_loopw [6] (fun v wr => ∃ k : Nat, k ≤ len ∧ v = .int .i64 k ∧ Hid (∃ A' m', MRep D wr bm A' m' ∧ I A' m' ∧ Chg (fun k _ => D k) w wr)) (fun v _ => len - (intOf v).toNat)
  case atStart => exact ⟨0, Nat.zero_le _, rfl, A, m, H.out, HA.out, Chg.refl _ _⟩
  case round =>
    obtain ⟨k, hk, rfl, hr⟩ := hrel
    by_cases hlt : k < len
    · have hlt' : (k : Int) < (len : Int) := by omega
      have hlz : k < zs.length := by omega
      have hcz : wr.cell? (x.add k) = some (.int .i64 zs[k]) := by
        obtain ⟨A', m', _, _, hc⟩ := hr.out
        exact hc.cellA (HZ.out k hlz) (by rw [addr_block]; exact hnD (by omega))
      have hwz : Hid (-9223372036854775808 ≤ zs[k]) := HW.out _ (List.getElem_mem hlz)
      generalize zs[k] = z at hcz hwz
      go_wp2_with fail
      refine (pick_any z 1073741824 _ hwz (by decide)).mono ?_
      rintro e w' ⟨y, rfl, y0, y1, rfl⟩
      by_cases hq : y / 2 % 5 = 0
      · have hq' : (y / 2 % 5 == 0) = true := by simp [hq]
        go_wp2_with fail
        obtain ⟨A', m', hm', hA', hc'⟩ := hr.out
        refine (p_flushI hm' (fun j hj => HD.out j (Nat.le_trans hc'.size hj)) (y % 2) (by omega) (by rw [H2.out _ _ hA']; omega)).mono ?_
        rintro e w1 ⟨rfl, h1⟩
        have H1 : Hid (∃ A' m', MRep D w1 bm A' m' ∧ I A' m' ∧ Chg (fun k _ => D k) w w1) := ⟨_, _, h1.1, HF.out _ _ _ hA', hc'.trans h1.2⟩
        clear h1 hm' hA' hc'
        go_wp2
        go_roundw
        case rel => exact ⟨k + 1, by omega, by go_num, H1⟩
        case measure => simp [intOf]; omega
      · have hq' : (y / 2 % 5 == 0) = false := by simp [hq]
        go_wp2_with fail
        obtain ⟨A', m', hm', hA', hc'⟩ := hr.out
        refine (p_stepI HI.out HK.out hm' hA' (fun j hj => HD.out j (Nat.le_trans hc'.size hj)) (y % 2) (1 + y / 2 / 5 % 60) (by omega) (by rw [H2.out _ _ hA']; omega) (by omega) (by omega)).mono ?_
        rintro e w1 ⟨rfl, h1⟩
        have H1 : Hid (∃ A' m', MRep D w1 bm A' m' ∧ I A' m' ∧ Chg (fun k _ => D k) w w1) := ⟨_, _, h1.1, stepsA_inv HI.out hA' _ _, hc'.trans h1.2⟩
        clear h1 hm' hA' hc'
        go_wp2
        go_roundw
        case rel => exact ⟨k + 1, by omega, by go_num, H1⟩
        case measure => simp [intOf]; omega
    · have hk' : k = len := by omega
      have hlt' : ¬ (k : Int) < (len : Int) := by omega
      go_wp2
      go_end0
      exact ⟨rfl, hr.out⟩
end
end Go.Proofs.YtfhkfnoajbbfdaaGreatDoor

namespace Go.Proofs.YtfhkfnoajbbfdaaGreatDoor
open Go.RowKit

def stOf (A : List (Th × List Ic)) (i : Nat) : Int := ((A[i]?).map (·.1.st)).getD 10

theorem stepT_still {T : Th} {m : Nat → Int} {c : List Ic} (h : T.st ≠ 0) : stepT T m c = (T, m) := by simp only [stepT, h, if_false]
theorem flushT_st (T : Th) (m : Nat → Int) : (flushT T m).1.st = T.st := by unfold flushT; split <;> rfl

theorem stOf_step_ne (A : List (Th × List Ic)) (m : Nat → Int) {i j : Nat} (h : j ≠ i) : stOf (stepA A m i).1 j = stOf A j := by
  unfold stepA stOf
  split
  · rfl
  · simp [List.getElem?_set_ne h.symm]
theorem stOf_step_still (A : List (Th × List Ic)) (m : Nat → Int) {i : Nat} (h : stOf A i ≠ 0) : stOf (stepA A m i).1 i = stOf A i := by
  unfold stepA stOf at *
  split
  · rename_i h1; simp [h1]
  · rename_i p hp
    simp only [hp, Option.map_some, Option.getD_some] at h
    have hlt : i < A.length := (List.getElem?_eq_some_iff.1 hp).1
    have e : A[i] = p := by rw [List.getElem?_eq_getElem hlt] at hp; exact Option.some.inj hp
    simp [hlt, e, stepT_still h]
theorem stOf_flush (A : List (Th × List Ic)) (m : Nat → Int) (i j : Nat) : stOf (flushA A m i).1 j = stOf A j := by
  unfold flushA stOf
  split
  · rfl
  · rename_i p hp
    by_cases e : i = j
    · subst e
      have hlt : i < A.length := (List.getElem?_eq_some_iff.1 hp).1
      have e : A[i] = p := by rw [List.getElem?_eq_getElem hlt] at hp; exact Option.some.inj hp
      simp [hlt, e, flushT_st]
    · simp [List.getElem?_set_ne e]

section
variable {D : Nat → Prop} {w : World} {bm : Nat} {A : List (Th × List Ic)} {m : Nat → Int} {I : List (Th × List Ic) → (Nat → Int) → Prop}

theorem p_stateI (h : MRep D w bm A m) (t : Int) (t0 : 0 ≤ t) (t1 : t < A.length) :
    Calls Tryz.prog 31 #[ptr bm, .int .i64 t] w fun e w' => e = .returned (.int .i64 (stOf A t.toNat)) ∧ w' = w := by
  obtain ⟨i, rfl⟩ := Int.eq_ofNat_of_zero_le t0
  obtain ⟨ts, h, rfl⟩ := h
  have hi : i < ts.length := by simp at t1; omega
  have e : stOf (ts.map fun t => (t.T, t.code)) (i : Int).toNat = ts[i].T.st := by
    simp [stOf, hi]
  rw [e]
  exact p_state h i hi

theorem stepsA_one (A : List (Th × List Ic)) (m : Nat → Int) (i : Nat) : stepsA A m i 1 = stepA A m i := rfl

set_option maxRecDepth 100000 in
set_option maxHeartbeats 4000000 in
/-- Two threads in turns, a step each, as long as it takes: what is stored goes to the memory at once. -/
theorem ends_two (hI : ∀ A m i, I A m → I (stepA A m i).1 (stepA A m i).2) (hF : ∀ A m i, I A m → I (flushA A m i).1 (flushA A m i).2) (hok : ∀ A m, I A m → okA A) (h2 : ∀ A m, I A m → A.length = 2)
    (pot : List (Th × List Ic) → Nat) (hp1 : ∀ A m i, I A m → pot (stepA A m i).1 ≤ pot A) (hp2 : ∀ A m i, I A m → i < 2 → stOf A i = 0 → pot (stepA A m i).1 < pot A) (hp3 : ∀ A m i, I A m → pot (flushA A m i).1 ≤ pot A)
    (h : MRep D w bm A m) (hA : I A m) (hD : ∀ k, w.heap.size ≤ k → D k) (hpot : pot A ≤ 100) :
    Calls Tryz.prog 25 #[ptr bm, .int .i64 2, .int .i64 1] w fun e w' => e = .returned (.bool true) ∧ ∃ A' m', MRep D w' bm A' m' ∧ I A' m' ∧ Chg (fun k _ => D k) w w' ∧ stOf A' 0 ≠ 0 ∧ stOf A' 1 ≠ 0 := by
  have HI := hid hI
  have HF := hid hF
  have HK := hid hok
  have H2 := hid h2
  have HD := hid hD
  have H := hid h
  have HA := hid hA
  have P1 := hid hp1
  have P2 := hid hp2
  have P3 := hid hp3
  clear hI hF hok h2 hD h hA hp1 hp2 hp3
  have HP := hid hpot
  clear hpot
  go_enter Tryz.func25, Tryz.ntmps25
  go_wp2
  go_loopw [7] (fun v wr => ∃ k : Nat, k ≤ 100 ∧ v = .int .i64 k ∧ Hid (∃ A' m', MRep D wr bm A' m' ∧ I A' m' ∧ Chg (fun k _ => D k) w wr ∧ pot A' + k ≤ 100)) (fun v _ => 3000 - (intOf v).toNat)
  case atStart => exact ⟨0, Nat.zero_le _, rfl, A, m, H.out, HA.out, Chg.refl _ _, HP.out⟩
  case round =>
    obtain ⟨k, hk, rfl, hr⟩ := hrel
    obtain ⟨A1, m1, r1, r2, r3, r4⟩ := hr.out
    have R1 := hid r1
    have R2 := hid r2
    have R3 := hid r3
    have R4 := hid r4
    clear hr r1 r2 r3 r4
    have hlt' : (k : Int) < 3000 := by omega
    go_wp2
    go_loopw [8, 9] (fun a t wv => ∃ (j : Nat) (bb : Bool), j ≤ 2 ∧ t = .int .i64 j ∧ a = .bool bb ∧ Hid (∃ A' m', MRep D wv bm A' m' ∧ I A' m' ∧ Chg (fun k _ => D k) w wv ∧ pot A' ≤ pot A1 ∧ (bb = true → ∀ i, i < j → stOf A' i ≠ 0) ∧ (bb = false → pot A' < pot A1))) (fun _ t _ => 2 - (intOf t).toNat)
    case atStart => exact ⟨0, true, Nat.zero_le _, rfl, rfl, A1, m1, R1.out, R2.out, R3.out, Nat.le_refl _, fun _ i hi => absurd hi (Nat.not_lt_zero _), fun e => by cases e⟩
    case round =>
      obtain ⟨j, bb, hj, rfl, rfl, hr⟩ := hrel
      by_cases hjl : j < 2
      · have hjl' : (j : Int) < 2 := by omega
        obtain ⟨A2, m2, s1, s2, s3, s4, s5, s6⟩ := hr.out
        have S1 := hid s1
        have S2 := hid s2
        have S3 := hid s3
        have S4 := hid (And.intro s4 (And.intro s5 s6))
        clear hr s1 s2 s3 s4 s5 s6
        go_wp2_with fail
        refine (p_stateI S1.out (j : Int) (by omega) (by rw [H2.out _ _ S2.out]; omega)).mono ?_
        rintro e w' ⟨rfl, rfl⟩
        simp only [Int.toNat_natCast]
        have hnew : ∃ nb : Bool, ((bb && (stOf A2 j != 0)) = nb) := ⟨_, rfl⟩
        obtain ⟨nb, hnb⟩ := hnew
        have HNB := hid hnb
        clear hnb
        obtain ⟨sv, hsv⟩ : ∃ sv, stOf A2 j = sv := ⟨_, rfl⟩
        have HSV := hid hsv
        rw [hsv]
        clear hsv
        have hbs : (bb = true ∧ (sv != 0) = true) ∨ (bb = true ∧ (sv != 0) = false) ∨ bb = false := by cases bb <;> cases h : (sv != 0) <;> simp
        rcases hbs with ⟨rfl, hs0⟩ | ⟨rfl, hs0⟩ | rfl
        all_goals
          go_wp2
          go_loopw [11] (fun v wu => ∃ q : Nat, q ≤ 1 ∧ v = .int .i64 q ∧ Hid (∃ A3 m3, MRep D wu bm A3 m3 ∧ I A3 m3 ∧ Chg (fun k _ => D k) w wu ∧ (q = 0 → A3 = A2) ∧ (q = 1 → pot A3 ≤ pot A2 ∧ (stOf A2 j = 0 → pot A3 < pot A2) ∧ ∀ i, stOf A2 i ≠ 0 → stOf A3 i ≠ 0))) (fun v _ => 1 - (intOf v).toNat)
          case atStart => exact ⟨0, Nat.zero_le _, rfl, A2, m2, S1.out, S2.out, S3.out, (fun _ => rfl), (fun e => absurd e (by decide))⟩
          case round =>
            obtain ⟨q, hq, rfl, hr⟩ := hrel
            by_cases hq0 : q = 0
            · subst hq0
              obtain ⟨A3, m3, t1, t2, t3, t4, _⟩ := hr.out
              obtain rfl := t4 rfl
              have T3 := hid t3
              clear hr t3 t4
              go_wp2_with fail
              refine (p_stepI HI.out HK.out t1 t2 (fun l hl => HD.out l (Nat.le_trans T3.out.size hl)) (j : Int) 1 (by omega) (by rw [H2.out _ _ t2]; omega) (by omega) (by omega)).mono ?_
              rintro e w3 ⟨rfl, h3, h3c⟩
              have e1 : stepsA A3 m3 (j : Int).toNat (1 : Int).toNat = stepA A3 m3 j := by simp only [Int.toNat_natCast]; rfl
              rw [e1] at h3
              have H3 := hid h3
              have H3C := hid (T3.out.trans h3c)
              have T2 := hid t2
              clear h3 h3c e1 t1 t2
              go_wp2_with fail
              refine (p_flushI H3.out (fun l hl => HD.out l (Nat.le_trans H3C.out.size hl)) (j : Int) (by omega) (by rw [stepA_length, H2.out _ _ T2.out]; omega)).mono ?_
              rintro e w4 ⟨rfl, h4, h4c⟩
              simp only [Int.toNat_natCast] at h4
              have H4 := hid h4
              have H4C := hid (H3C.out.trans h4c)
              clear h4 h4c
              go_wp2
              go_roundw
              case rel =>
                refine ⟨1, by omega, by go_num, _, _, H4.out, HF.out _ _ _ (HI.out _ _ _ T2.out), H4C.out, (fun e => absurd e (by decide)), fun _ => ⟨?_, ?_, ?_⟩⟩
                · exact Nat.le_trans (P3.out _ _ _ (HI.out _ _ _ T2.out)) (P1.out _ _ _ T2.out)
                · exact fun hz => Nat.lt_of_le_of_lt (P3.out _ _ _ (HI.out _ _ _ T2.out)) (P2.out _ _ _ T2.out hjl hz)
                · intro i hi
                  rw [stOf_flush]
                  by_cases e : i = j
                  · subst e; rw [stOf_step_still _ _ hi]; exact hi
                  · rw [stOf_step_ne _ _ e]; exact hi
              case measure => simp [intOf]
            · have hq1 : q = 1 := by omega
              subst hq1
              go_wp2
              go_roundw
              case rel =>
                obtain ⟨A3, m3, t1, t2, t3, _, t5⟩ := hr.out
                obtain ⟨u1, u2, u3⟩ := t5 rfl
                obtain ⟨v1, v2, v3⟩ := S4.out
                refine ⟨j + 1, _, by omega, by go_num, rfl, A3, m3, t1, t2, t3, Nat.le_trans u1 v1, ?_, ?_⟩
                · intro hb i hi
                  first
                    | (cases hb; done)
                    | (by_cases e : i = j
                       · subst e; exact u3 i (by rw [HSV.out]; simpa using hs0)
                       · exact u3 i (v2 (by trivial) i (by omega)))
                · intro hb
                  first
                    | (cases hb; done)
                    | exact Nat.lt_of_lt_of_le (u2 (by rw [HSV.out]; simpa using hs0)) v1
                    | exact Nat.lt_of_le_of_lt u1 (v3 (by trivial))
              case measure => simp [intOf]; omega
      · have hj2 : j = 2 := by omega
        subst hj2
        obtain ⟨A2, m2, s1, s2, s3, s4, s5, s6⟩ := hr.out
        cases bb
        · go_wp2
          go_roundw
          case rel => exact ⟨k + 1, by have := s6 rfl; have := R4.out; omega, by go_num, A2, m2, s1, s2, s3, by have := s6 rfl; have := R4.out; omega⟩
          case measure => simp [intOf]; omega
        · go_wp2
          go_ret
          exact ⟨rfl, A2, m2, s1, s2, s3, s5 (by trivial) 0 (by omega), s5 (by trivial) 1 (by omega)⟩
end
end Go.Proofs.YtfhkfnoajbbfdaaGreatDoor
