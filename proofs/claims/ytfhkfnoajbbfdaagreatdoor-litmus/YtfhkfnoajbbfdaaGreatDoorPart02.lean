import Derived.Test.YtfhkfnoajbbfdaaGreatDoorPart01
namespace Go.Proofs.YtfhkfnoajbbfdaaGreatDoor
open Go.RowKit

theorem push_full_ring {b o f g k1 k2 : Nat} {x y : Nat → Int} {p q u1 u2 u3 u4 : Int} {w1 : World} (h : RingAt w1 b o (fun j => if j = f then 0 else x j) (fun j => if j = f then 0 else y j) g 3) (hf : f < 4) (hg : g < 4)
    (he : ((g : Int) + 3) % 4 = f) (h1 : b ≠ k1) (h2 : b ≠ k2) (hgf : g = (f + 1) % 4) :
    RingAt (((((((w1.setCell ⟨k2, 0, none⟩ (.int .i64 u1)).setCell ⟨k2, 1, none⟩ (.int .i64 u2)).setCell ⟨b, o + f * 2, none⟩ (.int .i64 p)).setCell ⟨b, o + f * 2 + 1, none⟩ (.int .i64 q)).setCell ⟨b, o + 9, none⟩ (.int .i64 4)).setCell ⟨k1, 0, none⟩ (.int .i64 u3)).setCell ⟨k1, 1, none⟩ (.int .i64 u4)).drew
      b o (fun j => if j = f then p else x j) (fun j => if j = f then q else y j) ((f + 1) % 4) 4 := by
  have hu : RingAt ((w1.setCell ⟨k2, 0, none⟩ (.int .i64 u1)).setCell ⟨k2, 1, none⟩ (.int .i64 u2)) b o (fun j => if j = f then 0 else x j) (fun j => if j = f then 0 else y j) g 3 :=
    h.chg (M := fun k _ => k = k2) (((Chg.refl (fun k _ => k = k2) w1).setCell (b := k2) (o := 0) (fun _ => rfl) _).setCell (b := k2) (o := 1) (fun _ => rfl) _) (fun _ _ e => h2 e)
  have hp := push_ring hu (by omega) p q
  have hn : (g + 3) % 4 = f := by omega
  rw [hn] at hp
  have e1 : (fun j => if j = f then p else if j = f then 0 else x j) = (fun j => if j = f then p else x j) := by funext j; split <;> rfl
  have e2 : (fun j => if j = f then q else if j = f then 0 else y j) = (fun j => if j = f then q else y j) := by funext j; split <;> rfl
  rw [e1, e2] at hp
  subst hgf
  have e4 : (((3 : Nat) : Int) + 1) = 4 := rfl
  rw [e4] at hp
  exact hp.chg (M := fun k _ => k = k1) ((((Chg.refl (fun k _ => k = k1) _).setCell (b := k1) (o := 0) (fun _ => rfl) _).setCell (b := k1) (o := 1) (fun _ => rfl) _).drew) (fun _ _ e => h1 e)

set_option maxHeartbeats 1000000 in
theorem push_full (b o f : Nat) (x y : Nat → Int) (p q : Int) (w : World) (h : RingAt w b o x y f 4) :
    Calls Tryz.prog 354 #[.pointer (some ⟨b, o, none⟩), .agg #[.int .i64 p, .int .i64 q]] w fun e w' => e = .returned (.tuple #[.agg #[.int .i64 (x f), .int .i64 (y f)], .bool true]) ∧ Chg (inRing b o) w w' ∧
      RingAt w' b o (fun j => if j = f then p else x j) (fun j => if j = f then q else y j) ((f + 1) % 4) 4 := by
  have hb := h.lt
  have hf := h.first
  have h9 := h.c9
  have HR : Hid (RingAt w b o x y f 4) := h
  have hb1 : b < w.heap.size + 1 := by omega
  have hb2 : b < w.heap.size + 2 := by omega
  clear h
  go_enter Tryz.func354, Tryz.ntmps354
  go_wp2_with fail
  refine (pop_some b o f 4 x y _ (HR.out.chg (M := fun _ _ => False) ((((Chg.refl _ w).alloc _).alloc _).alloc _) (fun _ _ h => h)) (by omega)).mono ?_
  rintro e w1 ⟨rfl, hchg, hr⟩
  have k0 : ∀ i v, (((w.alloc (.cells #[.int .i64 p, .int .i64 q] 183)).alloc (.cells #[.int .i64 0, .int .i64 0] 183)).alloc (.cells #[.int .i64 0, .int .i64 0] 183)).cell? ⟨w.heap.size, i, none⟩ = v → w1.cell? ⟨w.heap.size, i, none⟩ = v := fun i v hv => (hchg.cell _ i (by simp; omega) (by intro h; exact absurd h.1 (by omega))).trans hv
  have k1 : ∀ i v, (((w.alloc (.cells #[.int .i64 p, .int .i64 q] 183)).alloc (.cells #[.int .i64 0, .int .i64 0] 183)).alloc (.cells #[.int .i64 0, .int .i64 0] 183)).cell? ⟨w.heap.size + 1, i, none⟩ = v → w1.cell? ⟨w.heap.size + 1, i, none⟩ = v := fun i v hv => (hchg.cell _ i (by simp) (by intro h; exact absurd h.1 (by omega))).trans hv
  have k2 : ∀ i v, (((w.alloc (.cells #[.int .i64 p, .int .i64 q] 183)).alloc (.cells #[.int .i64 0, .int .i64 0] 183)).alloc (.cells #[.int .i64 0, .int .i64 0] 183)).cell? ⟨w.heap.size + 2, i, none⟩ = v → w1.cell? ⟨w.heap.size + 2, i, none⟩ = v := fun i v hv => (hchg.cell _ i (by simp) (by intro h; exact absurd h.1 (by omega))).trans hv
  have a0 := k0 0 (some (.int .i64 p)) (by simp [go_sem])
  have a1 := k0 1 (some (.int .i64 q)) (by simp [go_sem])
  have b0 := k1 0 (some (.int .i64 0)) (by simp [go_sem])
  have b1 := k1 1 (some (.int .i64 0)) (by simp [go_sem])
  have c0 := k2 0 (some (.int .i64 0)) (by simp [go_sem])
  have c1 := k2 1 (some (.int .i64 0)) (by simp [go_sem])
  have z1 : ∀ i, w1.frozen? ⟨w.heap.size + 1, i, none⟩ = false := fun i => (hchg.frozen _ i (by simp)).trans (by simp [go_sem])
  have z2 : ∀ i, w1.frozen? ⟨w.heap.size + 2, i, none⟩ = false := fun i => (hchg.frozen _ i (by simp)).trans (by simp [go_sem])
  have hs1 : w.heap.size + 2 < w1.heap.size := by have := hchg.size; simp at this; omega
  have hs2 : w.heap.size + 1 < w1.heap.size := by omega
  have hs3 : w.heap.size < w1.heap.size := by omega
  have HC : Hid (Chg (inRing b o) (((w.alloc (.cells #[.int .i64 p, .int .i64 q] 183)).alloc (.cells #[.int .i64 0, .int .i64 0] 183)).alloc (.cells #[.int .i64 0, .int .i64 0] 183)) w1) := hchg
  clear k0 k1 k2 hchg
  have e3 : (f + 1) % 4 < 4 := by omega
  have hx1 := hr.at_ f hf
  have hy1 := hr.what f hf
  have hz9 := hr.free 9 (by omega)
  have hzx := hr.free (f * 2) (by omega)
  have hzy : w1.frozen? ⟨b, o + f * 2 + 1, none⟩ = false := hr.free (f * 2 + 1) (by omega)
  have h8 := hr.c8
  have h9' := hr.c9
  have HR1 : Hid (RingAt w1 b o (fun j => if j = f then 0 else x j) (fun j => if j = f then 0 else y j) ((f + 1) % 4) 3) := hr
  have hbb := hr.lt
  clear hr h9
  simp only [if_true] at hx1 hy1
  have he : ((((f + 1) % 4 : Nat) : Int) + 3) % 4 = (f : Int) := by omega
  generalize (f + 1) % 4 = g at *
  go_wp2
  go_region_calls
  all_goals go_wp2
  all_goals
    refine bodyPost_ret (v := .tuple #[.agg #[.int .i64 (x f), .int .i64 (y f)], .bool true]) (by simp [results, Tryz.results354, go_sem, *]) rfl ⟨rfl, ?_, ?_⟩
    · have hc0 : Chg (inRing b o) w w1 := ((((Chg.refl _ w).alloc _).alloc _).alloc _).trans HC.out
      refine (((((((hc0.setCell ?_ _).setCell ?_ _).setCell ?_ _).setCell ?_ _).setCell ?_ _).setCell ?_ _).setCell ?_ _).drew <;> first | exact fun _ => ⟨rfl, by omega, by omega⟩ | (intro h; exact absurd h (by omega))
    · exact push_full_ring HR1.out (by omega) e3 he (by omega) (by omega) (by omega)
end Go.Proofs.YtfhkfnoajbbfdaaGreatDoor

namespace Go.Proofs.YtfhkfnoajbbfdaaGreatDoor
open Go.RowKit

/-- A pointer to block b's first cell. -/
abbrev ptr (b : Nat) : Value := .pointer (some ⟨b, 0, none⟩)
/-- A thread as instructions see it. -/
abbrev ifc (b : Nat) : Value := .iface 141 (ptr b)

theorem register_any (b : Nat) (r v : Int) (w : World) (h0 : 0 ≤ r) (h1 : r < 8) (hc : w.cell? ⟨b, 2 + r.toNat, none⟩ = some (.int .i64 v)) :
    Calls Tryz.prog 350 #[ptr b, .int .i64 r] w fun e w' => e = .returned (.int .i64 v) ∧ w' = w := by
  obtain ⟨n, rfl⟩ := Int.eq_ofNat_of_zero_le h0
  simp only [Int.toNat_natCast] at hc
  go_enter Tryz.func350, Tryz.ntmps350
  go_wp2
  go_ret
  exact ⟨rfl, rfl⟩

theorem setRegister_any (b : Nat) (r v : Int) (u : Value) (w : World) (h0 : 0 ≤ r) (h1 : r < 8) (hc : w.cell? ⟨b, 2 + r.toNat, none⟩ = some u) (hz : w.frozen? ⟨b, 2 + r.toNat, none⟩ = false) :
    Calls Tryz.prog 351 #[ptr b, .int .i64 r, .int .i64 v] w fun e w' => e = .returned (.tuple #[]) ∧ w' = w.setCell ⟨b, 2 + r.toNat, none⟩ (.int .i64 v) := by
  obtain ⟨n, rfl⟩ := Int.eq_ofNat_of_zero_le h0
  simp only [Int.toNat_natCast] at hc hz ⊢
  go_enter Tryz.func351, Tryz.ntmps351
  go_wp2
  go_end0
  exact ⟨rfl, rfl⟩

theorem leap_any (b : Nat) (p : Int) (u : Value) (w : World) (hc : w.cell? ⟨b, 10, none⟩ = some u) (hz : w.frozen? ⟨b, 10, none⟩ = false) :
    Calls Tryz.prog 348 #[ptr b, .int .i64 p] w fun e w' => e = .returned (.tuple #[]) ∧ w' = w.setCell ⟨b, 10, none⟩ (.int .i64 p) := by
  go_enter Tryz.func348, Tryz.ntmps348
  go_wp2
  go_end0
  exact ⟨rfl, rfl⟩

theorem end_any (b : Nat) (s : Int) (u : Value) (w : World) (hc : w.cell? ⟨b, 22, none⟩ = some u) (hz : w.frozen? ⟨b, 22, none⟩ = false) :
    Calls Tryz.prog 346 #[ptr b, .int .i64 s] w fun e w' => e = .returned (.tuple #[]) ∧ w' = w.setCell ⟨b, 22, none⟩ (.int .i64 s) := by
  go_enter Tryz.func346, Tryz.ntmps346
  go_wp2
  go_end0
  exact ⟨rfl, rfl⟩

theorem state_any (b : Nat) (s : Int) (w : World) (hc : w.cell? ⟨b, 22, none⟩ = some (.int .i64 s)) :
    Calls Tryz.prog 84 #[ptr b] w fun e w' => e = .returned (.int .i64 s) ∧ w' = w := by
  go_enter Tryz.func84, Tryz.ntmps84
  go_wp2
  go_ret
  exact ⟨rfl, rfl⟩

theorem waiting_any (b : Nat) (c : Int) (w : World) (hc : w.cell? ⟨b, 20, none⟩ = some (.int .i64 c)) :
    Calls Tryz.prog 82 #[ptr b] w fun e w' => e = .returned (.int .i64 c) ∧ w' = w := by
  go_enter Tryz.func82, Tryz.ntmps82
  go_wp2_with fail
  refine (len_any b 11 c _ hc).mono ?_
  rintro e w' ⟨rfl, rfl⟩
  go_wp2
  go_ret
  exact ⟨rfl, rfl⟩

set_option maxRecDepth 100000 in
theorem setCell_any (b bm : Nat) (a v : Int) (u : Value) (w : World) (h0 : 0 ≤ a) (h1 : a < 256) (hp : w.cell? ⟨b, 0, none⟩ = some (ptr bm)) (hc : w.cell? ⟨bm, a.toNat, none⟩ = some u) (hz : w.frozen? ⟨bm, a.toNat, none⟩ = false) :
    Calls Tryz.prog 114 #[ptr b, .int .i64 a, .int .i64 v] w fun e w' => e = .returned (.tuple #[]) ∧ w' = w.setCell ⟨bm, a.toNat, none⟩ (.int .i64 v) := by
  obtain ⟨n, rfl⟩ := Int.eq_ofNat_of_zero_le h0
  simp only [Int.toNat_natCast] at hc hz ⊢
  have hp' : w.cell? ⟨b, 0, none⟩ = some (.pointer (some ⟨bm, 0, none⟩)) := hp
  go_enter Tryz.func114, Tryz.ntmps114
  go_wp2
  go_end0
  exact ⟨rfl, by simp⟩

set_option maxRecDepth 100000 in
theorem regOf_any (b : Nat) (r v : Int) (w : World) (h0 : 0 ≤ r) (h1 : r < 8) (hc : w.cell? ⟨b, 2 + r.toNat, none⟩ = some (.int .i64 v)) :
    Calls Tryz.prog 315 #[.int .i64 r, ifc b] w fun e w' => e = .returned (.int .i64 v) ∧ w' = w := by
  go_enter Tryz.func315, Tryz.ntmps315
  go_wp2_with fail
  refine (register_any b r v _ h0 h1 hc).mono ?_
  rintro e w' ⟨rfl, rfl⟩
  go_wp2
  go_ret
  exact ⟨rfl, rfl⟩

set_option maxRecDepth 100000 in
theorem numOf_any (x : Value) (v : Int) (w : World) :
    Calls Tryz.prog 340 #[.int .i64 v, x] w fun e w' => e = .returned (.int .i64 v) ∧ w' = w := by
  go_enter Tryz.func340, Tryz.ntmps340
  go_wp2
  go_ret
  exact ⟨rfl, rfl⟩

set_option maxRecDepth 100000 in
theorem regSet_any (b : Nat) (r v : Int) (u : Value) (w : World) (h0 : 0 ≤ r) (h1 : r < 8) (hc : w.cell? ⟨b, 2 + r.toNat, none⟩ = some u) (hz : w.frozen? ⟨b, 2 + r.toNat, none⟩ = false) :
    Calls Tryz.prog 318 #[.int .i64 r, ifc b, .int .i64 v] w fun e w' => e = .returned (.tuple #[]) ∧ w' = w.setCell ⟨b, 2 + r.toNat, none⟩ (.int .i64 v) := by
  go_enter Tryz.func318, Tryz.ntmps318
  go_wp2_with fail
  refine (setRegister_any b r v u _ h0 h1 hc hz).mono ?_
  rintro e w' ⟨rfl, rfl⟩
  go_wp2
  go_end0
  exact ⟨rfl, rfl⟩

end Go.Proofs.YtfhkfnoajbbfdaaGreatDoor
