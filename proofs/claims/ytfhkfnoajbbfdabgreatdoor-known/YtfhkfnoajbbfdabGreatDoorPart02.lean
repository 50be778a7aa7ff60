import Derived.Test.YtfhkfnoajbbfdabGreatDoorPart01
namespace Go.Proofs.YtfhkfnoajbbfdabGreatDoor
open Go.RowKit

/-- A pointer to block b's first cell. -/
abbrev ptr (b : Nat) : Value := .pointer (some ⟨b, 0, none⟩)
/-- A thread as instructions see it. -/
abbrev ifc (b : Nat) : Value := .iface 75 (ptr b)

theorem register_any (b : Nat) (r v : Int) (w : World) (h0 : 0 ≤ r) (h1 : r < 8) (hc : w.cell? ⟨b, 2 + r.toNat, none⟩ = some (.int .i64 v)) :
    Calls Tryz.prog 332 #[ptr b, .int .i64 r] w fun e w' => e = .returned (.int .i64 v) ∧ w' = w := by
  obtain ⟨n, rfl⟩ := Int.eq_ofNat_of_zero_le h0
  simp only [Int.toNat_natCast] at hc
  go_enter Tryz.func332, Tryz.ntmps332
  go_wp2
  go_ret
  exact ⟨rfl, rfl⟩

theorem setRegister_any (b : Nat) (r v : Int) (u : Value) (w : World) (h0 : 0 ≤ r) (h1 : r < 8) (hc : w.cell? ⟨b, 2 + r.toNat, none⟩ = some u) (hz : w.frozen? ⟨b, 2 + r.toNat, none⟩ = false) :
    Calls Tryz.prog 333 #[ptr b, .int .i64 r, .int .i64 v] w fun e w' => e = .returned (.tuple #[]) ∧ w' = w.setCell ⟨b, 2 + r.toNat, none⟩ (.int .i64 v) := by
  obtain ⟨n, rfl⟩ := Int.eq_ofNat_of_zero_le h0
  simp only [Int.toNat_natCast] at hc hz ⊢
  go_enter Tryz.func333, Tryz.ntmps333
  go_wp2
  go_end0
  exact ⟨rfl, rfl⟩

theorem leap_any (b : Nat) (p : Int) (u : Value) (w : World) (hc : w.cell? ⟨b, 10, none⟩ = some u) (hz : w.frozen? ⟨b, 10, none⟩ = false) :
    Calls Tryz.prog 330 #[ptr b, .int .i64 p] w fun e w' => e = .returned (.tuple #[]) ∧ w' = w.setCell ⟨b, 10, none⟩ (.int .i64 p) := by
  go_enter Tryz.func330, Tryz.ntmps330
  go_wp2
  go_end0
  exact ⟨rfl, rfl⟩

theorem end_any (b : Nat) (s : Int) (u : Value) (w : World) (hc : w.cell? ⟨b, 22, none⟩ = some u) (hz : w.frozen? ⟨b, 22, none⟩ = false) :
    Calls Tryz.prog 328 #[ptr b, .int .i64 s] w fun e w' => e = .returned (.tuple #[]) ∧ w' = w.setCell ⟨b, 22, none⟩ (.int .i64 s) := by
  go_enter Tryz.func328, Tryz.ntmps328
  go_wp2
  go_end0
  exact ⟨rfl, rfl⟩

theorem state_any (b : Nat) (s : Int) (w : World) (hc : w.cell? ⟨b, 22, none⟩ = some (.int .i64 s)) :
    Calls Tryz.prog 37 #[ptr b] w fun e w' => e = .returned (.int .i64 s) ∧ w' = w := by
  go_enter Tryz.func37, Tryz.ntmps37
  go_wp2
  go_ret
  exact ⟨rfl, rfl⟩

set_option maxRecDepth 100000 in
theorem setCell_any (b bm : Nat) (a v : Int) (u : Value) (w : World) (h0 : 0 ≤ a) (h1 : a < 256) (hp : w.cell? ⟨b, 0, none⟩ = some (ptr bm)) (hc : w.cell? ⟨bm, a.toNat, none⟩ = some u) (hz : w.frozen? ⟨bm, a.toNat, none⟩ = false) :
    Calls Tryz.prog 80 #[ptr b, .int .i64 a, .int .i64 v] w fun e w' => e = .returned (.tuple #[]) ∧ w' = w.setCell ⟨bm, a.toNat, none⟩ (.int .i64 v) := by
  obtain ⟨n, rfl⟩ := Int.eq_ofNat_of_zero_le h0
  simp only [Int.toNat_natCast] at hc hz ⊢
  have hp' : w.cell? ⟨b, 0, none⟩ = some (.pointer (some ⟨bm, 0, none⟩)) := hp
  go_enter Tryz.func80, Tryz.ntmps80
  go_wp2
  go_end0
  exact ⟨rfl, by simp⟩

set_option maxRecDepth 100000 in
theorem regOf_any (b : Nat) (r v : Int) (w : World) (h0 : 0 ≤ r) (h1 : r < 8) (hc : w.cell? ⟨b, 2 + r.toNat, none⟩ = some (.int .i64 v)) :
    Calls Tryz.prog 297 #[.int .i64 r, ifc b] w fun e w' => e = .returned (.int .i64 v) ∧ w' = w := by
  go_enter Tryz.func297, Tryz.ntmps297
  go_wp2_with fail
  refine (register_any b r v _ h0 h1 hc).mono ?_
  rintro e w' ⟨rfl, rfl⟩
  go_wp2
  go_ret
  exact ⟨rfl, rfl⟩

set_option maxRecDepth 100000 in
theorem numOf_any (x : Value) (v : Int) (w : World) :
    Calls Tryz.prog 322 #[.int .i64 v, x] w fun e w' => e = .returned (.int .i64 v) ∧ w' = w := by
  go_enter Tryz.func322, Tryz.ntmps322
  go_wp2
  go_ret
  exact ⟨rfl, rfl⟩

set_option maxRecDepth 100000 in
theorem regSet_any (b : Nat) (r v : Int) (u : Value) (w : World) (h0 : 0 ≤ r) (h1 : r < 8) (hc : w.cell? ⟨b, 2 + r.toNat, none⟩ = some u) (hz : w.frozen? ⟨b, 2 + r.toNat, none⟩ = false) :
    Calls Tryz.prog 300 #[.int .i64 r, ifc b, .int .i64 v] w fun e w' => e = .returned (.tuple #[]) ∧ w' = w.setCell ⟨b, 2 + r.toNat, none⟩ (.int .i64 v) := by
  go_enter Tryz.func300, Tryz.ntmps300
  go_wp2_with fail
  refine (setRegister_any b r v u _ h0 h1 hc hz).mono ?_
  rintro e w' ⟨rfl, rfl⟩
  go_wp2
  go_end0
  exact ⟨rfl, rfl⟩

end Go.Proofs.YtfhkfnoajbbfdabGreatDoor
