import Derived.Test.YtfhkfnoajbbfdabGreatDoorPart04
import Derived.Deep.RegionWith
namespace Go.Proofs.YtfhkfnoajbbfdabGreatDoor
open Go.RowKit

attribute [local go_sem] mNumOf mRegOf mEnd

/-- A value as an instruction holds it. -/
def encVl (x : Vl) : Value := if x.reg = true then .iface 264 (.int .i64 x.v) else .iface 359 (.int .i64 x.v)

section
variable {w : World} {b bm : Nat} {iv ov : Value} {T : Th} {m : Nat → Int}

theorem ThAt.reg (h : ThAt w b bm iv ov T) {r : Int} (h0 : 0 ≤ r) (h1 : r < 8) (o : Obj) : (w.alloc o).drew.cell? ⟨b, 2 + r.toNat, none⟩ = some (.int .i64 (T.r r.toNat)) :=
  (World.cell?_alloc_past _ _ _ h.lt).trans (h.regs _ (by omega))

/-- Where an instruction's cell lies. -/
def atOf (x : Vl) (n : Int) (T : Th) : Int := wrap64 (x.of T + n)

set_option maxRecDepth 100000 in
set_option maxHeartbeats 1000000 in
theorem cellOn_in (h : ThAt w b bm iv ov T) (x : Vl) (hx : x.ok) (n : Int) (h0 : 0 ≤ atOf x n T) (h1 : atOf x n T < 256) :
    Calls Tryz.prog 305 #[.agg #[encVl x, .int .i64 n], ifc b] w fun e w' => e = .returned (.tuple #[.int .i64 (atOf x n T), .bool true]) ∧ Below w.heap.size w w' := by
  obtain ⟨r, v⟩ := x
  unfold atOf at h0 h1 ⊢
  cases r
  · simp only [encVl, Vl.of, Bool.false_eq_true, if_false] at h0 h1 ⊢
    have e0 : ¬ wrap64 (v + n) < 0 := by omega
    have e1 : ¬ (256 : Int) ≤ wrap64 (v + n) := by omega
    clear h hx
    go_enter Tryz.func305, Tryz.ntmps305
    go_wp2
    go_region_with (go_at_call 322; refine (numOf_any _ _ _).mono ?_; rintro e w' ⟨rfl, rfl⟩)
    all_goals go_wp2
    all_goals go_ret2
    all_goals exact ⟨rfl, ((Below.refl _ w).alloc (Nat.le_refl _) _).drew⟩
  · simp only [encVl, Vl.of, if_true] at h0 h1 ⊢
    have hv := hx rfl
    simp only at hv
    have hreg := h.reg hv.1 hv.2
    generalize T.r v.toNat = u at hreg h0 h1 ⊢
    have e0 : ¬ wrap64 (u + n) < 0 := by omega
    have e1 : ¬ (256 : Int) ≤ wrap64 (u + n) := by omega
    clear h hx
    go_enter Tryz.func305, Tryz.ntmps305
    go_wp2
    go_region_with (go_at_call 297; go_must (refine (regOf_any b v u _ hv.1 hv.2 (hreg _)).mono ?_); rintro e w' ⟨rfl, rfl⟩)
    all_goals go_wp2
    all_goals go_ret2
    all_goals exact ⟨rfl, ((Below.refl _ w).alloc (Nat.le_refl _) _).drew⟩

set_option maxRecDepth 100000 in
set_option maxHeartbeats 1000000 in
theorem cellOn_out (h : ThAt w b bm iv ov T) (hm : MemAt w bm m) (x : Vl) (hx : x.ok) (n : Int) (h0 : ¬ (0 ≤ atOf x n T ∧ atOf x n T < 256)) :
    Calls Tryz.prog 305 #[.agg #[encVl x, .int .i64 n], ifc b] w fun e w' => e = .returned (.tuple #[.int .i64 0, .bool false]) ∧ Eff w b bm iv ov { T with st := 9 } m w' := by
  obtain ⟨r, v⟩ := x
  unfold atOf at h0
  have hfin : ∀ o, Eff w b bm iv ov { T with st := 9 } m ((w.alloc o).drew.setCell ⟨b, 22, none⟩ (.int .i64 9)) := fun o => by
    have hb2 : Below w.heap.size w (w.alloc o).drew := ((Below.refl _ w).alloc (Nat.le_refl _) o).drew
    exact ⟨ov, (h.below hb2).setState 9, (hm.below hb2).keep ((Chg.refl (fun k i => k = b ∧ i = 22) _).setCell (fun _ => ⟨rfl, rfl⟩) _) (fun i _ e => h.ne hm e.1.symm), (Chg.of_below hb2).setCell (fun _ => foot_own _) _, .inl rfl⟩
  have HF : Hid (∀ o, Eff w b bm iv ov { T with st := 9 } m ((w.alloc o).drew.setCell ⟨b, 22, none⟩ (.int .i64 9))) := hfin
  have hs : ∀ o, (w.alloc o).drew.cell? ⟨b, 22, none⟩ = some (.int .i64 T.st) := fun o => (World.cell?_alloc_past _ _ _ h.lt).trans h.state
  have hz : ∀ o, (w.alloc o).drew.frozen? ⟨b, 22, none⟩ = false := fun o => (World.frozen?_alloc_past _ _ _ h.lt).trans (h.free 22 (by omega))
  clear hfin
  cases r
  · simp only [encVl, Vl.of, Bool.false_eq_true, if_false] at h0 ⊢
    clear h hx
    by_cases e0 : wrap64 (v + n) < 0
    · go_enter Tryz.func305, Tryz.ntmps305
      go_wp2
      go_region_with (go_at_call 322; refine (numOf_any _ _ _).mono ?_; rintro e w' ⟨rfl, rfl⟩)
      all_goals go_wp2_with (go_at_call 328; refine (end_any b 9 _ _ (hs _) (hz _)).mono ?_; rintro e w' ⟨rfl, rfl⟩)
      all_goals go_ret2
      all_goals exact ⟨rfl, HF.out _⟩
    · have e1 : (256 : Int) ≤ wrap64 (v + n) := by omega
      go_enter Tryz.func305, Tryz.ntmps305
      go_wp2
      go_region_with (go_at_call 322; refine (numOf_any _ _ _).mono ?_; rintro e w' ⟨rfl, rfl⟩)
      all_goals go_wp2_with (go_at_call 328; refine (end_any b 9 _ _ (hs _) (hz _)).mono ?_; rintro e w' ⟨rfl, rfl⟩)
      all_goals go_ret2
      all_goals exact ⟨rfl, HF.out _⟩
  · simp only [encVl, Vl.of, if_true] at h0 ⊢
    have hv := hx rfl
    simp only at hv
    have hreg := h.reg hv.1 hv.2
    generalize T.r v.toNat = u at hreg h0 ⊢
    clear h hx
    by_cases e0 : wrap64 (u + n) < 0
    · go_enter Tryz.func305, Tryz.ntmps305
      go_wp2
      go_region_with (go_at_call 297; refine (regOf_any b v u _ hv.1 hv.2 (hreg _)).mono ?_; rintro e w' ⟨rfl, rfl⟩)
      all_goals go_wp2_with (go_at_call 328; refine (end_any b 9 _ _ (hs _) (hz _)).mono ?_; rintro e w' ⟨rfl, rfl⟩)
      all_goals go_ret2
      all_goals exact ⟨rfl, HF.out _⟩
    · have e1 : (256 : Int) ≤ wrap64 (u + n) := by omega
      go_enter Tryz.func305, Tryz.ntmps305
      go_wp2
      go_region_with (go_at_call 297; refine (regOf_any b v u _ hv.1 hv.2 (hreg _)).mono ?_; rintro e w' ⟨rfl, rfl⟩)
      all_goals go_wp2_with (go_at_call 328; refine (end_any b 9 _ _ (hs _) (hz _)).mono ?_; rintro e w' ⟨rfl, rfl⟩)
      all_goals go_ret2
      all_goals exact ⟨rfl, HF.out _⟩
end
end Go.Proofs.YtfhkfnoajbbfdabGreatDoor
