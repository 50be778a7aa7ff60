import Derived.Test.YtfhkfnoajbbfdabGreatDoorPart08
import Derived.Test.YtfhkfnoajbbfdabGreatDoorPart06
namespace Go.Proofs.YtfhkfnoajbbfdabGreatDoor
open Go.RowKit

attribute [local go_sem] mNumOf mRegOf mEnd mDrain mGive mLeap mSetRegister mStore mLoad mSetCell nGive nStore nSetCell

section
variable {w : World} {b bm : Nat} {iv ov : Value} {T : Th} {m : Nat → Int}

theorem encVl_iface (x : Vl) : ∃ t u, encVl x = .iface t u := by unfold encVl; split <;> exact ⟨_, _, rfl⟩

set_option maxRecDepth 100000 in
set_option maxHeartbeats 1000000 in
theorem do_store_out (h : ThAt w b bm iv ov T) (hm : MemAt w bm m) (x y : Vl) (hx : x.ok) (n : Int) (h0 : ¬ (0 ≤ atOf x n T ∧ atOf x n T < 256)) :
    Calls Tryz.prog 307 #[.agg #[encVl x, .int .i64 n, encVl y], ifc b] w fun e w' => e = .returned (.tuple #[]) ∧ Eff w b bm iv ov { T with st := 9 } m w' := by
  have hon := fun (W : World) (hB : Below w.heap.size w W) => cellOn_out (h.below hB) (hm.below hB) x hx n h0
  obtain ⟨t, u, hxe⟩ := encVl_iface x
  obtain ⟨t', u', hye⟩ := encVl_iface y
  rw [hxe] at hon ⊢
  rw [hye]
  have HO := hid hon
  clear hon hxe hx h hm hye
  go_enter Tryz.func307, Tryz.ntmps307
  go_wp2_with fail
  refine (HO.out _ (below_box _ _)).mono ?_
  rintro e w1 ⟨rfl, h1⟩
  have H1 := hid h1
  clear h1 HO
  go_wp2
  go_end0
  exact ⟨rfl, H1.out.base (below_box _ _)⟩

set_option maxRecDepth 100000 in
set_option maxHeartbeats 1000000 in
theorem do_store_num (h : ThAt w b bm iv ov T) (hm : MemAt w bm m) (x : Vl) (hx : x.ok) (n v : Int) (h0 : 0 ≤ atOf x n T) (h1 : atOf x n T < 256) :
    Calls Tryz.prog 307 #[.agg #[encVl x, .int .i64 n, .iface 359 (.int .i64 v)], ifc b] w fun e w' => e = .returned (.tuple #[]) ∧ Eff w b bm iv ov { T with q := (storeQ T.q m (atOf x n T) v).1 } (storeQ T.q m (atOf x n T) v).2 w' := by
  have hmf : ∀ (fn : Fn) (first cap : Array Value) (w : World), (Instr.makeFunc fn first cap).run Tryz.prog w = .ok (.func fn first cap) w := fun _ _ _ _ => rfl
  have H := hid h
  have HM := hid hm
  clear h hm
  have hon := fun (W : World) (hB : Below w.heap.size w W) => cellOn_in (H.out.below hB) x hx n h0 h1
  obtain ⟨t, u, hxe⟩ := encVl_iface x
  rw [hxe] at hon ⊢
  have HO := hid hon
  clear hon hxe hx
  generalize atOf x n T = a at *
  go_enter Tryz.func307, Tryz.ntmps307
  go_wp2_with fail
  refine (HO.out _ (below_box _ _)).mono ?_
  rintro e w1 ⟨rfl, hb1⟩
  have hd := box_kept (i := 2) (v := some (.iface 359 (.int .i64 v))) hb1 (by simp [go_sem])
  have HB := hid ((below_box w _).trans (hb1.mono (by simp)))
  clear hb1 HO
  go_wp2
  go_region_with (first
    | (go_at_call 322; refine (numOf_any _ _ _).mono ?_; rintro e w' ⟨rfl, rfl⟩)
    | (go_at_call 334; refine (th_store (H.out.below HB.out.drew) (HM.out.below HB.out.drew) a v h0 h1).mono ?_; rintro e w2 ⟨rfl, h2⟩; have H2 := hid h2; clear h2))
  all_goals go_wp2
  all_goals go_end0
  all_goals exact ⟨rfl, H2.out.base HB.out.drew⟩

set_option maxRecDepth 100000 in
set_option maxHeartbeats 1000000 in
theorem do_store_reg (h : ThAt w b bm iv ov T) (hm : MemAt w bm m) (x : Vl) (hx : x.ok) (n v : Int) (v0 : 0 ≤ v) (v1 : v < 8) (h0 : 0 ≤ atOf x n T) (h1 : atOf x n T < 256) :
    Calls Tryz.prog 307 #[.agg #[encVl x, .int .i64 n, .iface 264 (.int .i64 v)], ifc b] w fun e w' => e = .returned (.tuple #[]) ∧ Eff w b bm iv ov { T with q := (storeQ T.q m (atOf x n T) (T.r v.toNat)).1 } (storeQ T.q m (atOf x n T) (T.r v.toNat)).2 w' := by
  have hmf : ∀ (fn : Fn) (first cap : Array Value) (w : World), (Instr.makeFunc fn first cap).run Tryz.prog w = .ok (.func fn first cap) w := fun _ _ _ _ => rfl
  have H := hid h
  have HM := hid hm
  clear h hm
  have hon := fun (W : World) (hB : Below w.heap.size w W) => cellOn_in (H.out.below hB) x hx n h0 h1
  obtain ⟨t, u, hxe⟩ := encVl_iface x
  rw [hxe] at hon ⊢
  have HO := hid hon
  clear hon hxe hx
  generalize atOf x n T = a at *
  go_enter Tryz.func307, Tryz.ntmps307
  go_wp2_with fail
  refine (HO.out _ (below_box _ _)).mono ?_
  rintro e w1 ⟨rfl, hb1⟩
  have hd := box_kept (i := 2) (v := some (.iface 264 (.int .i64 v))) hb1 (by simp [go_sem])
  have HB := hid ((below_box w _).trans (hb1.mono (by simp)))
  have hreg := (H.out.below HB.out.drew).regs v.toNat (by omega)
  clear hb1 HO
  go_wp2
  go_region_with (first
    | (go_at_call 297; refine (regOf_any b v (T.r v.toNat) _ v0 v1 hreg).mono ?_; rintro e w' ⟨rfl, rfl⟩)
    | (go_at_call 334; refine (th_store (H.out.below HB.out.drew) (HM.out.below HB.out.drew) a (T.r v.toNat) h0 h1).mono ?_; rintro e w2 ⟨rfl, h2⟩; have H2 := hid h2; clear h2))
  all_goals go_wp2
  all_goals go_end0
  all_goals exact ⟨rfl, H2.out.base HB.out.drew⟩
end
end Go.Proofs.YtfhkfnoajbbfdabGreatDoor

namespace Go.Proofs.YtfhkfnoajbbfdabGreatDoor
open Go.RowKit

section
variable {D : Nat → Prop} {w : World} {bm : Nat} {m : Nat → Int} {ts : List Tr}

set_option maxRecDepth 100000 in
set_option maxHeartbeats 1000000 in
theorem has_yes (bm bt n cap : Nat) (i : Nat) (hc : w.cell? ⟨bm, 256, none⟩ = some (.slice (some ⟨bt, 0, none⟩) n cap)) (hi : i < n) :
    Calls Tryz.prog 35 #[ptr bm, .int .i64 i] w fun e w' => e = .returned (.bool true) ∧ w' = w := by
  have hi' : (i : Int) < (n : Int) := by omega
  go_enter Tryz.func35, Tryz.ntmps35
  go_wp2
  go_ret
  exact ⟨by simp, rfl⟩

set_option maxRecDepth 100000 in
set_option maxHeartbeats 1000000 in
theorem has_no (bm bt n cap : Nat) (i : Nat) (hc : w.cell? ⟨bm, 256, none⟩ = some (.slice (some ⟨bt, 0, none⟩) n cap)) (hi : n ≤ i) :
    Calls Tryz.prog 35 #[ptr bm, .int .i64 i] w fun e w' => e = .returned (.bool false) ∧ w' = w := by
  have hi' : ¬ (i : Int) < (n : Int) := by omega
  go_enter Tryz.func35, Tryz.ntmps35
  go_wp2
  go_ret
  exact ⟨by simp, rfl⟩

theorem MAt.slot (h : MAt D w bm m ts) : ∃ bt cap, w.cell? ⟨bm, 256, none⟩ = some (.slice (some ⟨bt, 0, none⟩) ts.length cap) ∧ ∀ i (h : i < ts.length), w.cell? ⟨bt, i, none⟩ = some (ptr ts[i].b) :=
  let ⟨bt, cap, _, h1, _, h3⟩ := h.thr; ⟨bt, cap, h1, h3⟩

set_option maxRecDepth 100000 in
set_option maxHeartbeats 1000000 in
theorem m_step_yes (h : MAt D w bm m ts) (i : Nat) (hi : i < ts.length) (R : World → Prop) (hs : Calls Tryz.prog 54 #[ptr ts[i].b] w fun e w' => e = .returned (.tuple #[]) ∧ R w') :
    Calls Tryz.prog 34 #[ptr bm, .int .i64 i] w fun e w' => e = .returned (.tuple #[]) ∧ R w' := by
  obtain ⟨bt, cap, h1, h3⟩ := h.slot
  have hx : w.cell? ⟨bt, i, none⟩ = some (.pointer (some ⟨ts[i].b, 0, none⟩)) := h3 i hi
  have hi' : (i : Int) < (ts.length : Int) := by omega
  have HS := hid hs
  clear h h3 hs
  go_enter Tryz.func34, Tryz.ntmps34
  go_wp2_with fail
  refine (has_yes bm bt _ cap i h1 hi).mono ?_
  rintro e w' ⟨rfl, rfl⟩
  go_wp2_with fail
  refine HS.out.mono ?_
  rintro e w1 ⟨rfl, hr⟩
  have HR := hid hr
  clear hr HS
  go_wp2
  go_end0
  exact ⟨rfl, HR.out⟩

set_option maxRecDepth 100000 in
set_option maxHeartbeats 1000000 in
theorem m_step_no (h : MAt D w bm m ts) (i : Nat) (hi : ts.length ≤ i) :
    Calls Tryz.prog 34 #[ptr bm, .int .i64 i] w fun e w' => e = .returned (.tuple #[]) ∧ w' = w := by
  obtain ⟨bt, cap, h1, h3⟩ := h.slot
  clear h h3
  go_enter Tryz.func34, Tryz.ntmps34
  go_wp2_with fail
  refine (has_no bm bt _ cap i h1 hi).mono ?_
  rintro e w' ⟨rfl, rfl⟩
  go_wp2
  go_end0
  exact ⟨rfl, rfl⟩

set_option maxRecDepth 100000 in
set_option maxHeartbeats 1000000 in
theorem m_flush_yes (h : MAt D w bm m ts) (i : Nat) (hi : i < ts.length) (v : Bool) (R : World → Prop) (hs : Calls Tryz.prog 53 #[ptr ts[i].b] w fun e w' => e = .returned (.bool v) ∧ R w') :
    Calls Tryz.prog 33 #[ptr bm, .int .i64 i] w fun e w' => e = .returned (.tuple #[]) ∧ R w' := by
  obtain ⟨bt, cap, h1, h3⟩ := h.slot
  have hx : w.cell? ⟨bt, i, none⟩ = some (.pointer (some ⟨ts[i].b, 0, none⟩)) := h3 i hi
  have hi' : (i : Int) < (ts.length : Int) := by omega
  have HS := hid hs
  clear h h3 hs
  go_enter Tryz.func33, Tryz.ntmps33
  go_wp2_with fail
  refine (has_yes bm bt _ cap i h1 hi).mono ?_
  rintro e w' ⟨rfl, rfl⟩
  go_wp2_with fail
  refine HS.out.mono ?_
  rintro e w1 ⟨rfl, hr⟩
  have HR := hid hr
  clear hr HS
  go_wp2
  go_end0
  exact ⟨rfl, HR.out⟩

set_option maxRecDepth 100000 in
set_option maxHeartbeats 1000000 in
theorem m_state_yes (h : MAt D w bm m ts) (i : Nat) (hi : i < ts.length) :
    Calls Tryz.prog 27 #[ptr bm, .int .i64 i] w fun e w' => e = .returned (.int .i64 ts[i].T.st) ∧ w' = w := by
  obtain ⟨bt, cap, h1, h3⟩ := h.slot
  have hx : w.cell? ⟨bt, i, none⟩ = some (.pointer (some ⟨ts[i].b, 0, none⟩)) := h3 i hi
  have hi' : (i : Int) < (ts.length : Int) := by omega
  have hst := (h.th i hi).state
  clear h h3
  go_enter Tryz.func27, Tryz.ntmps27
  go_wp2_with fail
  refine (has_yes bm bt _ cap i h1 hi).mono ?_
  rintro e w' ⟨rfl, rfl⟩
  go_wp2_with fail
  refine (state_any _ _ _ hst).mono ?_
  rintro e w1 ⟨rfl, rfl⟩
  go_wp2
  go_ret
  exact ⟨rfl, rfl⟩

end
end Go.Proofs.YtfhkfnoajbbfdabGreatDoor
