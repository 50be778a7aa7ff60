import Derived.Test.YtfhkfnoajbbfdabGreatDoorPart04
import Derived.Test.YtfhkfnoajbbfdabGreatDoorPart05
import Derived.Deep.RegionWith
import Derived.BigQuiet
import Derived.Deep.QuietTactic
import Derived.Test.YtfhkfnoajbbfdabGreatDoorPart01
import Derived.Test.YtfhkfnoajbbfdabGreatDoorProg
import Derived.Laws.Bits64b
import Derived.Laws.Shifts
import Derived.WalkLawsBesides
namespace Go.Proofs.YtfhkfnoajbbfdabGreatDoor
open Go.RowKit

section
variable {w : World} {bl bw : Nat} {n : Int} {u u2 u3 : ByteArray} {r : Nat} {ws : List ByteArray}

end
end Go.Proofs.YtfhkfnoajbbfdabGreatDoor

namespace Go.Proofs.YtfhkfnoajbbfdabGreatDoor
open Go.RowKit

attribute [local go_sem] mNumOf mRegOf mEnd mDrain mGive mLeap mSetRegister

section
variable {w : World} {b bm : Nat} {iv ov : Value} {T : Th} {m : Nat → Int}

theorem Eff.base {W w' : World} {T' : Th} {m' : Nat → Int} (hB : Below w.heap.size w W) (h : Eff W b bm iv ov T' m' w') : Eff w b bm iv ov T' m' w' :=
  let ⟨_, h1, h2, h3, h4⟩ := h; Eff.then (Chg.of_below hB) (.inl rfl) h1 h2 h3 h4

theorem below_box (w : World) (o : Obj) : Below w.heap.size w (w.alloc o) := (Below.refl _ w).alloc (Nat.le_refl _) o
theorem below_boxd (w : World) (o : Obj) : Below w.heap.size w (w.alloc o).drew := ((Below.refl _ w).alloc (Nat.le_refl _) o).drew

theorem ThAt.effState (h : ThAt w b bm iv ov T) (hm : MemAt w bm m) (s : Int) : Eff w b bm iv ov { T with st := s } m (w.setCell ⟨b, 22, none⟩ (.int .i64 s)) :=
  ⟨ov, h.setState s, hm.keep ((Chg.refl (fun k i => k = b ∧ i = 22) _).setCell (fun _ => ⟨rfl, rfl⟩) _) (fun _ _ e => h.ne hm e.1.symm), (Chg.refl _ _).setCell (fun _ => foot_own _) _, .inl rfl⟩
theorem ThAt.effPlace (h : ThAt w b bm iv ov T) (hm : MemAt w bm m) (s : Int) : Eff w b bm iv ov { T with pl := s } m (w.setCell ⟨b, 10, none⟩ (.int .i64 s)) :=
  ⟨ov, h.setPlace s, hm.keep ((Chg.refl (fun k i => k = b ∧ i = 10) _).setCell (fun _ => ⟨rfl, rfl⟩) _) (fun _ _ e => h.ne hm e.1.symm), (Chg.refl _ _).setCell (fun _ => foot_own _) _, .inl rfl⟩
theorem ThAt.effReg (h : ThAt w b bm iv ov T) (hm : MemAt w bm m) {d : Nat} (hd : d < 8) (s : Int) : Eff w b bm iv ov (T.setR d s) m (w.setCell ⟨b, 2 + d, none⟩ (.int .i64 s)) :=
  ⟨ov, h.setReg hd s, hm.keep ((Chg.refl (fun k i => k = b ∧ i = 2 + d) _).setCell (fun _ => ⟨rfl, rfl⟩) _) (fun _ _ e => h.ne hm e.1.symm), (Chg.refl _ _).setCell (fun _ => foot_own _) _, .inl rfl⟩

set_option maxRecDepth 100000 in
set_option maxHeartbeats 1000000 in
theorem do_fence (h : ThAt w b bm iv ov T) (hm : MemAt w bm m) :
    Calls Tryz.prog 310 #[.agg #[], ifc b] w fun e w' => e = .returned (.tuple #[]) ∧ Eff w b bm iv ov { T with q := [] } (drainM m T.q) w' := by
  have H := hid h
  have HM := hid hm
  clear h hm
  go_enter Tryz.func310, Tryz.ntmps310
  go_wp2_with (go_at_call 276; refine (th_drain (H.out.below (below_box _ _)) (HM.out.below (below_box _ _))).mono ?_; rintro e w1 ⟨rfl, h1⟩; have H1 := hid h1; clear h1)
  go_end0
  exact ⟨rfl, H1.out.base (below_box _ _)⟩

set_option maxRecDepth 100000 in
set_option maxHeartbeats 1000000 in
theorem do_end (h : ThAt w b bm iv ov T) (hm : MemAt w bm m) (s : Int) :
    Calls Tryz.prog 314 #[.agg #[.int .i64 s], ifc b] w fun e w' => e = .returned (.tuple #[]) ∧ Eff w b bm iv ov { T with st := s } m w' := by
  have H := hid h
  have HM := hid hm
  clear h hm
  go_enter Tryz.func314, Tryz.ntmps314
  go_wp2_with (go_at_call 328; refine (end_any b s _ _ (H.out.below (below_box _ _)).state ((H.out.below (below_box _ _)).free 22 (by omega))).mono ?_; rintro e w1 ⟨rfl, rfl⟩)
  go_end0
  exact ⟨rfl, ((H.out.below (below_box _ _)).effState (HM.out.below (below_box _ _)) s).base (below_box _ _)⟩

set_option maxRecDepth 100000 in
set_option maxHeartbeats 1000000 in
theorem do_leap (h : ThAt w b bm iv ov T) (hm : MemAt w bm m) (s : Int) :
    Calls Tryz.prog 312 #[.agg #[.int .i64 s], ifc b] w fun e w' => e = .returned (.tuple #[]) ∧ Eff w b bm iv ov { T with pl := s } m w' := by
  have H := hid h
  have HM := hid hm
  clear h hm
  go_enter Tryz.func312, Tryz.ntmps312
  go_wp2_with (go_at_call 330; refine (leap_any b s _ _ (H.out.below (below_box _ _)).place ((H.out.below (below_box _ _)).free 10 (by omega))).mono ?_; rintro e w1 ⟨rfl, rfl⟩)
  go_end0
  exact ⟨rfl, ((H.out.below (below_box _ _)).effPlace (HM.out.below (below_box _ _)) s).base (below_box _ _)⟩
end
end Go.Proofs.YtfhkfnoajbbfdabGreatDoor

namespace Go.Proofs.YtfhkfnoajbbfdabGreatDoor
open Go.RowKit

section
variable {w : World} {b bm : Nat} {iv ov : Value} {T : Th} {m : Nat → Int}

set_option maxRecDepth 100000 in
set_option maxHeartbeats 1000000 in
theorem th_step_still (h : ThAt w b bm iv ov T) (hst : T.st ≠ 0) :
    Calls Tryz.prog 54 #[ptr b] w fun e w' => e = .returned (.tuple #[]) ∧ w' = w := by
  have hs := h.state
  have hne : (T.st != 0) = true := by simp [hst]
  clear h
  go_enter Tryz.func54, Tryz.ntmps54
  go_wp2
  refine bodyPost_ret (results_none rfl _ _ _) rfl ?_
  exact ⟨rfl, rfl⟩

set_option maxRecDepth 100000 in
set_option maxHeartbeats 1000000 in
theorem th_step_end (h : ThAt w b bm iv ov T) (hm : MemAt w bm m) (hst : T.st = 0) (ba : Option Addr) (len cap : Nat) (hiv : iv = .slice ba len cap) (hpl : (len : Int) ≤ T.pl) :
    Calls Tryz.prog 54 #[ptr b] w fun e w' => e = .returned (.tuple #[]) ∧ Eff w b bm iv ov { T with st := 10 } m w' := by
  have hs : w.cell? ⟨b, 22, none⟩ = some (.int .i64 0) := hst ▸ h.state
  have hi : w.cell? ⟨b, 1, none⟩ = some (.slice ba len cap) := hiv ▸ h.ins
  have hp := h.place
  have hz := h.free 22 (by omega)
  have H := hid h
  have HM := hid hm
  clear h hm hiv hst
  go_enter Tryz.func54, Tryz.ntmps54
  go_wp2
  go_region
  all_goals go_wp2
  all_goals refine bodyPost_ret (results_none rfl _ _ _) rfl ?_
  all_goals exact ⟨rfl, ((H.out.below ((Below.refl _ w).drew)).effState (HM.out.below ((Below.refl _ w).drew)) 10).base ((Below.refl _ w).drew)⟩

set_option maxRecDepth 100000 in
set_option maxHeartbeats 1000000 in
theorem th_step_do (h : ThAt w b bm iv ov T) (hm : MemAt w bm m) (hst : T.st = 0) (bi len cap : Nat) (hiv : iv = .slice (some ⟨bi, 0, none⟩) len cap) (p : Nat) (hpl : T.pl = p) (hlt : p < len) (t : TypeId) (v : Value) (hc : w.cell? ⟨bi, p, none⟩ = some (.iface t v)) (hbig : (p : Int) ≤ 4000)
    (F : Nat) (T' : Th) (m' : Nat → Int) (hme : ∀ W, (method 578 t v "Do").run Tryz.prog W = .ok (F, v) W) (hen : ∀ args W, (callFunc F args).run Tryz.prog W = .ok (.enter F args) W)
    (hdo : ∀ W, ThAt W b bm iv ov { T with pl := (p : Int) + 1 } → MemAt W bm m → Calls Tryz.prog F #[v, ifc b] W fun e w' => e = .returned (.tuple #[]) ∧ Eff W b bm iv ov T' m' w') :
    Calls Tryz.prog 54 #[ptr b] w fun e w' => e = .returned (.tuple #[]) ∧ Eff w b bm iv ov T' m' w' := by
  have hs : w.cell? ⟨b, 22, none⟩ = some (.int .i64 0) := hst ▸ h.state
  have hi : w.cell? ⟨b, 1, none⟩ = some (.slice (some ⟨bi, 0, none⟩) len cap) := hiv ▸ h.ins
  have hp : w.cell? ⟨b, 10, none⟩ = some (.int .i64 (p : Int)) := hpl ▸ h.place
  have hz := h.free 10 (by omega)
  have hlt' : (p : Int) < (len : Int) := by omega
  have H := hid h
  have HM := hid hm
  have HD := hid hdo
  clear h hm hiv hst hdo hpl
  go_enter Tryz.func54, Tryz.ntmps54
  go_wp2
  go_region
  all_goals go_wp2
  all_goals go_region
  all_goals go_wp2_with fail
  all_goals
    have hP := H.out.effPlace HM.out ((p : Int) + 1)
    obtain ⟨ov1, ht1, hm1, hc1, ho1⟩ := hP
    have e1 : ov1 = ov := by have := ht1.outc; rw [cell_set_ne (by omega), H.out.outc] at this; exact (Option.some.inj this).symm
    subst e1
    have hdd : Below (w.setCell ⟨b, 10, none⟩ (.int .i64 ((p : Int) + 1))).heap.size (w.setCell ⟨b, 10, none⟩ (.int .i64 ((p : Int) + 1))) (w.setCell ⟨b, 10, none⟩ (.int .i64 ((p : Int) + 1))).drew.drew := ((Below.refl _ _).drew).drew
    refine (HD.out _ (ht1.below hdd) (hm1.below hdd)).mono ?_
    rintro e w2 ⟨rfl, h2⟩
    have H2 := hid h2
    have HC1 := hid hc1
    clear h2 hdd ht1 hm1 hc1 ho1
    go_wp2
    go_end0
    obtain ⟨ov2, a1, a2, a3, a4⟩ := H2.out
    exact ⟨rfl, Eff.then (HC1.out.drew.drew) (.inl rfl) a1 a2 a3 a4⟩
end
end Go.Proofs.YtfhkfnoajbbfdabGreatDoor

/- What the operations make of two values. -/
namespace Go.Proofs.YtfhkfnoajbbfdabGreatDoor
open Go.RowKit

/-- How far a shift goes. -/
def places (b : Int) : Int := bits .and .u64 (IntKind.u64.wrap b) 63

theorem places_nonneg (b : Int) : 0 ≤ places b := by
  unfold places
  rw [IntKind.wrap_u64]
  have h := bits_and_u64_nat (b % 18446744073709551616).toNat 63 (by omega) (by decide)
  rw [show (((b % 18446744073709551616).toNat : Nat) : Int) = b % 18446744073709551616 by omega] at h
  rw [show (63 : Int) = ((63 : Nat) : Int) from rfl, h]
  omega

/-- What an operation makes of two values. -/
def opV (op : Nat) (a b : Int) : Option Int :=
  if op = 0 then some (wrap64 (a + b)) else if op = 1 then some (wrap64 (a - b)) else if op = 2 then some (wrap64 (a * b))
  else if op = 3 then (if b = 0 then none else some (wrap64 (a.tdiv b))) else if op = 4 then (if b = 0 then none else some (a.tmod b))
  else if op = 5 then some (bits .and .i64 a b) else if op = 6 then some (bits .or .i64 a b) else if op = 7 then some (bits .xor .i64 a b)
  else if op = 8 then some (wrap64 (a * 2 ^ min (places b).toNat 64)) else if op = 9 then some (a / 2 ^ min (places b).toNat 64)
  else if op = 10 then some (if a < b then 1 else 0) else some (if a = b then 1 else 0)

section
variable (a b : Int) (w : World)
set_option maxRecDepth 100000 in
set_option maxHeartbeats 1000000 in
theorem op_add : Calls Tryz.prog 299 #[.int .i64 0, .int .i64 a, .int .i64 b] w fun e w' => e = .returned (.tuple #[.int .i64 (wrap64 (a + b)), .bool true]) ∧ w' = w := by
  go_enter Tryz.func299, Tryz.ntmps299
  go_wp2
  go_ret2
  exact ⟨rfl, rfl⟩
set_option maxRecDepth 100000 in
set_option maxHeartbeats 1000000 in
theorem op_sub : Calls Tryz.prog 299 #[.int .i64 1, .int .i64 a, .int .i64 b] w fun e w' => e = .returned (.tuple #[.int .i64 (wrap64 (a - b)), .bool true]) ∧ w' = w := by
  go_enter Tryz.func299, Tryz.ntmps299
  go_wp2
  go_ret2
  exact ⟨rfl, rfl⟩
set_option maxRecDepth 100000 in
set_option maxHeartbeats 1000000 in
theorem op_mul : Calls Tryz.prog 299 #[.int .i64 2, .int .i64 a, .int .i64 b] w fun e w' => e = .returned (.tuple #[.int .i64 (wrap64 (a * b)), .bool true]) ∧ w' = w := by
  go_enter Tryz.func299, Tryz.ntmps299
  go_wp2
  go_ret2
  exact ⟨rfl, rfl⟩
set_option maxRecDepth 100000 in
set_option maxHeartbeats 1000000 in
theorem op_div0 (n : Int) (hn : n = 3 ∨ n = 4) : Calls Tryz.prog 299 #[.int .i64 n, .int .i64 a, .int .i64 0] w fun e w' => e = .returned (.tuple #[.int .i64 0, .bool false]) ∧ w' = w := by
  rcases hn with rfl | rfl
  all_goals
    go_enter Tryz.func299, Tryz.ntmps299
    go_wp2
    go_ret2
    exact ⟨rfl, rfl⟩
set_option maxRecDepth 100000 in
set_option maxHeartbeats 1000000 in
theorem op_div (hb : ¬ b = 0) : Calls Tryz.prog 299 #[.int .i64 3, .int .i64 a, .int .i64 b] w fun e w' => e = .returned (.tuple #[.int .i64 (wrap64 (a.tdiv b)), .bool true]) ∧ w' = w := by
  have hb' : (b == 0) = false := by simpa using hb
  go_enter Tryz.func299, Tryz.ntmps299
  go_wp2
  go_ret2
  exact ⟨rfl, rfl⟩
set_option maxRecDepth 100000 in
set_option maxHeartbeats 1000000 in
theorem op_mod (hb : ¬ b = 0) : Calls Tryz.prog 299 #[.int .i64 4, .int .i64 a, .int .i64 b] w fun e w' => e = .returned (.tuple #[.int .i64 (a.tmod b), .bool true]) ∧ w' = w := by
  have hb' : (b == 0) = false := by simpa using hb
  go_enter Tryz.func299, Tryz.ntmps299
  go_wp2
  go_ret2
  exact ⟨rfl, rfl⟩
set_option maxRecDepth 100000 in
set_option maxHeartbeats 1000000 in
theorem op_and : Calls Tryz.prog 299 #[.int .i64 5, .int .i64 a, .int .i64 b] w fun e w' => e = .returned (.tuple #[.int .i64 (bits .and .i64 a b), .bool true]) ∧ w' = w := by
  go_enter Tryz.func299, Tryz.ntmps299
  go_wp2
  go_ret2
  exact ⟨rfl, rfl⟩
set_option maxRecDepth 100000 in
set_option maxHeartbeats 1000000 in
theorem op_or : Calls Tryz.prog 299 #[.int .i64 6, .int .i64 a, .int .i64 b] w fun e w' => e = .returned (.tuple #[.int .i64 (bits .or .i64 a b), .bool true]) ∧ w' = w := by
  go_enter Tryz.func299, Tryz.ntmps299
  go_wp2
  go_ret2
  exact ⟨rfl, rfl⟩
set_option maxRecDepth 100000 in
set_option maxHeartbeats 1000000 in
theorem op_xor : Calls Tryz.prog 299 #[.int .i64 7, .int .i64 a, .int .i64 b] w fun e w' => e = .returned (.tuple #[.int .i64 (bits .xor .i64 a b), .bool true]) ∧ w' = w := by
  go_enter Tryz.func299, Tryz.ntmps299
  go_wp2
  go_ret2
  exact ⟨rfl, rfl⟩
set_option maxRecDepth 100000 in
set_option maxHeartbeats 1000000 in
theorem op_shl : Calls Tryz.prog 299 #[.int .i64 8, .int .i64 a, .int .i64 b] w fun e w' => e = .returned (.tuple #[.int .i64 (wrap64 (a * 2 ^ min (places b).toNat 64)), .bool true]) ∧ w' = w := by
  have hc := places_nonneg b
  unfold places at hc ⊢
  go_enter Tryz.func299, Tryz.ntmps299
  go_wp2
  go_ret2
  exact ⟨rfl, rfl⟩
set_option maxRecDepth 100000 in
set_option maxHeartbeats 1000000 in
theorem op_shr : Calls Tryz.prog 299 #[.int .i64 9, .int .i64 a, .int .i64 b] w fun e w' => e = .returned (.tuple #[.int .i64 (a / 2 ^ min (places b).toNat 64), .bool true]) ∧ w' = w := by
  have hc := places_nonneg b
  unfold places at hc ⊢
  go_enter Tryz.func299, Tryz.ntmps299
  go_wp2
  go_ret2
  exact ⟨rfl, rfl⟩
set_option maxRecDepth 100000 in
set_option maxHeartbeats 1000000 in
theorem op_lt : Calls Tryz.prog 299 #[.int .i64 10, .int .i64 a, .int .i64 b] w fun e w' => e = .returned (.tuple #[.int .i64 (if a < b then 1 else 0), .bool true]) ∧ w' = w := by
  by_cases h : a < b
  · rw [if_pos h]
    go_enter Tryz.func299, Tryz.ntmps299
    go_wp2
    go_ret2
    exact ⟨rfl, rfl⟩
  · rw [if_neg h]
    go_enter Tryz.func299, Tryz.ntmps299
    go_wp2
    go_ret2
    exact ⟨rfl, rfl⟩
set_option maxRecDepth 100000 in
set_option maxHeartbeats 1000000 in
theorem op_eq : Calls Tryz.prog 299 #[.int .i64 11, .int .i64 a, .int .i64 b] w fun e w' => e = .returned (.tuple #[.int .i64 (if a = b then 1 else 0), .bool true]) ∧ w' = w := by
  by_cases h : a = b
  · rw [if_pos h]
    have h' : (a == b) = true := by simpa using h
    go_enter Tryz.func299, Tryz.ntmps299
    go_wp2
    go_ret2
    exact ⟨rfl, rfl⟩
  · rw [if_neg h]
    have h' : (a == b) = false := by simpa using h
    go_enter Tryz.func299, Tryz.ntmps299
    go_wp2
    go_ret2
    exact ⟨rfl, rfl⟩

theorem opOf_any (op : Nat) (h : op < 12) : Calls Tryz.prog 299 #[.int .i64 op, .int .i64 a, .int .i64 b] w fun e w' => e = .returned (.tuple #[.int .i64 ((opV op a b).getD 0), .bool (opV op a b).isSome]) ∧ w' = w := by
  have hc : op = 0 ∨ op = 1 ∨ op = 2 ∨ op = 3 ∨ op = 4 ∨ op = 5 ∨ op = 6 ∨ op = 7 ∨ op = 8 ∨ op = 9 ∨ op = 10 ∨ op = 11 := by omega
  rcases hc with rfl | rfl | rfl | rfl | rfl | rfl | rfl | rfl | rfl | rfl | rfl | rfl
  · exact op_add a b w
  · exact op_sub a b w
  · exact op_mul a b w
  · by_cases hb : b = 0
    · subst hb; exact op_div0 a w 3 (.inl rfl)
    · rw [show opV 3 a b = some (wrap64 (a.tdiv b)) from by simp [opV, hb]]
      exact op_div a b w hb
  · by_cases hb : b = 0
    · subst hb; exact op_div0 a w 4 (.inr rfl)
    · rw [show opV 4 a b = some (a.tmod b) from by simp [opV, hb]]
      exact op_mod a b w hb
  · exact op_and a b w
  · exact op_or a b w
  · exact op_xor a b w
  · exact op_shl a b w
  · exact op_shr a b w
  · exact op_lt a b w
  · exact op_eq a b w
end
end Go.Proofs.YtfhkfnoajbbfdabGreatDoor

/- A machine: its memory, its threads; what a step and a flush do to it, plain and in memory. -/
namespace Go.Proofs.YtfhkfnoajbbfdabGreatDoor
open Go.RowKit

/-- What an instruction does (its place is the next one already). -/
def doI (i : Ic) (T : Th) (m : Nat → Int) : Th × (Nat → Int) :=
  if i.k = 2 then (if 0 ≤ atOf i.a i.n T ∧ atOf i.a i.n T < 256 then (T.setR i.d (seenIn T.q.reverse (atOf i.a i.n T) (m (atOf i.a i.n T).toNat)), m) else ({ T with st := 9 }, m))
  else if i.k = 3 then (if 0 ≤ atOf i.a i.n T ∧ atOf i.a i.n T < 256 then ({ T with q := (storeQ T.q m (atOf i.a i.n T) (i.b.of T)).1 }, (storeQ T.q m (atOf i.a i.n T) (i.b.of T)).2) else ({ T with st := 9 }, m))
  else if i.k = 4 then (if 0 ≤ atOf i.a i.n T ∧ atOf i.a i.n T < 256 then (if drainM m T.q (atOf i.a i.n T).toNat = i.b.of T then ({ T with q := [] }.setR i.d 1, putM (drainM m T.q) (atOf i.a i.n T).toNat (i.c.of T)) else ({ T with q := [] }.setR i.d 0, drainM m T.q)) else ({ T with q := [], st := 9 }, drainM m T.q))
  else if i.k = 5 then (if 0 ≤ atOf i.a i.n T ∧ atOf i.a i.n T < 256 then ({ T with q := [] }.setR i.d (drainM m T.q (atOf i.a i.n T).toNat), putM (drainM m T.q) (atOf i.a i.n T).toNat (wrap64 (drainM m T.q (atOf i.a i.n T).toNat + i.b.of T))) else ({ T with q := [], st := 9 }, drainM m T.q))
  else if i.k = 6 then ({ T with q := [] }, drainM m T.q)
  else if i.k = 7 then ({ T with out := T.out ++ [i.a.of T] }, m)
  else if i.k = 8 then ({ T with pl := i.n }, m)
  else if i.k = 0 then (T.setR i.d (i.a.of T), m)
  else if i.k = 1 then (match opV i.op (i.a.of T) (i.b.of T) with | some v => (T.setR i.d v, m) | none => ({ T with st := 1 }, m))
  else if i.k = 9 then (if i.a.of T = 0 then ({ T with pl := i.n }, m) else (T, m))
  else ({ T with st := i.n }, m)

/-- An instruction as Go text holds it, behind its interface: the type, the value. -/
def insT (i : Ic) : TypeId :=
  if i.k = 2 then 277 else if i.k = 3 then 279 else if i.k = 4 then 281 else if i.k = 5 then 283 else if i.k = 6 then 285 else if i.k = 7 then 287 else if i.k = 8 then 290 else if i.k = 0 then 272 else if i.k = 1 then 270 else if i.k = 9 then 292 else 295
def insV (i : Ic) : Value :=
  if i.k = 2 then .agg #[.int .i64 i.d, encVl i.a, .int .i64 i.n] else if i.k = 3 then .agg #[encVl i.a, .int .i64 i.n, encVl i.b] else if i.k = 4 then .agg #[.int .i64 i.d, encVl i.a, .int .i64 i.n, encVl i.b, encVl i.c]
  else if i.k = 5 then .agg #[.int .i64 i.d, encVl i.a, .int .i64 i.n, encVl i.b] else if i.k = 6 then .agg #[] else if i.k = 7 then .agg #[encVl i.a] else if i.k = 8 then .agg #[.int .i64 i.n] else if i.k = 0 then .agg #[.int .i64 i.d, encVl i.a] else if i.k = 1 then .agg #[.int .i64 i.op, .int .i64 i.d, encVl i.a, encVl i.b] else if i.k = 9 then .agg #[encVl i.a, .int .i64 i.n] else .agg #[.int .i64 i.n]
def encIns (i : Ic) : Value := .iface (insT i) (insV i)
/-- The instruction's own function. -/
def insF (i : Ic) : Nat :=
  if i.k = 2 then 306 else if i.k = 3 then 307 else if i.k = 4 then 308 else if i.k = 5 then 309 else if i.k = 6 then 310 else if i.k = 7 then 311 else if i.k = 8 then 312 else if i.k = 0 then 304 else if i.k = 1 then 298 else if i.k = 9 then 313 else 314

/-- A step of a thread whose code is c. -/
def stepT (T : Th) (m : Nat → Int) (c : List Ic) : Th × (Nat → Int) :=
  if T.st = 0 then match c[T.pl.toNat]? with
    | some i => doI i { T with pl := T.pl + 1 } m
    | none => ({ T with st := 10 }, m)
  else (T, m)
def flushT (T : Th) (m : Nat → Int) : Th × (Nat → Int) := match T.q with
  | [] => (T, m)
  | p :: q => ({ T with q := q }, putM m p.1.toNat p.2)

structure Tr where
  b : Nat
  iv : Value
  ov : Value
  T : Th
  code : List Ic

def CodeAt (D : Nat → Prop) (w : World) (iv : Value) (code : List Ic) : Prop :=
  (iv = .slice none 0 0 ∧ code = []) ∨ ∃ bi cap n, iv = .slice (some ⟨bi, 0, none⟩) code.length cap ∧ (w.shape? bi = some (194, n) ∧ D bi) ∧ ∀ i (h : i < code.length), w.cell? ⟨bi, i, none⟩ = some (encIns code[i])

structure MAt (D : Nat → Prop) (w : World) (bm : Nat) (m : Nat → Int) (ts : List Tr) : Prop where
  mem : MemAt w bm m
  thr : ∃ bt cap n, w.cell? ⟨bm, 256, none⟩ = some (.slice (some ⟨bt, 0, none⟩) ts.length cap) ∧ (w.shape? bt = some (75, n) ∧ D bt) ∧ ∀ i (h : i < ts.length), w.cell? ⟨bt, i, none⟩ = some (ptr ts[i].b)
  th : ∀ i (h : i < ts.length), ThAt w ts[i].b bm ts[i].iv ts[i].ov ts[i].T
  code : ∀ i (h : i < ts.length), CodeAt D w ts[i].iv ts[i].code
  dis : ∀ i j (hi : i < ts.length) (hj : j < ts.length), i ≠ j → ts[i].b ≠ ts[j].b ∧ ∀ k, ts[i].ov.ownBlock = some k → ts[j].ov.ownBlock ≠ some k
  dm : D bm
  db : ∀ i (h : i < ts.length), D ts[i].b
  dr : ∀ i (h : i < ts.length) k, ts[i].ov.ownBlock = some k → D k

theorem MAt.frame {D : Nat → Prop} {w w' : World} {bm : Nat} {m : Nat → Int} {ts : List Tr} {i : Nat} (h : MAt D w bm m ts) (hi : i < ts.length) (hD : ∀ k, w.heap.size ≤ k → D k) {T' : Th} {m' : Nat → Int}
    (he : Eff w ts[i].b bm ts[i].iv ts[i].ov T' m' w') : ∃ ov', MAt D w' bm m' (ts.set i { ts[i] with ov := ov', T := T' }) ∧ Chg (fun k _ => D k) w w' := by
  obtain ⟨ov', ht, hm, hc, ho⟩ := he
  have hti := h.th i hi
  -- what the step may touch is neither of another kind of block
  have hkind : ∀ k t n, w.shape? k = some (t, n) → t ≠ 120 → t ≠ 80 → t ≠ 2 → ∀ j, ¬ foot ts[i].b bm ts[i].ov k j := by
    rintro k t n hk h1 h2 h3 j (e | e | e)
    · rw [e, hti.sh] at hk; simp at hk; exact h1 hk.1.symm
    · rw [e.1, h.mem.sh] at hk; simp at hk; exact h2 hk.1.symm
    · exact hti.row_ne hk h3 e
  have hlen : (ts.set i { ts[i] with ov := ov', T := T' }).length = ts.length := by simp
  have hset : ∀ j (hj : j < ts.length), (ts.set i { ts[i] with ov := ov', T := T' })[j]'(by simpa using hj) = if j = i then { ts[i] with ov := ov', T := T' } else ts[j] := by
    intro j hj
    rw [List.getElem_set]
    by_cases e : i = j
    · subst e; simp
    · rw [if_neg e, if_neg (fun e' => e e'.symm)]
  refine ⟨ov', ⟨hm, ?_, ?_, ?_, ?_, h.dm, ?_, ?_⟩, hc.mono ?_⟩
  · obtain ⟨bt, cap, n, h1, ⟨h2, hDb⟩, h3⟩ := h.thr
    refine ⟨bt, cap, n, ?_, ⟨?_, hDb⟩, ?_⟩
    · rw [hlen]
      refine (hc.cell bm 256 h.mem.lt ?_).trans h1
      rintro (e | e | e)
      · exact hti.ne h.mem e.symm
      · omega
      · exact hti.row_ne h.mem.sh (by decide) e
    · exact (hc.shape bt (lt_of_shape h2)).trans h2
    · intro j hj
      have hj' : j < ts.length := by simpa using hj
      rw [hset j hj']
      refine (hc.cell bt j (lt_of_shape h2) (hkind bt _ _ h2 (by decide) (by decide) (by decide) j)).trans ?_
      rw [h3 j hj']
      by_cases e : j = i
      · subst e; simp
      · simp [e]
  · intro j hj
    have hj' : j < ts.length := by simpa using hj
    rw [hset j hj']
    by_cases e : j = i
    · subst e; simpa using ht
    · simp only [e, if_false]
      have hd := h.dis i j hi hj' (fun e' => e e'.symm)
      have htj := h.th j hj'
      refine htj.keep hc ?_ ?_
      · rintro k (e' | e' | e')
        · exact hd.1 e'.symm
        · exact htj.ne h.mem e'.1
        · exact hti.row_ne htj.sh (by decide) e'
      · rintro g hg k (e' | e' | e')
        · exact htj.row_ne hti.sh (by decide) (e' ▸ hg)
        · exact htj.row_ne h.mem.sh (by decide) (e'.1 ▸ hg)
        · exact hd.2 g e' hg
  · intro j hj
    have hj' : j < ts.length := by simpa using hj
    rw [hset j hj']
    have hcj : CodeAt D w' ts[j].iv ts[j].code := by
      rcases h.code j hj' with h0 | ⟨bi, cap, n, h1, ⟨h2, hDi⟩, h3⟩
      · exact .inl h0
      · exact .inr ⟨bi, cap, n, h1, ⟨(hc.shape bi (lt_of_shape h2)).trans h2, hDi⟩, fun k hk => (hc.cell bi k (lt_of_shape h2) (hkind bi _ _ h2 (by decide) (by decide) (by decide) k)).trans (h3 k hk)⟩
    by_cases e : j = i
    · subst e; simpa using hcj
    · simpa [e] using hcj
  · intro j l hj hl hne
    have hj' : j < ts.length := by simpa using hj
    have hl' : l < ts.length := by simpa using hl
    rw [hset j hj', hset l hl']
    by_cases ej : j = i
    · have el : ¬ l = i := fun e => hne (ej.trans e.symm)
      subst ej
      simp only [if_true, el, if_false]
      refine ⟨(h.dis j l hi hl' (fun e => el e.symm)).1, fun k hk hk2 => ?_⟩
      rcases ho with ho | ⟨k', ho, hk'⟩
      · exact (h.dis j l hi hl' (fun e => el e.symm)).2 k (ho ▸ hk) hk2
      · rw [ho] at hk; simp at hk; subst hk
        obtain ⟨c, hcc⟩ := ownsRow_shape (h.th l hl').out _ hk2
        have := lt_of_shape hcc; omega
    · by_cases el : l = i
      · subst el
        simp only [ej, if_false, if_true]
        refine ⟨(h.dis j l hj' hi ej).1, fun k hk hk2 => ?_⟩
        rcases ho with ho | ⟨k', ho, hk'⟩
        · exact (h.dis j l hj' hi ej).2 k hk (ho ▸ hk2)
        · rw [ho] at hk2; simp at hk2; subst hk2
          obtain ⟨c, hcc⟩ := ownsRow_shape (h.th j hj').out _ hk
          have := lt_of_shape hcc; omega
      · simp only [ej, el, if_false]
        exact h.dis j l hj' hl' hne
  · intro j hj
    have hj' : j < ts.length := by simpa using hj
    rw [hset j hj']
    by_cases e : j = i
    · subst e; simpa using h.db j hj'
    · simpa [e] using h.db j hj'
  · intro j hj k hk
    have hj' : j < ts.length := by simpa using hj
    rw [hset j hj'] at hk
    by_cases e : j = i
    · subst e
      simp only [if_true] at hk
      rcases ho with ho | ⟨k', ho, hk'⟩
      · exact h.dr j hj' k (ho ▸ hk)
      · rw [ho] at hk; simp at hk; subst hk; exact hD _ hk'
    · simp only [e, if_false] at hk
      exact h.dr j hj' k hk
  · rintro k j hk (e | e | e)
    · exact e ▸ h.db i hi
    · exact e.1 ▸ h.dm
    · exact h.dr i hi k e

/-- What touches no block that the machine may own keeps it. -/
theorem MAt.keep {D : Nat → Prop} {M : Nat → Nat → Prop} {w w' : World} {bm : Nat} {m : Nat → Int} {ts : List Tr} (h : MAt D w bm m ts) (hc : Chg M w w') (hM : ∀ k, D k → k < w.heap.size → ∀ i, ¬ M k i) : MAt D w' bm m ts := {
  mem := h.mem.keep hc (fun i _ => hM bm h.dm h.mem.lt i)
  thr := by
    obtain ⟨bt, cap, n, h1, ⟨h2, hDb⟩, h3⟩ := h.thr
    exact ⟨bt, cap, n, (hc.cell bm 256 h.mem.lt (hM bm h.dm h.mem.lt _)).trans h1, ⟨(hc.shape bt (lt_of_shape h2)).trans h2, hDb⟩, fun i hi => (hc.cell bt i (lt_of_shape h2) (hM bt hDb (lt_of_shape h2) i)).trans (h3 i hi)⟩
  th := fun i hi => (h.th i hi).keep hc (hM _ (h.db i hi) (h.th i hi).lt) (fun g hg => by obtain ⟨c, hs⟩ := ownsRow_shape (h.th i hi).out g hg; exact hM g (h.dr i hi g hg) (lt_of_shape hs))
  code := fun i hi => by
    rcases h.code i hi with h0 | ⟨bi, cap, n, h1, ⟨h2, hDi⟩, h3⟩
    · exact .inl h0
    · exact .inr ⟨bi, cap, n, h1, ⟨(hc.shape bi (lt_of_shape h2)).trans h2, hDi⟩, fun k hk => (hc.cell bi k (lt_of_shape h2) (hM bi hDi (lt_of_shape h2) k)).trans (h3 k hk)⟩
  dis := h.dis
  dm := h.dm
  db := h.db
  dr := h.dr }

end Go.Proofs.YtfhkfnoajbbfdabGreatDoor

/- readIns: each instruction's words. -/
namespace Go.Proofs.YtfhkfnoajbbfdabGreatDoor
open Go.RowKit

section
variable {w : World} {bl bw : Nat} {n : Int} {ws : List ByteArray} {wd : Nat → ByteArray}

def wFence : ByteArray := ⟨#[102, 101, 110, 99, 101]⟩
def wHalt : ByteArray := ⟨#[104, 97, 108, 116]⟩
def wStore : ByteArray := ⟨#[115, 116, 111, 114, 101]⟩
def wLoad : ByteArray := ⟨#[108, 111, 97, 100]⟩
def wXadd : ByteArray := ⟨#[120, 97, 100, 100]⟩
def wCas : ByteArray := ⟨#[99, 97, 115]⟩
def wOut : ByteArray := ⟨#[111, 117, 116]⟩
def wMov : ByteArray := ⟨#[109, 111, 118]⟩
def wJmp : ByteArray := ⟨#[106, 109, 112]⟩
def wJz : ByteArray := ⟨#[106, 122]⟩

end
end Go.Proofs.YtfhkfnoajbbfdabGreatDoor

namespace Go.Proofs.YtfhkfnoajbbfdabGreatDoor
open Go.RowKit

section
variable {w : World} {bl bw : Nat} {n : Int} {ws : List ByteArray} {wd : Nat → ByteArray}

def wThread : ByteArray := ⟨#[116, 104, 114, 101, 97, 100]⟩

theorem infoSIns : (Tryz.prog.info? 86).map (fun i => (i.zero, i.size, i.bytes)) = some (some (.slice none 0 0), 1, 24) := by kernel_rfl

set_option maxRecDepth 100000 in
set_option maxHeartbeats 1000000 in
/-- A thread's head: one more row, with nothing in it. -/
theorem withLine_thread {v : Value} {a : Option Addr} {k c : Nat} {xs : List Value} (h : LineAt w bl n bw [wThread]) (hk : k < 3) (hv : v = .slice a k c) (ho : w.ownsRow 0 86 1 v k xs) (hob : v.ownBlock ≠ some bl) (how : v.ownBlock ≠ some bw) :
    Calls Tryz.prog 57 #[v, ptr bl] w fun e w' => ∃ g cap, e = .returned (.slice (some ⟨g, 0, none⟩) (k + 1) cap) ∧ w'.ownsRow 0 86 1 (.slice (some ⟨g, 0, none⟩) (k + 1) cap) (k + 1) (xs ++ [.slice none 0 0]) ∧ (v.ownBlock = some g ∨ w.heap.size ≤ g) ∧ LineAt w' bl n bw [] ∧ Chg (fun q i => lineM bl q i ∨ v.ownBlock = some q) w w' := by
  obtain ⟨i0, hi, hz0, hz1, hz2⟩ := info_parts infoSIns
  have H0 := hid h
  have HO := hid ho
  have hl1 : k + 1 ≤ maxLen := by unfold maxLen; omega
  have hl2 : (k + 1) * 24 ≤ 140737488355328 := by omega
  clear h ho
  subst hv
  have hk' : ¬ (k : Int) = 3 := by omega
  go_enter Tryz.func57, Tryz.ntmps57
  go_wp2_with fail
  refine (word_ok H0.out (by simp)).mono ?_
  rintro e W1 ⟨rfl, h1, c1⟩
  have H1 := hid h1
  have C1 := hid c1
  have HO1 := hid (ownsRow_chg HO.out c1 (fun g hg i e => hob (e.1 ▸ hg)))
  clear h1 c1
  rw [show wThread = ⟨#[116, 104, 114, 101, 97, 100]⟩ from rfl]
  go_wp2_with fail
  refine (end_ok H1.out).mono ?_
  rintro e W2 ⟨rfl, rfl⟩
  go_wp2_with (at_builtin; refine wpList_app1 rfl _ _ 83 rfl 86 i0 (.slice none 0 0) 24 Tryz.underlying83 hi hz0 hz1 hz2 rfl (.slice a k c) k _ rfl (HO1.out.alloc _) ⟨W2.heap.size, 0, none⟩ (.slice none 0 0) rfl (cell_one_new _ _ _) rfl hl1 hl2 ?_; go_must (intro g cap w1 hown1 hch hg; have HC := hid hown1; have HD := hid hch; have HG := hid hg; clear hown1 hch hg))
  go_ret
  have d1 : Chg (fun q _ => (Value.slice a k c).ownBlock = some q) W2 w1 := ((Chg.refl _ W2).alloc _).trans HD.out
  refine ⟨g, cap, rfl, HC.out, ?_, H1.out.keep d1 (fun _ => hob) (fun _ => how), (C1.out.mono (fun q i _ e => .inl e)).trans (d1.mono (fun q i _ e => .inr e))⟩
  rcases HG.out with e | e
  · exact .inl e
  · right; have := C1.out.size; simp at e; omega
end
end Go.Proofs.YtfhkfnoajbbfdabGreatDoor

/- A row of one's own: reading one of its cells, setting one. -/
namespace Go.Proofs.YtfhkfnoajbbfdabGreatDoor
open Go.RowKit

theorem ownsRow_cell {w : World} {e : TypeId} {g n cap : Nat} {xs : List Value} (h : w.ownsRow 0 e 1 (.slice (some ⟨g, 0, none⟩) n cap) n xs) (j : Nat) (hj : j < n) :
    w.cell? ⟨g, j, none⟩ = xs[j]? ∧ w.frozen? ⟨g, j, none⟩ = false ∧ g < w.heap.size := by
  rcases h.2 with ⟨h2, _⟩ | ⟨g', cap', cur, hv, _, hg, hn, hm, hs, ht⟩
  · cases h2
  · cases hv
    refine ⟨?_, ?_, (Array.getElem?_eq_some_iff.1 hg).1⟩
    · rw [← ht]
      simp [World.cell?, hg, hj]
    · simp [World.frozen?, hg]

theorem ownsRow_set {w : World} {e : TypeId} {g n cap : Nat} {xs : List Value} (h : w.ownsRow 0 e 1 (.slice (some ⟨g, 0, none⟩) n cap) n xs) (j : Nat) (u : Value) :
    (w.setCell ⟨g, j, none⟩ u).ownsRow 0 e 1 (.slice (some ⟨g, 0, none⟩) n cap) n (xs.set j u) := by
  refine ⟨by simpa using h.1, ?_⟩
  rcases h.2 with ⟨h2, _⟩ | ⟨g', cap', cur, hv, hb, hg, hn, hm, hs, ht⟩
  · cases h2
  · cases hv
    have hlt := (Array.getElem?_eq_some_iff.1 hg).1
    refine .inr ⟨g, cap, cur.setIfInBounds j u, rfl, hb, ?_, hn, hm, by simpa using hs, ?_⟩
    · rw [World.setCell]; simp only [Array.getElem?_modify, hg]; simp
    · rw [← ht]; simp [List.take_set]

section
variable {w : World} {bl bw : Nat} {n : Int} {ws : List ByteArray} {wd : Nat → ByteArray}

theorem row_cell {W w1 : World} {o : Obj} {ov v : Value} {g k : Nat} (hc : Chg (fun k _ => ov.ownBlock = some k) (W.alloc o) w1) (hg : ov.ownBlock ≠ some g) (hlt : g < W.heap.size) (h : W.cell? ⟨g, k, none⟩ = some v) : w1.cell? ⟨g, k, none⟩ = some v :=
  (hc.cell g k (by simp; omega) hg).trans ((World.cell?_alloc_past _ _ _ hlt).trans h)
theorem row_free {W w1 : World} {o : Obj} {ov : Value} {g k : Nat} (hc : Chg (fun k _ => ov.ownBlock = some k) (W.alloc o) w1) (hlt : g < W.heap.size) (h : W.frozen? ⟨g, k, none⟩ = false) : w1.frozen? ⟨g, k, none⟩ = false :=
  (hc.frozen g k (by simp; omega)).trans ((World.frozen?_alloc_past _ _ _ hlt).trans h)

theorem infoIns : (Tryz.prog.info? 194).map (fun i => (i.zero, i.size, i.bytes)) = some (some .nilIface, 1, 16) := by kernel_rfl

set_option maxRecDepth 100000 in
set_option maxHeartbeats 1000000 in
/-- An instruction: the last row grows by one. -/
theorem withLine_ins {u : ByteArray} {g k c m : Nat} {xs ys : List Value} {iv : Value} {T : TypeId} {p : Value} (h : LineAt w bl n bw (u :: ws)) (hlen : ws.length < 1000000) (hu : u ≠ wThread) (hk : k < 3)
    (hr : ∀ W, LineAt W bl n bw ws → Chg (lineM bl) w W → Calls Tryz.prog 87 #[.string u, ptr bl] W fun e w' => e = .returned (.iface T p) ∧ LineAt w' bl n bw [] ∧ Chg (lineM bl) W w')
    (ho : w.ownsRow 0 86 1 (.slice (some ⟨g, 0, none⟩) (k + 1) c) (k + 1) xs) (hob : g ≠ bl) (how : g ≠ bw) (hx : xs[k]? = some iv) (hi : w.ownsRow 0 194 1 iv m ys) (him : m < 4000) (hib : iv.ownBlock ≠ some bl) (hiw : iv.ownBlock ≠ some bw) :
    Calls Tryz.prog 57 #[.slice (some ⟨g, 0, none⟩) (k + 1) c, ptr bl] w fun e w' => e = .returned (.slice (some ⟨g, 0, none⟩) (k + 1) c) ∧ ∃ b cap, w'.ownsRow 0 194 1 (.slice (some ⟨b, 0, none⟩) (m + 1) cap) (m + 1) (ys ++ [.iface T p]) ∧ w'.ownsRow 0 86 1 (.slice (some ⟨g, 0, none⟩) (k + 1) c) (k + 1) (xs.set k (.slice (some ⟨b, 0, none⟩) (m + 1) cap)) ∧ (iv.ownBlock = some b ∨ w.heap.size ≤ b) ∧ LineAt w' bl n bw [] ∧ Chg (fun q i => lineM bl q i ∨ iv.ownBlock = some q ∨ (q = g ∧ i = k)) w w' := by
  have hne := ba_ne hu
  have H0 := hid h
  have HR := hid hr
  have HO := hid ho
  have HI := hid hi
  have hk' : ¬ (k : Int) + 1 = 0 := by omega
  clear h hr ho hi hu
  go_enter Tryz.func57, Tryz.ntmps57
  go_wp2_with fail
  refine (word_ok H0.out hlen).mono ?_
  rintro e W1 ⟨rfl, h1, c1⟩
  have H1 := hid h1
  have C1 := hid c1
  clear h1 c1
  rw [show wThread.toList = [116, 104, 114, 101, 97, 100] from by rw [ByteArray.toList_eq]; rfl] at hne
  go_wp2_with fail
  refine (HR.out W1 H1.out C1.out).mono ?_
  rintro e W2 ⟨rfl, h2, c2⟩
  have H2 := hid h2
  have C2 := hid (C1.out.trans c2)
  clear h2 c2 HR H1 C1
  go_wp2_with fail
  refine (end_ok H2.out).mono ?_
  rintro e W3 ⟨rfl, rfl⟩
  have ho3 := ownsRow_chg HO.out C2.out (fun g' hg i e => by simp [Value.ownBlock] at hg; exact hob (hg.trans e.1))
  have hi3 := ownsRow_chg HI.out C2.out (fun g' hg i e => hib (e.1 ▸ hg))
  obtain ⟨q1, q2, q3⟩ := ownsRow_cell ho3 k (by omega)
  rw [hx] at q1
  obtain ⟨ia, ic, rfl⟩ : ∃ ia ic, iv = .slice ia m ic := by
    rcases hi3.2 with ⟨e1, e2⟩ | ⟨g', cap', cur, e1, _⟩
    · exact ⟨none, 0, by rw [e1, e2]⟩
    · exact ⟨_, _, e1⟩
  have HO3 := hid ho3
  have HI3 := hid hi3
  have him' : ¬ (m : Int) = 4000 := by omega
  have hl1 : m + 1 ≤ maxLen := by unfold maxLen; omega
  have hl2 : (m + 1) * 16 ≤ 140737488355328 := by omega
  obtain ⟨i0, hi0, hz0, hz1, hz2⟩ := info_parts infoIns
  have hig : (Value.slice ia m ic).ownBlock ≠ some g := fun e => by
    obtain ⟨x1, y1⟩ := ownsRow_shape hi3 g e
    obtain ⟨x2, y2⟩ := ownsRow_shape ho3 g rfl
    rw [y1] at y2
    simp at y2
  have HIG := hid hig
  clear ho3 hi3 hig
  go_wp2_with (at_builtin; refine wpList_app1 rfl _ _ 86 rfl 194 i0 .nilIface 16 Tryz.underlying86 hi0 hz0 hz1 hz2 rfl (.slice ia m ic) m _ rfl (HI3.out.alloc _) ⟨W3.heap.size, 0, none⟩ (.iface T p) rfl (cell_one_new _ _ _) rfl hl1 hl2 ?_; go_must (intro b cap w1 hown1 hch hg; have hcb := row_cell hch HIG.out q3 q1; have hfb := row_free hch q3 q2; have HC := hid hown1; have HD := hid hch; have HG := hid hg; clear hown1 hch hg))
  go_ret
  have d1 : Chg (fun q _ => (Value.slice ia m ic).ownBlock = some q) W3 w1 := ((Chg.refl _ W3).alloc _).trans HD.out
  have d2 : Chg (fun q i => q = g ∧ i = k) w1 (w1.setCell ⟨g, k, none⟩ (.slice (some ⟨b, 0, none⟩) (m + 1) cap)) := (Chg.refl (fun q i => q = g ∧ i = k) w1).setCell (b := g) (o := k) (fun _ => ⟨rfl, rfl⟩) _
  have hbg : b ≠ g := by
    rcases HG.out with e | e
    · exact fun e' => HIG.out (e' ▸ e)
    · simp at e; omega
  refine ⟨rfl, b, cap, ownsRow_chg HC.out d2 (fun g' hg' i e => by simp [Value.ownBlock] at hg'; exact hbg (hg'.trans e.1)), ownsRow_set (ownsRow_chg HO3.out d1 (fun g' hg' i e => by simp [Value.ownBlock] at hg'; exact HIG.out (hg' ▸ e))) k _, ?_, (H2.out.keep d1 (fun _ => hib) (fun _ => hiw)).keep d2 (fun _ e => hob e.1.symm) (fun _ e => how e.1.symm), ((C2.out.mono (fun q i _ e => .inl e)).trans (d1.mono (fun q i _ e => .inr (.inl e)))).trans (d2.mono (fun q i _ e => .inr (.inr e)))⟩
  rcases HG.out with e | e
  · exact .inl e
  · right; have := C2.out.size; simp at e; omega
end
end Go.Proofs.YtfhkfnoajbbfdabGreatDoor

namespace Go.Proofs.YtfhkfnoajbbfdabGreatDoor
open Go.RowKit
section
variable {w : World} {bl bw : Nat} {n : Int} {ws : List ByteArray}

set_option maxRecDepth 100000 in
set_option maxHeartbeats 1000000 in
/-- What a line does to the threads read so far, which lie in a box. -/
theorem read1_ok {bt : Nat} {v : Value} {R : Option Addr → Nat → Nat → World → Prop} (hc : w.cell? ⟨bt, 0, none⟩ = some v)
    (hcall : Calls Tryz.prog 57 #[v, ptr bl] w fun e w' => ∃ a k c, e = .returned (.slice a k c) ∧ R a k c w' ∧ w'.cell? ⟨bt, 0, none⟩ = some v ∧ w'.frozen? ⟨bt, 0, none⟩ = false) :
    Calls Tryz.prog 56 #[ptr bl, ptr bt] w fun e w' => e = .returned (.tuple #[]) ∧ ∃ a k c w1, R a k c w1 ∧ w1.cell? ⟨bt, 0, none⟩ = some v ∧ w' = w1.setCell ⟨bt, 0, none⟩ (.slice a k c) := by
  have HC := hid hcall
  clear hcall
  go_enter Tryz.func56, Tryz.ntmps56
  go_wp2_with fail
  refine HC.out.mono ?_
  rintro e w1 ⟨a, k, c, rfl, hr, h1, h2⟩
  have HR := hid hr
  clear hr HC
  go_wp2
  go_end0
  exact ⟨rfl, a, k, c, w1, HR.out, h1, rfl⟩

end
end Go.Proofs.YtfhkfnoajbbfdabGreatDoor

/- Reading a line, whatever it holds: what fails. -/
namespace Go.Proofs.YtfhkfnoajbbfdabGreatDoor
open Go.RowKit

/-- The panic by which a line ends the reading. -/
abbrev stopV (bf : Nat) : List PanicEntry := [{ v := .iface 197 (.agg #[ptr bf]), recovered := false }]

/-- The reading has ended with this fault in this line; of what was there only the line has turned. -/
def Fails (er n : Int) (bl : Nat) (w : World) (e : Ending) (w' : World) : Prop :=
  ∃ bf, e = .panicked (stopV bf) ∧ w.heap.size ≤ bf ∧ w'.cell? ⟨bf, 0, none⟩ = some (.int .i64 er) ∧ w'.cell? ⟨bf, 1, none⟩ = some (.int .i64 n) ∧ Chg (lineM bl) w w'

set_option maxRecDepth 100000 in
set_option maxHeartbeats 1000000 in
theorem fail_any {w : World} {bl bw : Nat} {n : Int} {ws : List ByteArray} (h : LineAt w bl n bw ws) (er : Int) :
    Calls Tryz.prog 84 #[ptr bl, .int .i64 er] w fun e w' => Fails er n bl w e w' := by
  have hn := h.num
  have hlt := h.lt
  have H := hid h
  clear h
  go_enter Tryz.func84, Tryz.ntmps84
  go_wp2
  refine ⟨rfl, w.heap.size, rfl, Nat.le_refl _, World.cell?_alloc_new _ _ _ 0, World.cell?_alloc_new _ _ _ 1, (Chg.refl _ w).alloc _⟩

set_option maxRecDepth 100000 in
set_option maxHeartbeats 1000000 in
theorem word_none {w : World} {bl bw : Nat} {n : Int} (h : LineAt w bl n bw []) :
    Calls Tryz.prog 85 #[ptr bl] w fun e w' => Fails 2 n bl w e w' := by
  obtain ⟨o, cap, hl, hs, _⟩ := h.wds
  simp only [List.length_nil] at hs
  have H := hid h
  clear h
  go_enter Tryz.func85, Tryz.ntmps85
  go_wp2_with (go_at_call 121; go_in)
  refine (fail_any H.out 2).mono ?_
  rintro e w1 ⟨bf, rfl, h1⟩
  exact ⟨rfl, bf, rfl, h1⟩

theorem Fails.after {w w1 w' : World} {bl : Nat} {er n : Int} {e : Ending} (h : Fails er n bl w1 e w') (c : Chg (lineM bl) w w1) : Fails er n bl w e w' := by
  obtain ⟨bf, h1, h2, h3, h4, h5⟩ := h
  exact ⟨bf, h1, Nat.le_trans c.size h2, h3, h4, c.trans h5⟩

set_option maxRecDepth 100000 in
set_option maxHeartbeats 1000000 in
theorem end_some {w : World} {bl bw : Nat} {n : Int} {u : ByteArray} {ws : List ByteArray} (h : LineAt w bl n bw (u :: ws)) :
    Calls Tryz.prog 86 #[ptr bl] w fun e w' => Fails 2 n bl w e w' := by
  obtain ⟨o, cap, hl, hs, _⟩ := h.wds
  simp only [List.length_cons] at hs
  have H := hid h
  clear h
  go_enter Tryz.func86, Tryz.ntmps86
  go_wp2_with (go_at_call 121; go_in)
  refine (fail_any H.out 2).mono ?_
  rintro e w1 ⟨bf, rfl, h1⟩
  exact ⟨rfl, bf, rfl, h1⟩

/-- A reader's answer: a value, and the words that are left; or the line's end with ErrSyntax. -/
def Rds (bl : Nat) (n : Int) (bw : Nat) (w : World) (r : Option (Value × List ByteArray)) (e : Ending) (w' : World) : Prop :=
  match r with
  | some (v, ws) => e = .returned v ∧ LineAt w' bl n bw ws ∧ Chg (lineM bl) w w'
  | none => Fails 2 n bl w e w'

end Go.Proofs.YtfhkfnoajbbfdabGreatDoor

/- Numbers and registers, whatever a word is. -/
namespace Go.Proofs.YtfhkfnoajbbfdabGreatDoor
open Go.RowKit

/-- What the readers ask of the package-level variables. -/
structure Env (w : World) : Prop where
  lo : 10 ≤ w.heap.size
  max : ∃ m, w.cell? ⟨1, 0, none⟩ = some (.int .i64 m)
  words : WordsAt w opWords
  es : ∃ ev, w.cell? ⟨6, 0, none⟩ = some ev ∧ (ev = .nilIface ∨ ∃ te pe, ev = .iface te pe)
  er : ∃ ev, w.cell? ⟨7, 0, none⟩ = some ev ∧ (ev = .nilIface ∨ ∃ te pe, ev = .iface te pe)
  et : w.cell? ⟨0, 0, none⟩ = some (.iface 207 (.agg #[.pointer (some ⟨10, 59, none⟩)]))

theorem Env.keep {w w' : World} {M : Nat → Nat → Prop} (h : Env w) (hc : Chg M w w') (hM : ∀ k i, k < 10 → ¬ M k i) : Env w' := by
  have hl := h.lo
  have hk : ∀ g i v, g < 10 → w.cell? ⟨g, i, none⟩ = some v → w'.cell? ⟨g, i, none⟩ = some v := fun g i v hg hv => (hc.cell g i (by omega) (hM g i hg)).trans hv
  obtain ⟨m, h1⟩ := h.max
  obtain ⟨ev, h2, h3⟩ := h.es
  obtain ⟨ev', h4, h5⟩ := h.er
  exact ⟨Nat.le_trans h.lo hc.size, ⟨m, hk _ _ _ (by decide) h1⟩, fun j hj => hk _ _ _ (by decide) (h.words j hj), ⟨ev, hk _ _ _ (by decide) h2, h3⟩, ⟨ev', hk _ _ _ (by decide) h4, h5⟩, hk _ _ _ (by decide) h.et⟩

theorem Env.below {w w' : World} (h : Env w) (hb : Below w.heap.size w w') : Env w' := h.keep (M := fun _ _ => False) (Chg.of_below hb) (fun _ _ _ e => e)

theorem Env.line {w w' : World} {bl : Nat} (h : Env w) (hc : Chg (lineM bl) w w') (hb : 10 ≤ bl) : Env w' := h.keep hc (fun k i hk e => by omega)

def digit (b : UInt8) : Bool := decide (48 ≤ b.toNat) && decide (b.toNat ≤ 57)

/-- A word behind its sign. -/
def behind (s : ByteArray) : ByteArray := ⟨(Lib.trimPrefix s.data.toList [45]).toArray⟩

/-- Whether a word is written as a number is. -/
def isNumeral (s : ByteArray) : Bool :=
  if (behind s).data.toList = [] then false else if (behind s).data.toList.head? = some 48 ∧ s ≠ ⟨#[48]⟩ then false else (behind s).data.toList.all digit

/-- The number that a word is. -/
def numVal (s : ByteArray) : Option Int := if isNumeral s = true then (match Lib.parseIntB 64 s.data.toList with | .ok v => some v | _ => none) else none

set_option maxRecDepth 100000 in
set_option maxHeartbeats 1000000 in
/-- A sign that is no digit. -/
theorem numeral_bad (w : World) (s t : ByteArray) (ht : Hid (Digits s t)) (hm : t.size < 4294967281) (k0 : Nat) (hk0 : k0 < t.size) (hz : t[0].toNat ≠ 48 ∨ s = ⟨#[48]⟩) (hd : Hid (∀ j (h : j < t.size), j < k0 → 48 ≤ t[j].toNat ∧ t[j].toNat ≤ 57)) (hb : t[k0].toNat < 48 ∨ 57 < t[k0].toNat) :
    Calls Tryz.prog 208 #[.string s] w fun e w' => e = .returned (.bool false) ∧ w' = w := by
  have h0 : 0 < t.size := by omega
  have hne := ba_some h0
  have hne' : ¬ t.toList = [] := fun h => by simp [h] at hne
  have h0' : (0 : Int) < (t.size : Int) := by omega
  have HT := ht.out
  unfold Digits at HT
  go_enter Tryz.func208, Tryz.ntmps208
  go_wp2_with fail
  refine (Tryz.strings_TrimPrefix s ⟨#[45]⟩ w).mono ?_
  rintro e w' ⟨rfl, rfl⟩
  change Hid _ at ht
  rw [show (⟨(Lib.trimPrefix s.data.toList (ByteArray.mk #[45]).data.toList).toArray⟩ : ByteArray) = t from HT.symm]
  clear HT ht
  rcases hz with hz | rfl
  all_goals go_wp2
  all_goals
    go_loopw [20] (fun v wr => ∃ k : Nat, k ≤ k0 ∧ v = .int .i64 k ∧ wr = w') (fun v _ => t.size - (intOf v).toNat)
    case atStart => exact ⟨0, by omega, rfl, rfl⟩
    case round =>
      obtain ⟨k, hk, rfl, rfl⟩ := hrel
      have hlt : k < t.size := by omega
      have hlt' : (k : Int) < (t.size : Int) := by omega
      by_cases hkk : k < k0
      · have hq := hd.out k hlt hkk
        have q1 : ¬ (t[k].toNat : Int) < 48 := by omega
        have q2 : ¬ (57 : Int) < (t[k].toNat : Int) := by omega
        go_wp2
        go_roundw
        case rel => exact ⟨k + 1, by omega, by go_num, trivial⟩
        case measure => simp [intOf]; omega
      · obtain rfl : k = k0 := by omega
        rcases hb with hb | hb
        · have q1 : (t[k].toNat : Int) < 48 := by omega
          go_wp2
          go_ret
          exact ⟨rfl, rfl⟩
        · have q1 : ¬ (t[k].toNat : Int) < 48 := by omega
          have q2 : (57 : Int) < (t[k].toNat : Int) := by omega
          go_wp2
          go_ret
          exact ⟨rfl, rfl⟩

theorem numeral_any (w : World) (s : ByteArray) (hs : s.size < 4294967281) :
    Calls Tryz.prog 208 #[.string s] w fun e w' => e = .returned (.bool (isNumeral s)) ∧ w' = w := by
  have ht : Digits s (behind s) := rfl
  have hle : (behind s).size ≤ s.size := by
    show (Lib.trimPrefix s.data.toList [45]).toArray.size ≤ s.data.size
    rw [← Array.length_toList (xs := s.data), List.size_toArray]
    unfold Lib.trimPrefix
    split
    · simp
    · exact Nat.le_refl _
  by_cases h0 : (behind s).data.toList = []
  · have hf : isNumeral s = false := by unfold isNumeral; rw [if_pos h0]
    rw [hf]
    exact numeral_empty w s _ ht (by rw [ByteArray.toList_eq, h0]; rfl)
  have hsz : 0 < (behind s).size := by
    show 0 < (behind s).data.size
    rw [← Array.length_toList]
    exact List.length_pos_iff.2 h0
  have hhead : (behind s).data.toList.head? = some (behind s)[0] := by
    rw [List.head?_eq_getElem?]
    simp [ByteArray.getElem_eq_getElem_data]
  by_cases h1 : (behind s).data.toList.head? = some 48 ∧ s ≠ ⟨#[48]⟩
  · have hf : isNumeral s = false := by unfold isNumeral; rw [if_neg h0, if_pos h1]
    rw [hf]
    refine numeral_nought w s _ ht hsz ?_ h1.2
    have := hhead.symm.trans h1.1
    simp at this
    rw [this]; rfl
  have hz : (behind s)[0].toNat ≠ 48 ∨ s = ⟨#[48]⟩ := by
    by_cases e : s = ⟨#[48]⟩
    · exact .inr e
    · left
      intro e2
      exact h1 ⟨hhead.trans (congrArg some (UInt8.toNat_inj.1 e2)), e⟩
  have hv : isNumeral s = (behind s).data.toList.all digit := by unfold isNumeral; rw [if_neg h0, if_neg h1]
  have hidx : ∀ j (h : j < (behind s).size), (behind s)[j] = (behind s).data.toList[j]'(by rw [Array.length_toList]; exact h) := by intro j h; simp [ByteArray.getElem_eq_getElem_data]
  by_cases h2 : ∀ j (h : j < (behind s).size), 48 ≤ (behind s)[j].toNat ∧ (behind s)[j].toNat ≤ 57
  · have ht' : isNumeral s = true := by
      rw [hv, List.all_eq_true]
      intro b hb
      obtain ⟨j, hj, rfl⟩ := List.mem_iff_getElem.1 hb
      have := h2 j (by rw [Array.length_toList] at hj; exact hj)
      rw [hidx j (by rw [Array.length_toList] at hj; exact hj)] at this
      simp only [digit, Bool.and_eq_true, decide_eq_true_eq]
      exact this
    rw [ht']
    exact numeral_ok w s _ ht (by omega) hsz hz h2
  · have hex : ∃ k0, ∃ h : k0 < (behind s).size, (∀ j (h : j < (behind s).size), j < k0 → 48 ≤ (behind s)[j].toNat ∧ (behind s)[j].toNat ≤ 57) ∧ ((behind s)[k0].toNat < 48 ∨ 57 < (behind s)[k0].toNat) := by
      have : ∀ n, (∀ j (h : j < (behind s).size), j < n → 48 ≤ (behind s)[j].toNat ∧ (behind s)[j].toNat ≤ 57) ∨ ∃ k0, ∃ h : k0 < (behind s).size, (∀ j (h : j < (behind s).size), j < k0 → 48 ≤ (behind s)[j].toNat ∧ (behind s)[j].toNat ≤ 57) ∧ ((behind s)[k0].toNat < 48 ∨ 57 < (behind s)[k0].toNat) := by
        intro n
        induction n with
        | zero => exact .inl (fun j h hj => absurd hj (Nat.not_lt_zero _))
        | succ n ih =>
          rcases ih with ih | ih
          · by_cases hn : n < (behind s).size
            · by_cases hg : 48 ≤ (behind s)[n].toNat ∧ (behind s)[n].toNat ≤ 57
              · left
                intro j h hj
                by_cases e : j = n
                · subst e; exact hg
                · exact ih j h (by omega)
              · exact .inr ⟨n, hn, ih, by omega⟩
            · exact .inl (fun j h hj => ih j h (by omega))
          · exact .inr ih
      rcases this (behind s).size with h | h
      · exact absurd (fun j h' => h j h' h') h2
      · exact h
    obtain ⟨k0, hk0, hd, hb⟩ := hex
    have ht' : isNumeral s = false := by
      rw [hv]
      cases hc : (behind s).data.toList.all digit with
      | false => rfl
      | true =>
        rw [List.all_eq_true] at hc
        have := hc ((behind s)[k0]) (by rw [hidx k0 hk0]; exact List.getElem_mem _)
        simp [digit] at this
        omega
    rw [ht']
    exact numeral_bad w s _ ht (by omega) k0 hk0 hz hd hb

set_option maxRecDepth 100000 in
set_option maxHeartbeats 1000000 in
theorem number_no (w : World) (s : ByteArray) (hs : s.size < 4294967281) (hn : isNumeral s = false) :
    Calls Tryz.prog 173 #[.string s] w fun e w' => e = .returned (.tuple #[.int .i64 0, .bool false]) ∧ Below w.heap.size w w' := by
  go_enter Tryz.func173, Tryz.ntmps173
  go_wp2_with fail
  refine (numeral_any w s hs).mono ?_
  rintro e w' ⟨rfl, rfl⟩
  rw [hn]
  go_wp2
  go_ret2
  exact ⟨rfl, Below.refl _ _⟩

set_option maxRecDepth 100000 in
set_option maxHeartbeats 1000000 in
theorem number_yes (w : World) (s : ByteArray) (hs : s.size < 4294967281) (hn : isNumeral s = true) (v : Int) (hv : Hid (Lib.parseIntB 64 s.data.toList = .ok v)) :
    Calls Tryz.prog 173 #[.string s] w fun e w' => e = .returned (.tuple #[.int .i64 v, .bool true]) ∧ Below w.heap.size w w' := by
  go_enter Tryz.func173, Tryz.ntmps173
  go_wp2_with fail
  refine (numeral_any w s hs).mono ?_
  rintro e w' ⟨rfl, rfl⟩
  rw [hn]
  go_wp2_with fail
  refine (Tryz.strconv_ParseInt_10_at64_ok s (by omega) v hv.out _).mono ?_
  rintro e w2 ⟨rfl, h2⟩
  have HB : Hid (Below w'.heap.size w' w2) := by
    rcases h2 with rfl | ⟨u, rfl⟩
    · exact Below.refl _ _
    · exact Lib.bytesWorld_below _ _ _
  clear h2
  go_wp2
  go_ret2
  exact ⟨rfl, HB.out⟩

set_option maxRecDepth 100000 in
set_option maxHeartbeats 1000000 in
/-- The library finds an error. -/
theorem number_err (w : World) (s : ByteArray) (hs : s.size < 4294967281) (hn : isNumeral s = true)
    (hc : Hid (Calls Tryz.prog 209 #[.string s, .int .i64 10, .int .i64 64] w fun e w' => ∃ x te N, e = .returned (.tuple #[.int .i64 x, .iface te (ptr N)]) ∧ Below w.heap.size w w')) :
    Calls Tryz.prog 173 #[.string s] w fun e w' => e = .returned (.tuple #[.int .i64 0, .bool false]) ∧ Below w.heap.size w w' := by
  go_enter Tryz.func173, Tryz.ntmps173
  go_wp2_with fail
  refine (numeral_any w s hs).mono ?_
  rintro e w' ⟨rfl, rfl⟩
  rw [hn]
  go_wp2_with fail
  refine hc.out.mono ?_
  rintro e w2 ⟨x, te, N, rfl, h2⟩
  have HB := hid h2
  clear h2 hc
  go_wp2
  go_ret2
  exact ⟨rfl, HB.out⟩

theorem number_any {w : World} (hE : Env w) (s : ByteArray) (hs : s.size < 4294967281) :
    Calls Tryz.prog 173 #[.string s] w fun e w' => e = .returned (.tuple #[.int .i64 ((numVal s).getD 0), .bool (numVal s).isSome]) ∧ Below w.heap.size w w' := by
  cases hn : isNumeral s with
  | false =>
    have e : numVal s = none := by unfold numVal; simp [hn]
    rw [e]
    exact number_no w s hs hn
  | true =>
    cases hp : Lib.parseIntB 64 s.data.toList with
    | ok v =>
      have e : numVal s = some v := by unfold numVal; simp [hn, hp]
      rw [e]
      exact number_yes w s hs hn v hp
    | range =>
      have e : numVal s = none := by unfold numVal; simp [hn, hp]
      rw [e]
      obtain ⟨ev, h1, h2⟩ := hE.er
      refine number_err w s hs hn ((Tryz.strconv_ParseInt_10_at64_range s (by omega) hp ev w h1 h2).mono ?_)
      rintro e w' ⟨N, he, _, _, hb⟩
      exact ⟨_, _, N, he, hb⟩
    | _ =>
      have e : numVal s = none := by unfold numVal; simp [hn, hp]
      rw [e]
      obtain ⟨ev, h1, h2⟩ := hE.es
      refine number_err w s hs hn ((Tryz.strconv_ParseInt_10_at64_syntax s (by omega) hp ev w h1 h2).mono ?_)
      rintro e w' ⟨N, he, _, _, hb⟩
      exact ⟨_, _, N, he, hb⟩

/-- The register that a word names. -/
def regVal (s : ByteArray) : Option Nat := match s.data.toList with
  | [a, b] => if a = 114 ∧ 48 ≤ b.toNat ∧ b.toNat < 56 then some (b.toNat - 48) else none
  | _ => none

set_option maxRecDepth 100000 in
set_option maxHeartbeats 1000000 in
theorem registerNamed_second (w : World) (b : UInt8) (hb : b.toNat < 48 ∨ 56 ≤ b.toNat) :
    Calls Tryz.prog 172 #[.string ⟨#[114, b]⟩] w fun e w' => e = .returned (.tuple #[.int .i64 0, .bool false]) ∧ w' = w := by
  rcases hb with hb | hb
  · have hb' : (((⟨#[114, b]⟩ : ByteArray)[1]'(by show 1 < 2; omega)).toNat : Int) < 48 := by show (b.toNat : Int) < 48; omega
    go_enter Tryz.func172, Tryz.ntmps172
    go_wp2
    go_ret2
    exact ⟨rfl, rfl⟩
  · have hb' : ¬ (((⟨#[114, b]⟩ : ByteArray)[1]'(by show 1 < 2; omega)).toNat : Int) < 48 := by show ¬ (b.toNat : Int) < 48; omega
    have hb2 : ¬ (((⟨#[114, b]⟩ : ByteArray)[1]'(by show 1 < 2; omega)).toNat : Int) < 56 := by show ¬ (b.toNat : Int) < 56; omega
    go_enter Tryz.func172, Tryz.ntmps172
    go_wp2
    go_ret2
    exact ⟨rfl, rfl⟩

theorem registerNamed_any (w : World) (s : ByteArray) :
    Calls Tryz.prog 172 #[.string s] w fun e w' => e = .returned (.tuple #[.int .i64 ((regVal s).getD 0), .bool (regVal s).isSome]) ∧ w' = w := by
  obtain ⟨⟨l⟩⟩ := s
  by_cases h : l.length = 2
  · match l, h with
    | [a, b], _ =>
      by_cases ha : a = 114
      · subst ha
        by_cases hb : 48 ≤ b.toNat ∧ b.toNat < 56
        · have e : regVal ⟨⟨[114, b]⟩⟩ = some (b.toNat - 48) := by show (if _ then _ else _) = _; rw [if_pos ⟨rfl, hb⟩]
          rw [e]
          have hbb : b = UInt8.ofNat (48 + (b.toNat - 48)) := by rw [show 48 + (b.toNat - 48) = b.toNat by omega]; simp
          have k := registerNamed_ok w (b.toNat - 48) (by omega)
          rw [← hbb] at k
          exact k
        · have e : regVal ⟨⟨[114, b]⟩⟩ = none := by show (if _ then _ else _) = _; rw [if_neg (fun h => hb h.2)]
          rw [e]
          exact registerNamed_second w b (by omega)
      · have e : regVal ⟨⟨[a, b]⟩⟩ = none := by show (if _ then _ else _) = _; rw [if_neg (fun h => ha h.1)]
        rw [e]
        exact registerNamed_first w a b ha
  · have e : regVal ⟨⟨l⟩⟩ = none := by
      show (match l with | [a, b] => _ | _ => none) = none
      match l, h with
      | [], _ => rfl
      | [_], _ => rfl
      | _ :: _ :: _ :: _, _ => rfl
    rw [e]
    exact registerNamed_size w _ (by show l.toArray.size ≠ 2; simpa using h)
end Go.Proofs.YtfhkfnoajbbfdabGreatDoor
