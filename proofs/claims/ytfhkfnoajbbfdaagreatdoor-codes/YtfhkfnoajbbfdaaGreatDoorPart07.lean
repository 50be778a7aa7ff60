import Derived.Test.YtfhkfnoajbbfdaaGreatDoorPart05
import Derived.Test.YtfhkfnoajbbfdaaGreatDoorPart06
import Derived.Deep.RegionWith
import Derived.BigQuiet
import Derived.Deep.QuietTactic
import Derived.Test.YtfhkfnoajbbfdaaGreatDoorPart01
import Derived.Test.YtfhkfnoajbbfdaaGreatDoorProg
import Derived.Laws.Bits64b
import Derived.Laws.Shifts
namespace Go.Proofs.YtfhkfnoajbbfdaaGreatDoor
open Go.RowKit

section
variable {w : World} {bl bw : Nat} {n : Int} {u u2 u3 : ByteArray} {r : Nat} {ws : List ByteArray}

set_option maxRecDepth 100000 in
set_option maxHeartbeats 1000000 in
theorem readValue_reg (h : LineAt w bl n bw (u :: ws)) (hlen : ws.length < 1000000) (hu : IsReg u r) :
    Calls Tryz.prog 166 #[ptr bl] w fun e w' => e = .returned (.iface 300 (.int .i64 r)) ∧ LineAt w' bl n bw ws ∧ Chg (lineM bl) w w' := by
  have H := hid h
  have HU := hid hu
  clear h hu
  go_enter Tryz.func166, Tryz.ntmps166
  go_wp2_with fail
  refine (word_ok H.out hlen).mono ?_
  rintro e w1 ⟨rfl, h1, c1⟩
  have H1 := hid h1
  have C1 := hid c1
  clear h1 c1
  go_wp2_with fail
  refine (registerNamed_is HU.out w1).mono ?_
  rintro e w2 ⟨rfl, rfl⟩
  go_wp2
  go_ret
  exact ⟨rfl, H1.out, C1.out⟩

set_option maxRecDepth 100000 in
set_option maxHeartbeats 1000000 in
theorem readValue_num {v : Int} (h : LineAt w bl n bw (u :: ws)) (hlen : ws.length < 1000000) (hn : NoReg u) (hu : IsNum u v) :
    Calls Tryz.prog 166 #[ptr bl] w fun e w' => e = .returned (.iface 378 (.int .i64 v)) ∧ LineAt w' bl n bw ws ∧ Chg (lineM bl) w w' := by
  have H := hid h
  have HU := hid hu
  have HN := hid hn
  clear h hu hn
  go_enter Tryz.func166, Tryz.ntmps166
  go_wp2_with fail
  refine (word_ok H.out hlen).mono ?_
  rintro e w1 ⟨rfl, h1, c1⟩
  have H1 := hid h1
  have C1 := hid c1
  clear h1 c1
  go_wp2_with fail
  refine (registerNamed_no HN.out w1).mono ?_
  rintro e w2 ⟨rfl, rfl⟩
  go_wp2_with fail
  refine (number_is HU.out _).mono ?_
  rintro e w2 ⟨rfl, b2⟩
  have H2 := hid (H1.out.below b2)
  have C2 := hid (C1.out.trans (Chg.of_below b2))
  clear b2 H1 C1
  go_wp2
  go_ret
  exact ⟨rfl, H2.out, C2.out⟩

/-- A word that is a value. -/
def IsVal (u : ByteArray) (x : Vl) : Prop := (x.reg = true ∧ ∃ r : Nat, IsReg u r ∧ x.v = r) ∨ (x.reg = false ∧ NoReg u ∧ IsNum u x.v)

theorem readValue_ok {x : Vl} (h : LineAt w bl n bw (u :: ws)) (hlen : ws.length < 1000000) (hu : IsVal u x) :
    Calls Tryz.prog 166 #[ptr bl] w fun e w' => e = .returned (encVl x) ∧ LineAt w' bl n bw ws ∧ Chg (lineM bl) w w' := by
  obtain ⟨xr, xv⟩ := x
  rcases hu with ⟨rfl, r, hr, rfl⟩ | ⟨rfl, hn, hv⟩
  · exact readValue_reg h hlen hr
  · exact readValue_num h hlen hn hv

set_option maxRecDepth 100000 in
set_option maxHeartbeats 1000000 in
theorem within_ok {v lo hi : Int} (h : LineAt w bl n bw (u :: ws)) (hlen : ws.length < 1000000) (hu : IsNum u v) (h1 : lo ≤ v) (h2 : v ≤ hi) :
    Calls Tryz.prog 169 #[ptr bl, .int .i64 lo, .int .i64 hi] w fun e w' => e = .returned (.int .i64 v) ∧ LineAt w' bl n bw ws ∧ Chg (lineM bl) w w' := by
  have H := hid h
  have HU := hid hu
  have q1 : ¬ v < lo := by omega
  have q2 : ¬ hi < v := by omega
  clear h hu
  go_enter Tryz.func169, Tryz.ntmps169
  go_wp2_with fail
  refine (lineNumber_ok H.out hlen HU.out).mono ?_
  rintro e w1 ⟨rfl, h1, c1⟩
  have H1 := hid h1
  have C1 := hid c1
  clear h1 c1
  go_wp2
  go_ret
  exact ⟨rfl, H1.out, C1.out⟩

set_option maxRecDepth 100000 in
set_option maxHeartbeats 1000000 in
theorem readPlace_ok {v : Int} (h : LineAt w bl n bw (u :: ws)) (hlen : ws.length < 1000000) (hu : IsNum u v) (h1 : 0 ≤ v) (h2 : v ≤ 4000) :
    Calls Tryz.prog 168 #[ptr bl] w fun e w' => e = .returned (.int .i64 v) ∧ LineAt w' bl n bw ws ∧ Chg (lineM bl) w w' := by
  have H := hid h
  have HU := hid hu
  clear h hu
  go_enter Tryz.func168, Tryz.ntmps168
  go_wp2_with fail
  refine (within_ok H.out hlen HU.out h1 h2).mono ?_
  rintro e w1 ⟨rfl, h1, c1⟩
  have H1 := hid h1
  have C1 := hid c1
  clear h1 c1
  go_wp2
  go_ret
  exact ⟨rfl, H1.out, C1.out⟩

set_option maxRecDepth 100000 in
set_option maxHeartbeats 1000000 in
theorem readCell_ok {x : Vl} {v : Int} (h : LineAt w bl n bw (u :: u2 :: ws)) (hlen : ws.length < 900000) (hx : IsVal u x) (hu : IsNum u2 v) :
    Calls Tryz.prog 167 #[ptr bl] w fun e w' => e = .returned (.agg #[encVl x, .int .i64 v]) ∧ LineAt w' bl n bw ws ∧ Chg (lineM bl) w w' := by
  have H := hid h
  have HX := hid hx
  have HU := hid hu
  obtain ⟨T, p, hy⟩ : ∃ T p, encVl x = .iface T p := by unfold encVl; split <;> exact ⟨_, _, rfl⟩
  rw [hy]
  clear h hu hx
  go_enter Tryz.func167, Tryz.ntmps167
  go_wp2_with fail
  have hb0 : Below w.heap.size w (w.alloc (.cells #[.nilIface, .int .i64 0] 310)) := (Below.refl _ w).alloc (Nat.le_refl _) _
  refine (readValue_ok (H.out.below hb0) (by simp; omega) HX.out).mono ?_
  rintro e w1 ⟨rfl, h1, c1⟩
  rw [hy]
  clear hy
  have hbl : ¬ lineM bl w.heap.size 0 ∧ ¬ lineM bl w.heap.size 1 := ⟨fun e => by have := H.out.lt; omega, fun e => by have := H.out.lt; omega⟩
  have hsz : w.heap.size < (w.alloc (.cells #[.nilIface, .int .i64 0] 310)).heap.size := by show w.heap.size < (w.heap.push _).size; rw [Array.size_push]; omega
  have k0 := (c1.cell w.heap.size 0 hsz hbl.1).trans (World.cell?_alloc_new w #[.nilIface, .int .i64 0] 310 0)
  have k1 := (c1.cell w.heap.size 1 hsz hbl.2).trans (World.cell?_alloc_new w #[.nilIface, .int .i64 0] 310 1)
  have f0 := c1.frozen w.heap.size 0 hsz
  have f1 := c1.frozen w.heap.size 1 hsz
  have H1 := hid h1
  have C1 := hid ((Chg.of_below hb0).trans c1)
  have Z1 := hid (Nat.lt_of_lt_of_le hsz c1.size)
  clear h1 c1 hb0
  go_wp2_with fail
  refine (lineNumber_ok H1.out (by omega) HU.out).mono ?_
  rintro e w2 ⟨rfl, h2, c2⟩
  have k0' := (c2.cell w.heap.size 0 Z1.out hbl.1).trans k0
  have k1' := (c2.cell w.heap.size 1 Z1.out hbl.2).trans k1
  have f0' := (c2.frozen w.heap.size 0 Z1.out).trans f0
  have f1' := (c2.frozen w.heap.size 1 Z1.out).trans f1
  simp at k0' k1' f0' f1'
  have H2 := hid h2
  have C2 := hid (C1.out.trans c2)
  clear h2 c2 H1 C1 k0 k1 f0 f1
  go_wp2
  have d1 : Chg (fun k _ => k = w.heap.size) w2 ((w2.setCell ⟨w.heap.size, 0, none⟩ (.iface T p)).setCell ⟨w.heap.size, 1, none⟩ (.int .i64 v)) :=
    ((Chg.refl (fun k _ => k = w.heap.size) w2).setCell (b := w.heap.size) (o := 0) (fun _ => rfl) _).setCell (b := w.heap.size) (o := 1) (fun _ => rfl) _
  have d2 : Chg (lineM bl) w ((w2.setCell ⟨w.heap.size, 0, none⟩ (.iface T p)).setCell ⟨w.heap.size, 1, none⟩ (.int .i64 v)) :=
    (C2.out.setCell (fun h => absurd h (Nat.lt_irrefl _)) _).setCell (fun h => absurd h (Nat.lt_irrefl _)) _
  have g1 := H2.out.keep d1 (fun _ e => by have := H.out.lt; omega) (fun _ e => by have := H.out.ltw; omega)
  have e0 : ((w2.setCell ⟨w.heap.size, 0, none⟩ (.iface T p)).setCell ⟨w.heap.size, 1, none⟩ (.int .i64 v)).cell? ⟨w.heap.size, 0, none⟩ = some (.iface T p) :=
    (cell_set_ne (.inr (by decide))).trans (cell_set_eq k0' rfl)
  have e1 : ((w2.setCell ⟨w.heap.size, 0, none⟩ (.iface T p)).setCell ⟨w.heap.size, 1, none⟩ (.int .i64 v)).cell? ⟨w.heap.size, 1, none⟩ = some (.int .i64 v) :=
    cell_set_eq ((cell_set_ne (.inr (by decide))).trans k1') rfl
  generalize (w2.setCell ⟨w.heap.size, 0, none⟩ (.iface T p)).setCell ⟨w.heap.size, 1, none⟩ (.int .i64 v) = w3 at *
  refine bodyPost_ret (v := .agg #[.iface T p, .int .i64 v]) (by simp [results, Tryz.results167, go_sem, e0, e1]) rfl ⟨rfl, g1, d2⟩
end
end Go.Proofs.YtfhkfnoajbbfdaaGreatDoor

namespace Go.Proofs.YtfhkfnoajbbfdaaGreatDoor
open Go.RowKit

attribute [local go_sem] mNumOf mRegOf mEnd mDrain mGive mLeap mSetRegister

section
variable {w : World} {b bm : Nat} {iv ov : Value} {T : Th} {m : Nat → Int}

theorem Eff.base {W w' : World} {T' : Th} {m' : Nat → Int} (hB : Below w.heap.size w W) (h : Eff W b bm iv ov T' m' w') : Eff w b bm iv ov T' m' w' :=
  let ⟨_, h1, h2, h3, h4⟩ := h; Eff.then (Chg.of_below hB) (.inl rfl) h1 h2 h3 h4

theorem below_box (w : World) (o : Obj) : Below w.heap.size w (w.alloc o) := (Below.refl _ w).alloc (Nat.le_refl _) o
theorem below_boxd (w : World) (o : Obj) : Below w.heap.size w (w.alloc o).drew := ((Below.refl _ w).alloc (Nat.le_refl _) o).drew

theorem ThAt.effState (h : ThAt w b bm iv ov T) (hm : MemAt w bm m) (s : Int) : Eff w b bm iv ov { T with st := s } m (w.setCell ⟨b, 22, none⟩ (.int .i64 s)) :=
  ⟨ov, h.setState s, hm.keep ((Chg.refl (fun k i => k = b ∧ i = 22) _).setCell (fun _ => ⟨rfl, rfl⟩) _) (fun _ _ e => h.ne hm e.1.symm), (Chg.refl _ _).setCell (fun _ => foot_own _) _, .inl rfl⟩
theorem ThAt.effPlace (h : ThAt w b bm iv ov T) (hm : MemAt w bm m) (s : Int) : Eff w b bm iv ov { T with pl := s } m (w.setCell ⟨b, 10, none⟩ (.int .i64 s)) :=
  ⟨ov, h.setPlace s, hm.keep ((Chg.refl (fun k i => k = b ∧ i = 10) _).setCell (fun _ => ⟨rfl, rfl⟩) _) (fun _ _ e => h.ne hm e.1.symm), (Chg.refl _ _).setCell (fun _ => foot_own _) _, .inl rfl⟩
theorem ThAt.effReg (h : ThAt w b bm iv ov T) (hm : MemAt w bm m) {d : Nat} (hd : d < 8) (s : Int) : Eff w b bm iv ov (T.setR d s) m (w.setCell ⟨b, 2 + d, none⟩ (.int .i64 s)) :=
  ⟨ov, h.setReg hd s, hm.keep ((Chg.refl (fun k i => k = b ∧ i = 2 + d) _).setCell (fun _ => ⟨rfl, rfl⟩) _) (fun _ _ e => h.ne hm e.1.symm), (Chg.refl _ _).setCell (fun _ => foot_own _) _, .inl rfl⟩

set_option maxRecDepth 100000 in
set_option maxHeartbeats 1000000 in
theorem do_fence (h : ThAt w b bm iv ov T) (hm : MemAt w bm m) :
    Calls Tryz.prog 328 #[.agg #[], ifc b] w fun e w' => e = .returned (.tuple #[]) ∧ Eff w b bm iv ov { T with q := [] } (drainM m T.q) w' := by
  have H := hid h
  have HM := hid hm
  clear h hm
  go_enter Tryz.func328, Tryz.ntmps328
  go_wp2_with (go_at_call 295; refine (th_drain (H.out.below (below_box _ _)) (HM.out.below (below_box _ _))).mono ?_; rintro e w1 ⟨rfl, h1⟩; have H1 := hid h1; clear h1)
  go_end0
  exact ⟨rfl, H1.out.base (below_box _ _)⟩

set_option maxRecDepth 100000 in
set_option maxHeartbeats 1000000 in
theorem do_end (h : ThAt w b bm iv ov T) (hm : MemAt w bm m) (s : Int) :
    Calls Tryz.prog 332 #[.agg #[.int .i64 s], ifc b] w fun e w' => e = .returned (.tuple #[]) ∧ Eff w b bm iv ov { T with st := s } m w' := by
  have H := hid h
  have HM := hid hm
  clear h hm
  go_enter Tryz.func332, Tryz.ntmps332
  go_wp2_with (go_at_call 346; refine (end_any b s _ _ (H.out.below (below_box _ _)).state ((H.out.below (below_box _ _)).free 22 (by omega))).mono ?_; rintro e w1 ⟨rfl, rfl⟩)
  go_end0
  exact ⟨rfl, ((H.out.below (below_box _ _)).effState (HM.out.below (below_box _ _)) s).base (below_box _ _)⟩

set_option maxRecDepth 100000 in
set_option maxHeartbeats 1000000 in
theorem do_leap (h : ThAt w b bm iv ov T) (hm : MemAt w bm m) (s : Int) :
    Calls Tryz.prog 330 #[.agg #[.int .i64 s], ifc b] w fun e w' => e = .returned (.tuple #[]) ∧ Eff w b bm iv ov { T with pl := s } m w' := by
  have H := hid h
  have HM := hid hm
  clear h hm
  go_enter Tryz.func330, Tryz.ntmps330
  go_wp2_with (go_at_call 348; refine (leap_any b s _ _ (H.out.below (below_box _ _)).place ((H.out.below (below_box _ _)).free 10 (by omega))).mono ?_; rintro e w1 ⟨rfl, rfl⟩)
  go_end0
  exact ⟨rfl, ((H.out.below (below_box _ _)).effPlace (HM.out.below (below_box _ _)) s).base (below_box _ _)⟩
end
end Go.Proofs.YtfhkfnoajbbfdaaGreatDoor

namespace Go.Proofs.YtfhkfnoajbbfdaaGreatDoor
open Go.RowKit

section
variable {w : World} {b bm : Nat} {iv ov : Value} {T : Th} {m : Nat → Int}

set_option maxRecDepth 100000 in
set_option maxHeartbeats 1000000 in
theorem th_step_still (h : ThAt w b bm iv ov T) (hst : T.st ≠ 0) :
    Calls Tryz.prog 80 #[ptr b] w fun e w' => e = .returned (.tuple #[]) ∧ w' = w := by
  have hs := h.state
  have hne : (T.st != 0) = true := by simp [hst]
  clear h
  go_enter Tryz.func80, Tryz.ntmps80
  go_wp2
  refine bodyPost_ret (results_none rfl _ _ _) rfl ?_
  exact ⟨rfl, rfl⟩

set_option maxRecDepth 100000 in
set_option maxHeartbeats 1000000 in
theorem th_step_end (h : ThAt w b bm iv ov T) (hm : MemAt w bm m) (hst : T.st = 0) (ba : Option Addr) (len cap : Nat) (hiv : iv = .slice ba len cap) (hpl : (len : Int) ≤ T.pl) :
    Calls Tryz.prog 80 #[ptr b] w fun e w' => e = .returned (.tuple #[]) ∧ Eff w b bm iv ov { T with st := 10 } m w' := by
  have hs : w.cell? ⟨b, 22, none⟩ = some (.int .i64 0) := hst ▸ h.state
  have hi : w.cell? ⟨b, 1, none⟩ = some (.slice ba len cap) := hiv ▸ h.ins
  have hp := h.place
  have hz := h.free 22 (by omega)
  have H := hid h
  have HM := hid hm
  clear h hm hiv hst
  go_enter Tryz.func80, Tryz.ntmps80
  go_wp2
  go_region
  all_goals go_wp2
  all_goals refine bodyPost_ret (results_none rfl _ _ _) rfl ?_
  all_goals exact ⟨rfl, ((H.out.below ((Below.refl _ w).drew)).effState (HM.out.below ((Below.refl _ w).drew)) 10).base ((Below.refl _ w).drew)⟩

set_option maxRecDepth 100000 in
set_option maxHeartbeats 1000000 in
theorem th_step_do (h : ThAt w b bm iv ov T) (hm : MemAt w bm m) (hst : T.st = 0) (bi len cap : Nat) (hiv : iv = .slice (some ⟨bi, 0, none⟩) len cap) (p : Nat) (hpl : T.pl = p) (hlt : p < len) (t : TypeId) (v : Value) (hc : w.cell? ⟨bi, p, none⟩ = some (.iface t v)) (hbig : (p : Int) ≤ 4000)
    (F : Nat) (T' : Th) (m' : Nat → Int) (hme : ∀ W, (method 584 t v "Do").run Tryz.prog W = .ok (F, v) W) (hen : ∀ args W, (callFunc F args).run Tryz.prog W = .ok (.enter F args) W)
    (hdo : ∀ W, ThAt W b bm iv ov { T with pl := (p : Int) + 1 } → MemAt W bm m → Calls Tryz.prog F #[v, ifc b] W fun e w' => e = .returned (.tuple #[]) ∧ Eff W b bm iv ov T' m' w') :
    Calls Tryz.prog 80 #[ptr b] w fun e w' => e = .returned (.tuple #[]) ∧ Eff w b bm iv ov T' m' w' := by
  have hs : w.cell? ⟨b, 22, none⟩ = some (.int .i64 0) := hst ▸ h.state
  have hi : w.cell? ⟨b, 1, none⟩ = some (.slice (some ⟨bi, 0, none⟩) len cap) := hiv ▸ h.ins
  have hp : w.cell? ⟨b, 10, none⟩ = some (.int .i64 (p : Int)) := hpl ▸ h.place
  have hz := h.free 10 (by omega)
  have hlt' : (p : Int) < (len : Int) := by omega
  have H := hid h
  have HM := hid hm
  have HD := hid hdo
  clear h hm hiv hst hdo hpl
  go_enter Tryz.func80, Tryz.ntmps80
  go_wp2
  go_region
  all_goals go_wp2
  all_goals go_region
  all_goals go_wp2_with fail
  all_goals
    have hP := H.out.effPlace HM.out ((p : Int) + 1)
    obtain ⟨ov1, ht1, hm1, hc1, ho1⟩ := hP
    have e1 : ov1 = ov := by have := ht1.outc; rw [cell_set_ne (by omega), H.out.outc] at this; exact (Option.some.inj this).symm
    subst e1
    have hdd : Below (w.setCell ⟨b, 10, none⟩ (.int .i64 ((p : Int) + 1))).heap.size (w.setCell ⟨b, 10, none⟩ (.int .i64 ((p : Int) + 1))) (w.setCell ⟨b, 10, none⟩ (.int .i64 ((p : Int) + 1))).drew.drew := ((Below.refl _ _).drew).drew
    refine (HD.out _ (ht1.below hdd) (hm1.below hdd)).mono ?_
    rintro e w2 ⟨rfl, h2⟩
    have H2 := hid h2
    have HC1 := hid hc1
    clear h2 hdd ht1 hm1 hc1 ho1
    go_wp2
    go_end0
    obtain ⟨ov2, a1, a2, a3, a4⟩ := H2.out
    exact ⟨rfl, Eff.then (HC1.out.drew.drew) (.inl rfl) a1 a2 a3 a4⟩
end
end Go.Proofs.YtfhkfnoajbbfdaaGreatDoor

/- What the operations make of two values. -/
namespace Go.Proofs.YtfhkfnoajbbfdaaGreatDoor
open Go.RowKit

/-- How far a shift goes. -/
def places (b : Int) : Int := bits .and .u64 (IntKind.u64.wrap b) 63

theorem places_nonneg (b : Int) : 0 ≤ places b := by
  unfold places
  rw [IntKind.wrap_u64]
  have h := bits_and_u64_nat (b % 18446744073709551616).toNat 63 (by omega) (by decide)
  rw [show (((b % 18446744073709551616).toNat : Nat) : Int) = b % 18446744073709551616 by omega] at h
  rw [show (63 : Int) = ((63 : Nat) : Int) from rfl, h]
  omega

/-- What an operation makes of two values. -/
def opV (op : Nat) (a b : Int) : Option Int :=
  if op = 0 then some (wrap64 (a + b)) else if op = 1 then some (wrap64 (a - b)) else if op = 2 then some (wrap64 (a * b))
  else if op = 3 then (if b = 0 then none else some (wrap64 (a.tdiv b))) else if op = 4 then (if b = 0 then none else some (a.tmod b))
  else if op = 5 then some (bits .and .i64 a b) else if op = 6 then some (bits .or .i64 a b) else if op = 7 then some (bits .xor .i64 a b)
  else if op = 8 then some (wrap64 (a * 2 ^ min (places b).toNat 64)) else if op = 9 then some (a / 2 ^ min (places b).toNat 64)
  else if op = 10 then some (if a < b then 1 else 0) else some (if a = b then 1 else 0)

section
variable (a b : Int) (w : World)
set_option maxRecDepth 100000 in
set_option maxHeartbeats 1000000 in
theorem op_add : Calls Tryz.prog 317 #[.int .i64 0, .int .i64 a, .int .i64 b] w fun e w' => e = .returned (.tuple #[.int .i64 (wrap64 (a + b)), .bool true]) ∧ w' = w := by
  go_enter Tryz.func317, Tryz.ntmps317
  go_wp2
  go_ret2
  exact ⟨rfl, rfl⟩
set_option maxRecDepth 100000 in
set_option maxHeartbeats 1000000 in
theorem op_sub : Calls Tryz.prog 317 #[.int .i64 1, .int .i64 a, .int .i64 b] w fun e w' => e = .returned (.tuple #[.int .i64 (wrap64 (a - b)), .bool true]) ∧ w' = w := by
  go_enter Tryz.func317, Tryz.ntmps317
  go_wp2
  go_ret2
  exact ⟨rfl, rfl⟩
set_option maxRecDepth 100000 in
set_option maxHeartbeats 1000000 in
theorem op_mul : Calls Tryz.prog 317 #[.int .i64 2, .int .i64 a, .int .i64 b] w fun e w' => e = .returned (.tuple #[.int .i64 (wrap64 (a * b)), .bool true]) ∧ w' = w := by
  go_enter Tryz.func317, Tryz.ntmps317
  go_wp2
  go_ret2
  exact ⟨rfl, rfl⟩
set_option maxRecDepth 100000 in
set_option maxHeartbeats 1000000 in
theorem op_div0 (n : Int) (hn : n = 3 ∨ n = 4) : Calls Tryz.prog 317 #[.int .i64 n, .int .i64 a, .int .i64 0] w fun e w' => e = .returned (.tuple #[.int .i64 0, .bool false]) ∧ w' = w := by
  rcases hn with rfl | rfl
  all_goals
    go_enter Tryz.func317, Tryz.ntmps317
    go_wp2
    go_ret2
    exact ⟨rfl, rfl⟩
set_option maxRecDepth 100000 in
set_option maxHeartbeats 1000000 in
theorem op_div (hb : ¬ b = 0) : Calls Tryz.prog 317 #[.int .i64 3, .int .i64 a, .int .i64 b] w fun e w' => e = .returned (.tuple #[.int .i64 (wrap64 (a.tdiv b)), .bool true]) ∧ w' = w := by
  have hb' : (b == 0) = false := by simpa using hb
  go_enter Tryz.func317, Tryz.ntmps317
  go_wp2
  go_ret2
  exact ⟨rfl, rfl⟩
set_option maxRecDepth 100000 in
set_option maxHeartbeats 1000000 in
theorem op_mod (hb : ¬ b = 0) : Calls Tryz.prog 317 #[.int .i64 4, .int .i64 a, .int .i64 b] w fun e w' => e = .returned (.tuple #[.int .i64 (a.tmod b), .bool true]) ∧ w' = w := by
  have hb' : (b == 0) = false := by simpa using hb
  go_enter Tryz.func317, Tryz.ntmps317
  go_wp2
  go_ret2
  exact ⟨rfl, rfl⟩
set_option maxRecDepth 100000 in
set_option maxHeartbeats 1000000 in
theorem op_and : Calls Tryz.prog 317 #[.int .i64 5, .int .i64 a, .int .i64 b] w fun e w' => e = .returned (.tuple #[.int .i64 (bits .and .i64 a b), .bool true]) ∧ w' = w := by
  go_enter Tryz.func317, Tryz.ntmps317
  go_wp2
  go_ret2
  exact ⟨rfl, rfl⟩
set_option maxRecDepth 100000 in
set_option maxHeartbeats 1000000 in
theorem op_or : Calls Tryz.prog 317 #[.int .i64 6, .int .i64 a, .int .i64 b] w fun e w' => e = .returned (.tuple #[.int .i64 (bits .or .i64 a b), .bool true]) ∧ w' = w := by
  go_enter Tryz.func317, Tryz.ntmps317
  go_wp2
  go_ret2
  exact ⟨rfl, rfl⟩
set_option maxRecDepth 100000 in
set_option maxHeartbeats 1000000 in
theorem op_xor : Calls Tryz.prog 317 #[.int .i64 7, .int .i64 a, .int .i64 b] w fun e w' => e = .returned (.tuple #[.int .i64 (bits .xor .i64 a b), .bool true]) ∧ w' = w := by
  go_enter Tryz.func317, Tryz.ntmps317
  go_wp2
  go_ret2
  exact ⟨rfl, rfl⟩
set_option maxRecDepth 100000 in
set_option maxHeartbeats 1000000 in
theorem op_shl : Calls Tryz.prog 317 #[.int .i64 8, .int .i64 a, .int .i64 b] w fun e w' => e = .returned (.tuple #[.int .i64 (wrap64 (a * 2 ^ min (places b).toNat 64)), .bool true]) ∧ w' = w := by
  have hc := places_nonneg b
  unfold places at hc ⊢
  go_enter Tryz.func317, Tryz.ntmps317
  go_wp2
  go_ret2
  exact ⟨rfl, rfl⟩
set_option maxRecDepth 100000 in
set_option maxHeartbeats 1000000 in
theorem op_shr : Calls Tryz.prog 317 #[.int .i64 9, .int .i64 a, .int .i64 b] w fun e w' => e = .returned (.tuple #[.int .i64 (a / 2 ^ min (places b).toNat 64), .bool true]) ∧ w' = w := by
  have hc := places_nonneg b
  unfold places at hc ⊢
  go_enter Tryz.func317, Tryz.ntmps317
  go_wp2
  go_ret2
  exact ⟨rfl, rfl⟩
set_option maxRecDepth 100000 in
set_option maxHeartbeats 1000000 in
theorem op_lt : Calls Tryz.prog 317 #[.int .i64 10, .int .i64 a, .int .i64 b] w fun e w' => e = .returned (.tuple #[.int .i64 (if a < b then 1 else 0), .bool true]) ∧ w' = w := by
  by_cases h : a < b
  · rw [if_pos h]
    go_enter Tryz.func317, Tryz.ntmps317
    go_wp2
    go_ret2
    exact ⟨rfl, rfl⟩
  · rw [if_neg h]
    go_enter Tryz.func317, Tryz.ntmps317
    go_wp2
    go_ret2
    exact ⟨rfl, rfl⟩
set_option maxRecDepth 100000 in
set_option maxHeartbeats 1000000 in
theorem op_eq : Calls Tryz.prog 317 #[.int .i64 11, .int .i64 a, .int .i64 b] w fun e w' => e = .returned (.tuple #[.int .i64 (if a = b then 1 else 0), .bool true]) ∧ w' = w := by
  by_cases h : a = b
  · rw [if_pos h]
    have h' : (a == b) = true := by simpa using h
    go_enter Tryz.func317, Tryz.ntmps317
    go_wp2
    go_ret2
    exact ⟨rfl, rfl⟩
  · rw [if_neg h]
    have h' : (a == b) = false := by simpa using h
    go_enter Tryz.func317, Tryz.ntmps317
    go_wp2
    go_ret2
    exact ⟨rfl, rfl⟩

theorem opOf_any (op : Nat) (h : op < 12) : Calls Tryz.prog 317 #[.int .i64 op, .int .i64 a, .int .i64 b] w fun e w' => e = .returned (.tuple #[.int .i64 ((opV op a b).getD 0), .bool (opV op a b).isSome]) ∧ w' = w := by
  have hc : op = 0 ∨ op = 1 ∨ op = 2 ∨ op = 3 ∨ op = 4 ∨ op = 5 ∨ op = 6 ∨ op = 7 ∨ op = 8 ∨ op = 9 ∨ op = 10 ∨ op = 11 := by omega
  rcases hc with rfl | rfl | rfl | rfl | rfl | rfl | rfl | rfl | rfl | rfl | rfl | rfl
  · exact op_add a b w
  · exact op_sub a b w
  · exact op_mul a b w
  · by_cases hb : b = 0
    · subst hb; exact op_div0 a w 3 (.inl rfl)
    · rw [show opV 3 a b = some (wrap64 (a.tdiv b)) from by simp [opV, hb]]
      exact op_div a b w hb
  · by_cases hb : b = 0
    · subst hb; exact op_div0 a w 4 (.inr rfl)
    · rw [show opV 4 a b = some (a.tmod b) from by simp [opV, hb]]
      exact op_mod a b w hb
  · exact op_and a b w
  · exact op_or a b w
  · exact op_xor a b w
  · exact op_shl a b w
  · exact op_shr a b w
  · exact op_lt a b w
  · exact op_eq a b w
end
end Go.Proofs.YtfhkfnoajbbfdaaGreatDoor

/- A machine: its memory, its threads; what a step and a flush do to it, plain and in memory. -/
namespace Go.Proofs.YtfhkfnoajbbfdaaGreatDoor
open Go.RowKit

/-- What an instruction does (its place is the next one already). -/
def doI (i : Ic) (T : Th) (m : Nat → Int) : Th × (Nat → Int) :=
  if i.k = 2 then (if 0 ≤ atOf i.a i.n T ∧ atOf i.a i.n T < 256 then (T.setR i.d (seenIn T.q.reverse (atOf i.a i.n T) (m (atOf i.a i.n T).toNat)), m) else ({ T with st := 9 }, m))
  else if i.k = 3 then (if 0 ≤ atOf i.a i.n T ∧ atOf i.a i.n T < 256 then ({ T with q := (storeQ T.q m (atOf i.a i.n T) (i.b.of T)).1 }, (storeQ T.q m (atOf i.a i.n T) (i.b.of T)).2) else ({ T with st := 9 }, m))
  else if i.k = 4 then (if 0 ≤ atOf i.a i.n T ∧ atOf i.a i.n T < 256 then (if drainM m T.q (atOf i.a i.n T).toNat = i.b.of T then ({ T with q := [] }.setR i.d 1, putM (drainM m T.q) (atOf i.a i.n T).toNat (i.c.of T)) else ({ T with q := [] }.setR i.d 0, drainM m T.q)) else ({ T with q := [], st := 9 }, drainM m T.q))
  else if i.k = 5 then (if 0 ≤ atOf i.a i.n T ∧ atOf i.a i.n T < 256 then ({ T with q := [] }.setR i.d (drainM m T.q (atOf i.a i.n T).toNat), putM (drainM m T.q) (atOf i.a i.n T).toNat (wrap64 (drainM m T.q (atOf i.a i.n T).toNat + i.b.of T))) else ({ T with q := [], st := 9 }, drainM m T.q))
  else if i.k = 6 then ({ T with q := [] }, drainM m T.q)
  else if i.k = 7 then ({ T with out := T.out ++ [i.a.of T] }, m)
  else if i.k = 8 then ({ T with pl := i.n }, m)
  else if i.k = 0 then (T.setR i.d (i.a.of T), m)
  else if i.k = 1 then (match opV i.op (i.a.of T) (i.b.of T) with | some v => (T.setR i.d v, m) | none => ({ T with st := 1 }, m))
  else if i.k = 9 then (if i.a.of T = 0 then ({ T with pl := i.n }, m) else (T, m))
  else ({ T with st := i.n }, m)

/-- An instruction as Go text holds it, behind its interface: the type, the value. -/
def insT (i : Ic) : TypeId :=
  if i.k = 2 then 313 else if i.k = 3 then 315 else if i.k = 4 then 317 else if i.k = 5 then 319 else if i.k = 6 then 321 else if i.k = 7 then 323 else if i.k = 8 then 326 else if i.k = 0 then 308 else if i.k = 1 then 306 else if i.k = 9 then 328 else 331
def insV (i : Ic) : Value :=
  if i.k = 2 then .agg #[.int .i64 i.d, encVl i.a, .int .i64 i.n] else if i.k = 3 then .agg #[encVl i.a, .int .i64 i.n, encVl i.b] else if i.k = 4 then .agg #[.int .i64 i.d, encVl i.a, .int .i64 i.n, encVl i.b, encVl i.c]
  else if i.k = 5 then .agg #[.int .i64 i.d, encVl i.a, .int .i64 i.n, encVl i.b] else if i.k = 6 then .agg #[] else if i.k = 7 then .agg #[encVl i.a] else if i.k = 8 then .agg #[.int .i64 i.n] else if i.k = 0 then .agg #[.int .i64 i.d, encVl i.a] else if i.k = 1 then .agg #[.int .i64 i.op, .int .i64 i.d, encVl i.a, encVl i.b] else if i.k = 9 then .agg #[encVl i.a, .int .i64 i.n] else .agg #[.int .i64 i.n]
def encIns (i : Ic) : Value := .iface (insT i) (insV i)
/-- The instruction's own function. -/
def insF (i : Ic) : Nat :=
  if i.k = 2 then 324 else if i.k = 3 then 325 else if i.k = 4 then 326 else if i.k = 5 then 327 else if i.k = 6 then 328 else if i.k = 7 then 329 else if i.k = 8 then 330 else if i.k = 0 then 322 else if i.k = 1 then 316 else if i.k = 9 then 331 else 332

/-- A step of a thread whose code is c. -/
def stepT (T : Th) (m : Nat → Int) (c : List Ic) : Th × (Nat → Int) :=
  if T.st = 0 then match c[T.pl.toNat]? with
    | some i => doI i { T with pl := T.pl + 1 } m
    | none => ({ T with st := 10 }, m)
  else (T, m)
def flushT (T : Th) (m : Nat → Int) : Th × (Nat → Int) := match T.q with
  | [] => (T, m)
  | p :: q => ({ T with q := q }, putM m p.1.toNat p.2)

structure Tr where
  b : Nat
  iv : Value
  ov : Value
  T : Th
  code : List Ic

def CodeAt (D : Nat → Prop) (w : World) (iv : Value) (code : List Ic) : Prop :=
  (iv = .slice none 0 0 ∧ code = []) ∨ ∃ bi cap n, iv = .slice (some ⟨bi, 0, none⟩) code.length cap ∧ (w.shape? bi = some (202, n) ∧ D bi) ∧ ∀ i (h : i < code.length), w.cell? ⟨bi, i, none⟩ = some (encIns code[i])

structure MAt (D : Nat → Prop) (w : World) (bm : Nat) (m : Nat → Int) (ts : List Tr) : Prop where
  mem : MemAt w bm m
  thr : ∃ bt cap n, w.cell? ⟨bm, 256, none⟩ = some (.slice (some ⟨bt, 0, none⟩) ts.length cap) ∧ (w.shape? bt = some (141, n) ∧ D bt) ∧ ∀ i (h : i < ts.length), w.cell? ⟨bt, i, none⟩ = some (ptr ts[i].b)
  th : ∀ i (h : i < ts.length), ThAt w ts[i].b bm ts[i].iv ts[i].ov ts[i].T
  code : ∀ i (h : i < ts.length), CodeAt D w ts[i].iv ts[i].code
  dis : ∀ i j (hi : i < ts.length) (hj : j < ts.length), i ≠ j → ts[i].b ≠ ts[j].b ∧ ∀ k, ts[i].ov.ownBlock = some k → ts[j].ov.ownBlock ≠ some k
  dm : D bm
  db : ∀ i (h : i < ts.length), D ts[i].b
  dr : ∀ i (h : i < ts.length) k, ts[i].ov.ownBlock = some k → D k

theorem MAt.frame {D : Nat → Prop} {w w' : World} {bm : Nat} {m : Nat → Int} {ts : List Tr} {i : Nat} (h : MAt D w bm m ts) (hi : i < ts.length) (hD : ∀ k, w.heap.size ≤ k → D k) {T' : Th} {m' : Nat → Int}
    (he : Eff w ts[i].b bm ts[i].iv ts[i].ov T' m' w') : ∃ ov', MAt D w' bm m' (ts.set i { ts[i] with ov := ov', T := T' }) ∧ Chg (fun k _ => D k) w w' := by
  obtain ⟨ov', ht, hm, hc, ho⟩ := he
  have hti := h.th i hi
  -- what the step may touch is neither of another kind of block
  have hkind : ∀ k t n, w.shape? k = some (t, n) → t ≠ 188 → t ≠ 139 → t ≠ 2 → ∀ j, ¬ foot ts[i].b bm ts[i].ov k j := by
    rintro k t n hk h1 h2 h3 j (e | e | e)
    · rw [e, hti.sh] at hk; simp at hk; exact h1 hk.1.symm
    · rw [e.1, h.mem.sh] at hk; simp at hk; exact h2 hk.1.symm
    · exact hti.row_ne hk h3 e
  have hlen : (ts.set i { ts[i] with ov := ov', T := T' }).length = ts.length := by simp
  have hset : ∀ j (hj : j < ts.length), (ts.set i { ts[i] with ov := ov', T := T' })[j]'(by simpa using hj) = if j = i then { ts[i] with ov := ov', T := T' } else ts[j] := by
    intro j hj
    rw [List.getElem_set]
    by_cases e : i = j
    · subst e; simp
    · rw [if_neg e, if_neg (fun e' => e e'.symm)]
  refine ⟨ov', ⟨hm, ?_, ?_, ?_, ?_, h.dm, ?_, ?_⟩, hc.mono ?_⟩
  · obtain ⟨bt, cap, n, h1, ⟨h2, hDb⟩, h3⟩ := h.thr
    refine ⟨bt, cap, n, ?_, ⟨?_, hDb⟩, ?_⟩
    · rw [hlen]
      refine (hc.cell bm 256 h.mem.lt ?_).trans h1
      rintro (e | e | e)
      · exact hti.ne h.mem e.symm
      · omega
      · exact hti.row_ne h.mem.sh (by decide) e
    · exact (hc.shape bt (lt_of_shape h2)).trans h2
    · intro j hj
      have hj' : j < ts.length := by simpa using hj
      rw [hset j hj']
      refine (hc.cell bt j (lt_of_shape h2) (hkind bt _ _ h2 (by decide) (by decide) (by decide) j)).trans ?_
      rw [h3 j hj']
      by_cases e : j = i
      · subst e; simp
      · simp [e]
  · intro j hj
    have hj' : j < ts.length := by simpa using hj
    rw [hset j hj']
    by_cases e : j = i
    · subst e; simpa using ht
    · simp only [e, if_false]
      have hd := h.dis i j hi hj' (fun e' => e e'.symm)
      have htj := h.th j hj'
      refine htj.keep hc ?_ ?_
      · rintro k (e' | e' | e')
        · exact hd.1 e'.symm
        · exact htj.ne h.mem e'.1
        · exact hti.row_ne htj.sh (by decide) e'
      · rintro g hg k (e' | e' | e')
        · exact htj.row_ne hti.sh (by decide) (e' ▸ hg)
        · exact htj.row_ne h.mem.sh (by decide) (e'.1 ▸ hg)
        · exact hd.2 g e' hg
  · intro j hj
    have hj' : j < ts.length := by simpa using hj
    rw [hset j hj']
    have hcj : CodeAt D w' ts[j].iv ts[j].code := by
      rcases h.code j hj' with h0 | ⟨bi, cap, n, h1, ⟨h2, hDi⟩, h3⟩
      · exact .inl h0
      · exact .inr ⟨bi, cap, n, h1, ⟨(hc.shape bi (lt_of_shape h2)).trans h2, hDi⟩, fun k hk => (hc.cell bi k (lt_of_shape h2) (hkind bi _ _ h2 (by decide) (by decide) (by decide) k)).trans (h3 k hk)⟩
    by_cases e : j = i
    · subst e; simpa using hcj
    · simpa [e] using hcj
  · intro j l hj hl hne
    have hj' : j < ts.length := by simpa using hj
    have hl' : l < ts.length := by simpa using hl
    rw [hset j hj', hset l hl']
    by_cases ej : j = i
    · have el : ¬ l = i := fun e => hne (ej.trans e.symm)
      subst ej
      simp only [if_true, el, if_false]
      refine ⟨(h.dis j l hi hl' (fun e => el e.symm)).1, fun k hk hk2 => ?_⟩
      rcases ho with ho | ⟨k', ho, hk'⟩
      · exact (h.dis j l hi hl' (fun e => el e.symm)).2 k (ho ▸ hk) hk2
      · rw [ho] at hk; simp at hk; subst hk
        obtain ⟨c, hcc⟩ := ownsRow_shape (h.th l hl').out _ hk2
        have := lt_of_shape hcc; omega
    · by_cases el : l = i
      · subst el
        simp only [ej, if_false, if_true]
        refine ⟨(h.dis j l hj' hi ej).1, fun k hk hk2 => ?_⟩
        rcases ho with ho | ⟨k', ho, hk'⟩
        · exact (h.dis j l hj' hi ej).2 k hk (ho ▸ hk2)
        · rw [ho] at hk2; simp at hk2; subst hk2
          obtain ⟨c, hcc⟩ := ownsRow_shape (h.th j hj').out _ hk
          have := lt_of_shape hcc; omega
      · simp only [ej, el, if_false]
        exact h.dis j l hj' hl' hne
  · intro j hj
    have hj' : j < ts.length := by simpa using hj
    rw [hset j hj']
    by_cases e : j = i
    · subst e; simpa using h.db j hj'
    · simpa [e] using h.db j hj'
  · intro j hj k hk
    have hj' : j < ts.length := by simpa using hj
    rw [hset j hj'] at hk
    by_cases e : j = i
    · subst e
      simp only [if_true] at hk
      rcases ho with ho | ⟨k', ho, hk'⟩
      · exact h.dr j hj' k (ho ▸ hk)
      · rw [ho] at hk; simp at hk; subst hk; exact hD _ hk'
    · simp only [e, if_false] at hk
      exact h.dr j hj' k hk
  · rintro k j hk (e | e | e)
    · exact e ▸ h.db i hi
    · exact e.1 ▸ h.dm
    · exact h.dr i hi k e

/-- What touches no block that the machine may own keeps it. -/
theorem MAt.keep {D : Nat → Prop} {M : Nat → Nat → Prop} {w w' : World} {bm : Nat} {m : Nat → Int} {ts : List Tr} (h : MAt D w bm m ts) (hc : Chg M w w') (hM : ∀ k, D k → k < w.heap.size → ∀ i, ¬ M k i) : MAt D w' bm m ts := {
  mem := h.mem.keep hc (fun i _ => hM bm h.dm h.mem.lt i)
  thr := by
    obtain ⟨bt, cap, n, h1, ⟨h2, hDb⟩, h3⟩ := h.thr
    exact ⟨bt, cap, n, (hc.cell bm 256 h.mem.lt (hM bm h.dm h.mem.lt _)).trans h1, ⟨(hc.shape bt (lt_of_shape h2)).trans h2, hDb⟩, fun i hi => (hc.cell bt i (lt_of_shape h2) (hM bt hDb (lt_of_shape h2) i)).trans (h3 i hi)⟩
  th := fun i hi => (h.th i hi).keep hc (hM _ (h.db i hi) (h.th i hi).lt) (fun g hg => by obtain ⟨c, hs⟩ := ownsRow_shape (h.th i hi).out g hg; exact hM g (h.dr i hi g hg) (lt_of_shape hs))
  code := fun i hi => by
    rcases h.code i hi with h0 | ⟨bi, cap, n, h1, ⟨h2, hDi⟩, h3⟩
    · exact .inl h0
    · exact .inr ⟨bi, cap, n, h1, ⟨(hc.shape bi (lt_of_shape h2)).trans h2, hDi⟩, fun k hk => (hc.cell bi k (lt_of_shape h2) (hM bi hDi (lt_of_shape h2) k)).trans (h3 k hk)⟩
  dis := h.dis
  dm := h.dm
  db := h.db
  dr := h.dr }

/-- Another set of blocks, as long as it has those that are there. -/
theorem MAt.newD {D D' : Nat → Prop} {w : World} {bm : Nat} {m : Nat → Int} {ts : List Tr} (h : MAt D w bm m ts) (hD : ∀ k, D k → k < w.heap.size → D' k) : MAt D' w bm m ts := {
  mem := h.mem
  thr := by
    obtain ⟨bt, cap, n, h1, ⟨h2, hDb⟩, h3⟩ := h.thr
    exact ⟨bt, cap, n, h1, ⟨h2, hD _ hDb (lt_of_shape h2)⟩, h3⟩
  th := h.th
  code := fun i hi => by
    rcases h.code i hi with h0 | ⟨bi, cap, n, h1, ⟨h2, hDi⟩, h3⟩
    · exact .inl h0
    · exact .inr ⟨bi, cap, n, h1, ⟨h2, hD _ hDi (lt_of_shape h2)⟩, h3⟩
  dis := h.dis
  dm := hD _ h.dm h.mem.lt
  db := fun i hi => hD _ (h.db i hi) (h.th i hi).lt
  dr := fun i hi k hk => by obtain ⟨c, hs⟩ := ownsRow_shape (h.th i hi).out k hk; exact hD k (h.dr i hi k hk) (lt_of_shape hs) }

end Go.Proofs.YtfhkfnoajbbfdaaGreatDoor
