import Derived.Test.YtfhkfnoajbbfdabGreatDoorPart17
import Derived.Test.YtfhkfnoajbbfdabGreatDoorPart04
import Derived.Test.YtfhkfnoajbbfdabGreatDoorPart06
import Derived.Lib.LaidTab
import Derived.Lib.ItoaNum
import Derived.Lib.Join
import Derived.Lib.ItoaLen
/- readStmt: each statement's roads (written by gen-pm6.py). -/
namespace Go.Proofs.YtfhkfnoajbbfdabGreatDoor
open Go.RowKit

/-- A statement as it was read: what holds others is a new block. -/
def StAt (w0 w : World) (s : St) (v : Value) : Prop := match s with
  | .inl (to, a) => v = .iface 328 (.agg #[.string to, .string a.name, .int .i64 a.num])
  | .inr (.inl (to, o, a, b)) => v = .iface 332 (.agg #[.string to, .int .i64 o, .string a.name, .int .i64 a.num, .string b.name, .int .i64 b.num])
  | .inr (.inr (.inl (to, of, a))) => v = .iface 307 (.agg #[.string to, .string of, .string a.name, .int .i64 a.num])
  | .inr (.inr (.inr (.inl (of, a, b)))) => v = .iface 309 (.agg #[.string of, .string a.name, .int .i64 a.num, .string b.name, .int .i64 b.num])
  | .inr (.inr (.inr (.inr (.inl a)))) => v = .iface 311 (.agg #[.string a.name, .int .i64 a.num])
  | .inr (.inr (.inr (.inr (.inr (.inl ()))))) => ∃ b, w0.heap.size ≤ b ∧ v = .iface 231 (ptr b) ∧ w.shape? b = some (234, 1) ∧ w.cell? ⟨b, 0, none⟩ = some (.slice none 0 0) ∧ (∀ j, w.frozen? ⟨b, j, none⟩ = false)
  | .inr (.inr (.inr (.inr (.inr (.inr (.inl a)))))) => ∃ b, w0.heap.size ≤ b ∧ v = .iface 312 (ptr b) ∧ w.shape? b = some (314, 3) ∧ w.cell? ⟨b, 0, none⟩ = some (.slice none 0 0) ∧ (∀ j, w.frozen? ⟨b, j, none⟩ = false) ∧ w.cell? ⟨b, 1, none⟩ = some (.string a.name) ∧ w.cell? ⟨b, 2, none⟩ = some (.int .i64 a.num)
  | .inr (.inr (.inr (.inr (.inr (.inr (.inr n)))))) => ∃ b, w0.heap.size ≤ b ∧ v = .iface 315 (ptr b) ∧ w.shape? b = some (317, 2) ∧ w.cell? ⟨b, 0, none⟩ = some (.slice none 0 0) ∧ (∀ j, w.frozen? ⟨b, j, none⟩ = false) ∧ w.cell? ⟨b, 1, none⟩ = some (.int .i64 n)

theorem frozenN (w : World) (cs : Array Value) (t : TypeId) : ∀ j, (w.alloc (.cells cs t)).frozen? ⟨w.heap.size, j, none⟩ = false := by
  intro j
  have e : (w.alloc (.cells cs t)).heap[w.heap.size]? = some (.cells cs t) := by show (w.heap.push _)[w.heap.size]? = _; exact Array.getElem?_push_size
  unfold World.frozen?
  rw [e]
  simp

theorem shapeN (w : World) (cs : Array Value) (t : TypeId) : (w.alloc (.cells cs t)).shape? w.heap.size = some (t, cs.size) := by
  have e : (w.alloc (.cells cs t)).heap[w.heap.size]? = some (.cells cs t) := by show (w.heap.push _)[w.heap.size]? = _; exact Array.getElem?_push_size
  unfold World.shape?
  rw [e]

def StR (bl : Nat) (n : Int) (bw : Nat) (w : World) (r : Option (St × List ByteArray)) (e : Ending) (w' : World) : Prop := match r with
  | some (s, ws) => ∃ v, e = .returned v ∧ StAt w w' s v ∧ LineAt w' bl n bw ws ∧ Chg (lineM bl) w w'
  | none => Fails 2 n bl w e w'

section
variable {w : World} {bl bw br bs : Nat} {n : Int} {ws ws1 ws2 ws3 : List ByteArray} {x x2 u : ByteArray} {y z : PV} {v : Int}

set_option maxRecDepth 100000 in
set_option maxHeartbeats 1000000 in
theorem rs_get0 (h : LineAt w bl n bw ws) (_hE : Hid (Env w)) (_hbl : 10 ≤ bl) (hz : SzOk ws) (hv0 : gNm ws = none) : Calls Tryz.prog 94 #[ptr br, .string ⟨#[103, 101, 116]⟩, ptr bl] w fun e w' => Fails 2 n bl w e w' := by
  have H0 := hid h
  have C0 := hid (Chg.refl (lineM bl) w)
  clear h
  go_enter Tryz.func94, Tryz.ntmps94
  go_wp2_with fail
  refine (nm_no H0.out hz hv0).mono ?_
  intro e w9 h9
  obtain ⟨bf, rfl, h8⟩ := Fails.after h9 C0.out
  exact ⟨rfl, bf, rfl, h8⟩

set_option maxRecDepth 100000 in
set_option maxHeartbeats 1000000 in
theorem rs_get1 (h : LineAt w bl n bw ws) (_hE : Hid (Env w)) (_hbl : 10 ≤ bl) (hz : SzOk ws) (hv0 : gNm ws = some (x, ws1)) (hv1 : gNm ws1 = none) : Calls Tryz.prog 94 #[ptr br, .string ⟨#[103, 101, 116]⟩, ptr bl] w fun e w' => Fails 2 n bl w e w' := by
  have H0 := hid h
  have C0 := hid (Chg.refl (lineM bl) w)
  clear h
  go_enter Tryz.func94, Tryz.ntmps94
  go_wp2_with fail
  refine (nm_ok H0.out hz hv0).mono ?_
  rintro e w1 ⟨rfl, h1, c1⟩
  have H1 := hid h1
  have C1 := hid (C0.out.trans c1)
  clear h1 c1 H0 C0
  have hz1 := gNm_sz hv0 hz
  go_wp2_with fail
  refine (nm_no H1.out hz1 hv1).mono ?_
  intro e w9 h9
  obtain ⟨bf, rfl, h8⟩ := Fails.after h9 C1.out
  exact ⟨rfl, bf, rfl, h8⟩

set_option maxRecDepth 100000 in
set_option maxHeartbeats 1000000 in
theorem rs_get2 (h : LineAt w bl n bw ws) (hE : Hid (Env w)) (hbl : 10 ≤ bl) (hz : SzOk ws) (hv0 : gNm ws = some (x, ws1)) (hv1 : gNm ws1 = some (x2, ws2)) (hv2 : gAt ws2 = none) : Calls Tryz.prog 94 #[ptr br, .string ⟨#[103, 101, 116]⟩, ptr bl] w fun e w' => Fails 2 n bl w e w' := by
  have H0 := hid h
  have C0 := hid (Chg.refl (lineM bl) w)
  clear h
  go_enter Tryz.func94, Tryz.ntmps94
  go_wp2_with fail
  refine (nm_ok H0.out hz hv0).mono ?_
  rintro e w1 ⟨rfl, h1, c1⟩
  have H1 := hid h1
  have C1 := hid (C0.out.trans c1)
  clear h1 c1 H0 C0
  have hz1 := gNm_sz hv0 hz
  go_wp2_with fail
  refine (nm_ok H1.out hz1 hv1).mono ?_
  rintro e w2 ⟨rfl, h1, c1⟩
  have H2 := hid h1
  have C2 := hid (C1.out.trans c1)
  clear h1 c1 H1 C1
  have hz2 := gNm_sz hv1 hz1
  go_wp2_with fail
  refine (at_no H2.out (hE.out.line C2.out hbl) hbl hz2 hv2).mono ?_
  intro e w9 h9
  obtain ⟨bf, rfl, h8⟩ := Fails.after h9 C2.out
  exact ⟨rfl, bf, rfl, h8⟩

set_option maxRecDepth 100000 in
set_option maxHeartbeats 1000000 in
theorem rs_get (h : LineAt w bl n bw ws) (hE : Hid (Env w)) (hbl : 10 ≤ bl) (hz : SzOk ws) (hv0 : gNm ws = some (x, ws1)) (hv1 : gNm ws1 = some (x2, ws2)) (hv2 : gAt ws2 = some (y, ws3)) : Calls Tryz.prog 94 #[ptr br, .string ⟨#[103, 101, 116]⟩, ptr bl] w fun e w' => StR bl n bw w (some (St.get x x2 y, ws3)) e w' := by
  have H0 := hid h
  have C0 := hid (Chg.refl (lineM bl) w)
  clear h
  go_enter Tryz.func94, Tryz.ntmps94
  go_wp2_with fail
  refine (nm_ok H0.out hz hv0).mono ?_
  rintro e w1 ⟨rfl, h1, c1⟩
  have H1 := hid h1
  have C1 := hid (C0.out.trans c1)
  clear h1 c1 H0 C0
  have hz1 := gNm_sz hv0 hz
  go_wp2_with fail
  refine (nm_ok H1.out hz1 hv1).mono ?_
  rintro e w2 ⟨rfl, h1, c1⟩
  have H2 := hid h1
  have C2 := hid (C1.out.trans c1)
  clear h1 c1 H1 C1
  have hz2 := gNm_sz hv1 hz1
  go_wp2_with fail
  refine (at_ok H2.out (hE.out.line C2.out hbl) hbl hz2 hv2).mono ?_
  rintro e w3 ⟨rfl, h1, c1⟩
  have H3 := hid h1
  have C3 := hid (C2.out.trans c1)
  clear h1 c1 H2 C2
  have hz3 := gAt_sz hv2 hz2
  go_wp2
  go_ret
  exact ⟨_, rfl, rfl, H3.out, C3.out⟩

set_option maxRecDepth 100000 in
set_option maxHeartbeats 1000000 in
theorem rs_put0 (h : LineAt w bl n bw ws) (_hE : Hid (Env w)) (_hbl : 10 ≤ bl) (hz : SzOk ws) (hv0 : gNm ws = none) : Calls Tryz.prog 94 #[ptr br, .string ⟨#[112, 117, 116]⟩, ptr bl] w fun e w' => Fails 2 n bl w e w' := by
  have H0 := hid h
  have C0 := hid (Chg.refl (lineM bl) w)
  clear h
  go_enter Tryz.func94, Tryz.ntmps94
  go_wp2_with fail
  refine (nm_no H0.out hz hv0).mono ?_
  intro e w9 h9
  obtain ⟨bf, rfl, h8⟩ := Fails.after h9 C0.out
  exact ⟨rfl, bf, rfl, h8⟩

set_option maxRecDepth 100000 in
set_option maxHeartbeats 1000000 in
theorem rs_put1 (h : LineAt w bl n bw ws) (hE : Hid (Env w)) (hbl : 10 ≤ bl) (hz : SzOk ws) (hv0 : gNm ws = some (x, ws1)) (hv1 : gPV ws1 = none) : Calls Tryz.prog 94 #[ptr br, .string ⟨#[112, 117, 116]⟩, ptr bl] w fun e w' => Fails 2 n bl w e w' := by
  have H0 := hid h
  have C0 := hid (Chg.refl (lineM bl) w)
  clear h
  go_enter Tryz.func94, Tryz.ntmps94
  go_wp2_with fail
  refine (nm_ok H0.out hz hv0).mono ?_
  rintro e w1 ⟨rfl, h1, c1⟩
  have H1 := hid h1
  have C1 := hid (C0.out.trans c1)
  clear h1 c1 H0 C0
  have hz1 := gNm_sz hv0 hz
  go_wp2_with fail
  refine (pv_no H1.out (hE.out.line C1.out hbl) hbl hz1 hv1).mono ?_
  intro e w9 h9
  obtain ⟨bf, rfl, h8⟩ := Fails.after h9 C1.out
  exact ⟨rfl, bf, rfl, h8⟩

set_option maxRecDepth 100000 in
set_option maxHeartbeats 1000000 in
theorem rs_put2 (h : LineAt w bl n bw ws) (hE : Hid (Env w)) (hbl : 10 ≤ bl) (hz : SzOk ws) (hv0 : gNm ws = some (x, ws1)) (hv1 : gPV ws1 = some (y, ws2)) (hv2 : gAt ws2 = none) : Calls Tryz.prog 94 #[ptr br, .string ⟨#[112, 117, 116]⟩, ptr bl] w fun e w' => Fails 2 n bl w e w' := by
  have H0 := hid h
  have C0 := hid (Chg.refl (lineM bl) w)
  clear h
  go_enter Tryz.func94, Tryz.ntmps94
  go_wp2_with fail
  refine (nm_ok H0.out hz hv0).mono ?_
  rintro e w1 ⟨rfl, h1, c1⟩
  have H1 := hid h1
  have C1 := hid (C0.out.trans c1)
  clear h1 c1 H0 C0
  have hz1 := gNm_sz hv0 hz
  go_wp2_with fail
  refine (pv_ok H1.out (hE.out.line C1.out hbl) hbl hz1 hv1).mono ?_
  rintro e w2 ⟨rfl, h1, c1⟩
  have H2 := hid h1
  have C2 := hid (C1.out.trans c1)
  clear h1 c1 H1 C1
  have hz2 := gPV_sz hv1 hz1
  have bel : Below w2.heap.size w2 (pvB w2 y) := (Below.refl _ w2).alloc (Nat.le_refl _) _
  have d0 : (pvB w2 y).cell? ⟨w2.heap.size, 0, none⟩ = some (.string y.name) := World.cell?_alloc_new _ _ _ 0
  have d1 : (pvB w2 y).cell? ⟨w2.heap.size, 1, none⟩ = some (.int .i64 y.num) := World.cell?_alloc_new _ _ _ 1
  have CB := hid ((C2.out.alloc (.cells #[.string y.name, .int .i64 y.num] 302)).drew)
  have HB := hid ((H2.out.below bel).below (w' := (pvB w2 y).drew) (below_drew _ _))
  have hlt := H2.out.lt
  have KD := hid (at_no HB.out (hE.out.line CB.out hbl) hbl hz2 hv2)
  clear bel H2 C2
  go_wp2_with fail
  refine wp_region_any (by kernel_rfl) ?_
  change wpAny _ _ _ _ _ _ _ (World.drew _)
  refine wpAny_take (i := 0) (v := .string x) rfl (by kernel_rfl) (by kernel_rfl) (by kernel_rfl) (fun _ _ _ h => h) (Or.inl ⟨by rfl, fun w => by go_simp⟩) ?_
  refine wpAny_take (i := 1) (v := ptr bl) rfl (by kernel_rfl) (by kernel_rfl) (by kernel_rfl) (fun _ _ _ h => h) (Or.inl ⟨by rfl, fun w => by go_simp⟩) ?_
  refine wpAny_ready (rs := [2, 4]) (by kernel_rfl) (by simp) ?_
  refine AllReady.cons rfl (fun K hK => ?_) ?_
  · go_simp
    refine KD.out.mono ?_
    intro e w5 h5
    obtain ⟨bf, rfl, h6⟩ := h5.after CB.out
    exact ⟨rfl, bf, rfl, h6⟩
  · refine AllReady.cons rfl (fun K hK => ?_) AllReady.nil
    go_simp
    refine hK _ _ ?_
    clear hK K
    refine wpAny_ready (rs := [2]) (by kernel_rfl) (by simp) ?_
    refine AllReady.cons rfl (fun K hK => ?_) AllReady.nil
    go_simp
    refine KD.out.mono ?_
    intro e w5 h5
    obtain ⟨bf, rfl, h6⟩ := h5.after CB.out
    exact ⟨rfl, bf, rfl, h6⟩

set_option maxRecDepth 100000 in
set_option maxHeartbeats 1000000 in
theorem rs_put (h : LineAt w bl n bw ws) (hE : Hid (Env w)) (hbl : 10 ≤ bl) (hz : SzOk ws) (hv0 : gNm ws = some (x, ws1)) (hv1 : gPV ws1 = some (y, ws2)) (hv2 : gAt ws2 = some (z, ws3)) : Calls Tryz.prog 94 #[ptr br, .string ⟨#[112, 117, 116]⟩, ptr bl] w fun e w' => StR bl n bw w (some (St.put x z y, ws3)) e w' := by
  have H0 := hid h
  have C0 := hid (Chg.refl (lineM bl) w)
  clear h
  go_enter Tryz.func94, Tryz.ntmps94
  go_wp2_with fail
  refine (nm_ok H0.out hz hv0).mono ?_
  rintro e w1 ⟨rfl, h1, c1⟩
  have H1 := hid h1
  have C1 := hid (C0.out.trans c1)
  clear h1 c1 H0 C0
  have hz1 := gNm_sz hv0 hz
  go_wp2_with fail
  refine (pv_ok H1.out (hE.out.line C1.out hbl) hbl hz1 hv1).mono ?_
  rintro e w2 ⟨rfl, h1, c1⟩
  have H2 := hid h1
  have C2 := hid (C1.out.trans c1)
  clear h1 c1 H1 C1
  have hz2 := gPV_sz hv1 hz1
  have bel : Below w2.heap.size w2 (pvB w2 y) := (Below.refl _ w2).alloc (Nat.le_refl _) _
  have d0 : (pvB w2 y).cell? ⟨w2.heap.size, 0, none⟩ = some (.string y.name) := World.cell?_alloc_new _ _ _ 0
  have d1 : (pvB w2 y).cell? ⟨w2.heap.size, 1, none⟩ = some (.int .i64 y.num) := World.cell?_alloc_new _ _ _ 1
  have CB := hid ((C2.out.alloc (.cells #[.string y.name, .int .i64 y.num] 302)).drew)
  have HB := hid ((H2.out.below bel).below (w' := (pvB w2 y).drew) (below_drew _ _))
  have hlt := H2.out.lt
  have KD := hid (at_ok HB.out (hE.out.line CB.out hbl) hbl hz2 hv2)
  clear bel H2 C2
  go_wp2_with fail
  go_region_law (go_simp; go_at_call 131; refine KD.out.mono ?_; rintro e w3 ⟨rfl, h1, c1⟩; have g0 := (c1.cell w2.heap.size 0 (World.block_lt_of_cell? _ _ d0) (fun e => by omega)).trans d0; have g1 := (c1.cell w2.heap.size 1 (World.block_lt_of_cell? _ _ d0) (fun e => by omega)).trans d1; have H3 := hid h1; have C3 := hid (CB.out.trans c1); clear h1 c1)
  all_goals
    go_wp2
    go_ret
    exact ⟨_, rfl, rfl, H3.out, C3.out⟩

set_option maxRecDepth 100000 in
set_option maxHeartbeats 1000000 in
theorem rs_out0 (h : LineAt w bl n bw ws) (hE : Hid (Env w)) (hbl : 10 ≤ bl) (hz : SzOk ws) (hv0 : gPV ws = none) : Calls Tryz.prog 94 #[ptr br, .string ⟨#[111, 117, 116]⟩, ptr bl] w fun e w' => Fails 2 n bl w e w' := by
  have H0 := hid h
  have C0 := hid (Chg.refl (lineM bl) w)
  clear h
  go_enter Tryz.func94, Tryz.ntmps94
  go_wp2_with fail
  refine (pv_no H0.out (hE.out.line C0.out hbl) hbl hz hv0).mono ?_
  intro e w9 h9
  obtain ⟨bf, rfl, h8⟩ := Fails.after h9 C0.out
  exact ⟨rfl, bf, rfl, h8⟩

set_option maxRecDepth 100000 in
set_option maxHeartbeats 1000000 in
theorem rs_out (h : LineAt w bl n bw ws) (hE : Hid (Env w)) (hbl : 10 ≤ bl) (hz : SzOk ws) (hv0 : gPV ws = some (y, ws1)) : Calls Tryz.prog 94 #[ptr br, .string ⟨#[111, 117, 116]⟩, ptr bl] w fun e w' => StR bl n bw w (some (St.out y, ws1)) e w' := by
  have H0 := hid h
  have C0 := hid (Chg.refl (lineM bl) w)
  clear h
  go_enter Tryz.func94, Tryz.ntmps94
  go_wp2_with fail
  refine (pv_ok H0.out (hE.out.line C0.out hbl) hbl hz hv0).mono ?_
  rintro e w1 ⟨rfl, h1, c1⟩
  have H1 := hid h1
  have C1 := hid (C0.out.trans c1)
  clear h1 c1 H0 C0
  have hz1 := gPV_sz hv0 hz
  go_wp2
  go_ret
  exact ⟨_, rfl, rfl, H1.out, C1.out⟩

set_option maxRecDepth 100000 in
set_option maxHeartbeats 1000000 in
theorem rs_atomic (h : LineAt w bl n bw ws) (_hE : Hid (Env w)) (_hbl : 10 ≤ bl) (_hz : SzOk ws)  : Calls Tryz.prog 94 #[ptr br, .string ⟨#[97, 116, 111, 109, 105, 99]⟩, ptr bl] w fun e w' => StR bl n bw w (some (St.atomic, ws)) e w' := by
  have H0 := hid h
  have C0 := hid (Chg.refl (lineM bl) w)
  clear h
  go_enter Tryz.func94, Tryz.ntmps94
  go_wp2
  go_ret
  have bel : Below w.heap.size w (w.alloc (.cells #[.slice none 0 0] 234)) := (Below.refl _ w).alloc (Nat.le_refl _) _
  exact ⟨_, rfl, ⟨w.heap.size, C0.out.size, rfl, shapeN _ _ _, World.cell?_alloc_new _ _ _ 0, frozenN _ _ _⟩, H0.out.below bel, C0.out.alloc _⟩

set_option maxRecDepth 100000 in
set_option maxHeartbeats 1000000 in
theorem rs_if0 (h : LineAt w bl n bw ws) (hE : Hid (Env w)) (hbl : 10 ≤ bl) (hz : SzOk ws) (hv0 : gPV ws = none) : Calls Tryz.prog 94 #[ptr br, .string ⟨#[105, 102]⟩, ptr bl] w fun e w' => Fails 2 n bl w e w' := by
  have H0 := hid h
  have C0 := hid (Chg.refl (lineM bl) w)
  clear h
  go_enter Tryz.func94, Tryz.ntmps94
  go_wp2_with fail
  refine (pv_no H0.out (hE.out.line C0.out hbl) hbl hz hv0).mono ?_
  intro e w9 h9
  obtain ⟨bf, rfl, h8⟩ := Fails.after h9 C0.out
  exact ⟨rfl, bf, rfl, h8⟩

set_option maxRecDepth 100000 in
set_option maxHeartbeats 1000000 in
theorem rs_if (h : LineAt w bl n bw ws) (hE : Hid (Env w)) (hbl : 10 ≤ bl) (hz : SzOk ws) (hv0 : gPV ws = some (y, ws1)) : Calls Tryz.prog 94 #[ptr br, .string ⟨#[105, 102]⟩, ptr bl] w fun e w' => StR bl n bw w (some (St.iff y, ws1)) e w' := by
  have H0 := hid h
  have C0 := hid (Chg.refl (lineM bl) w)
  clear h
  go_enter Tryz.func94, Tryz.ntmps94
  go_wp2_with fail
  refine (pv_ok H0.out (hE.out.line C0.out hbl) hbl hz hv0).mono ?_
  rintro e w1 ⟨rfl, h1, c1⟩
  have H1 := hid h1
  have C1 := hid (C0.out.trans c1)
  clear h1 c1 H0 C0
  have hz1 := gPV_sz hv0 hz
  go_wp2
  go_ret
  have bel : Below w1.heap.size w1 (w1.alloc (.cells #[.slice none 0 0, .string y.name, .int .i64 y.num] 314)) := (Below.refl _ w1).alloc (Nat.le_refl _) _
  exact ⟨_, rfl, ⟨w1.heap.size, C1.out.size, rfl, shapeN _ _ _, World.cell?_alloc_new _ _ _ 0, frozenN _ _ _, World.cell?_alloc_new _ _ _ 1, World.cell?_alloc_new _ _ _ 2⟩, H1.out.below bel, C1.out.alloc _⟩

set_option maxRecDepth 100000 in
set_option maxHeartbeats 1000000 in
theorem rs_loop0 (h : LineAt w bl n bw ws) (hE : Hid (Env w)) (hbl : 10 ≤ bl) (hz : SzOk ws) (hv0 : gIn 1 4 ws = none) : Calls Tryz.prog 94 #[ptr br, .string ⟨#[108, 111, 111, 112]⟩, ptr bl] w fun e w' => Fails 2 n bl w e w' := by
  have H0 := hid h
  have C0 := hid (Chg.refl (lineM bl) w)
  clear h
  go_enter Tryz.func94, Tryz.ntmps94
  go_wp2_with fail
  refine (rw_no H0.out (hE.out.line C0.out hbl) hbl hz hv0).mono ?_
  intro e w9 h9
  obtain ⟨bf, rfl, h8⟩ := Fails.after h9 C0.out
  exact ⟨rfl, bf, rfl, h8⟩

set_option maxRecDepth 100000 in
set_option maxHeartbeats 1000000 in
theorem rs_loop (h : LineAt w bl n bw ws) (hE : Hid (Env w)) (hbl : 10 ≤ bl) (hz : SzOk ws) (hv0 : gIn 1 4 ws = some (v, ws1)) : Calls Tryz.prog 94 #[ptr br, .string ⟨#[108, 111, 111, 112]⟩, ptr bl] w fun e w' => StR bl n bw w (some (St.loop v, ws1)) e w' := by
  have H0 := hid h
  have C0 := hid (Chg.refl (lineM bl) w)
  clear h
  go_enter Tryz.func94, Tryz.ntmps94
  go_wp2_with fail
  refine (rw_ok H0.out (hE.out.line C0.out hbl) hbl hz hv0).mono ?_
  rintro e w1 ⟨rfl, h1, c1⟩
  have H1 := hid h1
  have C1 := hid (C0.out.trans c1)
  clear h1 c1 H0 C0
  have hz1 := gIn_sz hv0 hz
  go_wp2
  go_ret
  have bel : Below w1.heap.size w1 (w1.alloc (.cells #[.slice none 0 0, .int .i64 v] 317)) := (Below.refl _ w1).alloc (Nat.le_refl _) _
  exact ⟨_, rfl, ⟨w1.heap.size, C1.out.size, rfl, shapeN _ _ _, World.cell?_alloc_new _ _ _ 0, frozenN _ _ _, World.cell?_alloc_new _ _ _ 1⟩, H1.out.below bel, C1.out.alloc _⟩
end
end Go.Proofs.YtfhkfnoajbbfdabGreatDoor

/- readStmt, whatever the words are (written by gen-pm6.py). -/
namespace Go.Proofs.YtfhkfnoajbbfdabGreatDoor
open Go.RowKit

def pwSet : ByteArray := ⟨#[115, 101, 116]⟩
def pwGet : ByteArray := ⟨#[103, 101, 116]⟩
def pwPut : ByteArray := ⟨#[112, 117, 116]⟩
def pwOut : ByteArray := ⟨#[111, 117, 116]⟩
def pwAtomic : ByteArray := ⟨#[97, 116, 111, 109, 105, 99]⟩
def pwIf : ByteArray := ⟨#[105, 102]⟩
def pwLoop : ByteArray := ⟨#[108, 111, 111, 112]⟩

def gGet (ws : List ByteArray) : Option (St × List ByteArray) := (gNm ws).bind fun p => (gNm p.2).bind fun q => (gAt q.2).map fun r => (St.get p.1 q.1 r.1, r.2)
def gPut (ws : List ByteArray) : Option (St × List ByteArray) := (gNm ws).bind fun p => (gPV p.2).bind fun q => (gAt q.2).map fun r => (St.put p.1 r.1 q.1, r.2)

/-- What a statement's words say. -/
def gStmt (u : ByteArray) (ws : List ByteArray) : Option (St × List ByteArray) :=
  if u = pwSet then gSet ws else if u = pwGet then gGet ws else if u = pwPut then gPut ws else if u = pwOut then (gPV ws).map fun p => (St.out p.1, p.2)
  else if u = pwAtomic then some (St.atomic, ws) else if u = pwIf then (gPV ws).map fun p => (St.iff p.1, p.2) else if u = pwLoop then (gIn 1 4 ws).map fun p => (St.loop p.1, p.2) else none

section
variable {w : World} {bl bw br bs : Nat} {n : Int} {ws : List ByteArray} {u : ByteArray}

theorem readSet_tot (h : LineAt w bl n bw ws) (hE : Hid (Env w)) (hbl : 10 ≤ bl) (hz : SzOk ws) (hS : Hid (SignsAt w br bs bl)) : Calls Tryz.prog 130 #[ptr br, ptr bl] w fun e w' => StR bl n bw w (gSet ws) e w' := by
  unfold gSet
  cases h1 : gNm ws with
  | none => exact readSet_nm h hz h1
  | some p =>
    obtain ⟨x, ws1⟩ := p
    simp only [Option.bind_some]
    cases h2 : gPV ws1 with
    | none => exact readSet_pv h hE hbl hz h1 h2
    | some q =>
      obtain ⟨y, ws2⟩ := q
      simp only [Option.bind_some]
      cases ws2 with
      | nil =>
        refine (readSet_set h hE hbl hz h1 h2).mono ?_
        rintro e w' ⟨rfl, g1, g2⟩
        exact ⟨_, rfl, rfl, g1, g2⟩
      | cons u us =>
        simp only
        cases h3 : gOp (u :: us) with
        | none => exact readSet_noop h hE hbl hz hS h1 h2 h3
        | some o =>
          obtain ⟨k, ws3⟩ := o
          simp only [Option.bind_some]
          cases h4 : gPV ws3 with
          | none => exact readSet_nob h hE hbl hz hS h1 h2 h3 h4
          | some r =>
            obtain ⟨z, ws4⟩ := r
            refine (readSet_op h hE hbl hz hS h1 h2 h3 h4).mono ?_
            rintro e w' ⟨rfl, g1, g2⟩
            exact ⟨_, rfl, rfl, g1, g2⟩

set_option maxRecDepth 100000 in
set_option maxHeartbeats 1000000 in
theorem rs_set (K : Hid (Calls Tryz.prog 130 #[ptr br, ptr bl] w fun e w' => StR bl n bw w (gSet ws) e w')) : Calls Tryz.prog 94 #[ptr br, .string ⟨#[115, 101, 116]⟩, ptr bl] w fun e w' => StR bl n bw w (gSet ws) e w' := by
  cases hg : gSet ws with
  | none =>
    rw [hg] at K
    go_enter Tryz.func94, Tryz.ntmps94
    go_wp2_with fail
    refine K.out.mono ?_
    rintro e w1 ⟨bf, rfl, h1⟩
    exact ⟨rfl, bf, rfl, h1⟩
  | some p =>
    obtain ⟨s, ws1⟩ := p
    rw [hg] at K
    go_enter Tryz.func94, Tryz.ntmps94
    go_wp2_with fail
    refine K.out.mono ?_
    rintro e w1 ⟨v, rfl, h1⟩
    have H1 := hid h1
    clear h1 K
    go_wp2
    go_ret
    exact ⟨v, rfl, H1.out⟩

set_option maxRecDepth 100000 in
set_option maxHeartbeats 1000000 in
theorem rs_none (h : LineAt w bl n bw ws) (h0 : u ≠ pwSet) (h1 : u ≠ pwGet) (h2 : u ≠ pwPut) (h3 : u ≠ pwOut) (h4 : u ≠ pwAtomic) (h5 : u ≠ pwIf) (h6 : u ≠ pwLoop) : Calls Tryz.prog 94 #[ptr br, .string u, ptr bl] w fun e w' => Fails 2 n bl w e w' := by
  have e0 : (u.toList == [115, 101, 116]) = false := by have := ba_ne h0; rwa [show (pwSet).toList = [115, 101, 116] from by rw [ByteArray.toList_eq]; rfl] at this
  have e1 : (u.toList == [103, 101, 116]) = false := by have := ba_ne h1; rwa [show (pwGet).toList = [103, 101, 116] from by rw [ByteArray.toList_eq]; rfl] at this
  have e2 : (u.toList == [112, 117, 116]) = false := by have := ba_ne h2; rwa [show (pwPut).toList = [112, 117, 116] from by rw [ByteArray.toList_eq]; rfl] at this
  have e3 : (u.toList == [111, 117, 116]) = false := by have := ba_ne h3; rwa [show (pwOut).toList = [111, 117, 116] from by rw [ByteArray.toList_eq]; rfl] at this
  have e4 : (u.toList == [97, 116, 111, 109, 105, 99]) = false := by have := ba_ne h4; rwa [show (pwAtomic).toList = [97, 116, 111, 109, 105, 99] from by rw [ByteArray.toList_eq]; rfl] at this
  have e5 : (u.toList == [105, 102]) = false := by have := ba_ne h5; rwa [show (pwIf).toList = [105, 102] from by rw [ByteArray.toList_eq]; rfl] at this
  have e6 : (u.toList == [108, 111, 111, 112]) = false := by have := ba_ne h6; rwa [show (pwLoop).toList = [108, 111, 111, 112] from by rw [ByteArray.toList_eq]; rfl] at this
  have H := hid h
  clear h h0 h1 h2 h3 h4 h5 h6
  go_enter Tryz.func94, Tryz.ntmps94
  go_wp2_with fail
  refine (fail_any H.out 2).mono ?_
  rintro e w1 ⟨bf, rfl, h1⟩
  exact ⟨rfl, bf, rfl, h1⟩

theorem readStmt_tot (h : LineAt w bl n bw ws) (hE : Hid (Env w)) (hbl : 10 ≤ bl) (hz : SzOk ws) (hS : Hid (SignsAt w br bs bl)) (u : ByteArray) : Calls Tryz.prog 94 #[ptr br, .string u, ptr bl] w fun e w' => StR bl n bw w (gStmt u ws) e w' := by
  unfold gStmt
  by_cases h0 : u = pwSet
  · rw [if_pos h0, h0]; exact rs_set (readSet_tot h hE hbl hz hS)
  rw [if_neg h0]
  by_cases h1 : u = pwGet
  · rw [if_pos h1, h1]
    unfold gGet
    cases g1 : gNm ws with
    | none => exact rs_get0 h hE hbl hz g1
    | some p =>
      obtain ⟨x, ws1⟩ := p
      simp only [Option.bind_some]
      cases g2 : gNm ws1 with
      | none => exact rs_get1 h hE hbl hz g1 g2
      | some q =>
        obtain ⟨y, ws2⟩ := q
        simp only [Option.bind_some]
        cases g3 : gAt ws2 with
        | none => exact rs_get2 h hE hbl hz g1 g2 g3
        | some r => exact rs_get h hE hbl hz g1 g2 g3
  rw [if_neg h1]
  by_cases h2 : u = pwPut
  · rw [if_pos h2, h2]
    unfold gPut
    cases g1 : gNm ws with
    | none => exact rs_put0 h hE hbl hz g1
    | some p =>
      obtain ⟨x, ws1⟩ := p
      simp only [Option.bind_some]
      cases g2 : gPV ws1 with
      | none => exact rs_put1 h hE hbl hz g1 g2
      | some q =>
        obtain ⟨y, ws2⟩ := q
        simp only [Option.bind_some]
        cases g3 : gAt ws2 with
        | none => exact rs_put2 h hE hbl hz g1 g2 g3
        | some r => exact rs_put h hE hbl hz g1 g2 g3
  rw [if_neg h2]
  by_cases h3 : u = pwOut
  · rw [if_pos h3, h3]
    cases g1 : gPV ws with
    | none => exact rs_out0 h hE hbl hz g1
    | some p => exact rs_out h hE hbl hz g1
  rw [if_neg h3]
  by_cases h4 : u = pwAtomic
  · rw [if_pos h4, h4]
    exact rs_atomic h hE hbl hz
  rw [if_neg h4]
  by_cases h5 : u = pwIf
  · rw [if_pos h5, h5]
    cases g1 : gPV ws with
    | none => exact rs_if0 h hE hbl hz g1
    | some p => exact rs_if h hE hbl hz g1
  rw [if_neg h5]
  by_cases h6 : u = pwLoop
  · rw [if_pos h6, h6]
    cases g1 : gIn 1 4 ws with
    | none => exact rs_loop0 h hE hbl hz g1
    | some p => exact rs_loop h hE hbl hz g1
  rw [if_neg h6]
  exact rs_none h h0 h1 h2 h3 h4 h5 h6
end
end Go.Proofs.YtfhkfnoajbbfdabGreatDoor

/- The reader of a program, as it lies. -/
namespace Go.Proofs.YtfhkfnoajbbfdabGreatDoor
open Go.RowKit

/-- What stands in a holder: a statement, or another holder. -/
abbrev En := St ⊕ Nat
abbrev En.leaf (s : St) : En := .inl s
abbrev En.sub (j : Nat) : En := .inr j

/-- What statements are laid into: a thread (its local variables, how many statements), or a statement. -/
abbrev HK := (List ByteArray × Nat) ⊕ St
abbrev HK.thr (l : List ByteArray) (c : Nat) : HK := .inl (l, c)
abbrev HK.st (s : St) : HK := .inr s

structure Hd where
  k : HK
  ents : List En

/-- What is known of a program up to a line. -/
structure RS where
  shared : List (ByteArray × Int × Int)
  cells : Int
  hs : List Hd
  threads : List Nat
  opn : List Nat

def stV : St → Value
  | .inl (to, a) => .iface 328 (.agg #[.string to, .string a.name, .int .i64 a.num])
  | .inr (.inl (to, o, a, b)) => .iface 332 (.agg #[.string to, .int .i64 o, .string a.name, .int .i64 a.num, .string b.name, .int .i64 b.num])
  | .inr (.inr (.inl (to, of, a))) => .iface 307 (.agg #[.string to, .string of, .string a.name, .int .i64 a.num])
  | .inr (.inr (.inr (.inl (of, a, b)))) => .iface 309 (.agg #[.string of, .string a.name, .int .i64 a.num, .string b.name, .int .i64 b.num])
  | .inr (.inr (.inr (.inr (.inl a)))) => .iface 311 (.agg #[.string a.name, .int .i64 a.num])
  | _ => .nilIface

/-- A holder's pointer's type; its own, and how many cells. -/
def hkT : HK → TypeId
  | .inl (_, _) => 152
  | .inr (.inr (.inr (.inr (.inr (.inr (.inl ())))))) => 231
  | .inr (.inr (.inr (.inr (.inr (.inr (.inr (.inl _))))))) => 312
  | .inr (.inr (.inr (.inr (.inr (.inr (.inr (.inr _))))))) => 315
  | .inr _ => 0
def hkSh : HK → TypeId × Nat
  | .inl (_, _) => (159, 3)
  | .inr (.inr (.inr (.inr (.inr (.inr (.inl ())))))) => (234, 1)
  | .inr (.inr (.inr (.inr (.inr (.inr (.inr (.inl _))))))) => (314, 3)
  | .inr (.inr (.inr (.inr (.inr (.inr (.inr (.inr _))))))) => (317, 2)
  | .inr _ => (0, 0)

def locF (l : List ByteArray) (u : ByteArray) : Option Value := (l.findIdx? fun x => decide (x = u)).map fun (k : Nat) => Value.int .i64 (k : Int)
def shF (l : List (ByteArray × Int × Int)) (u : ByteArray) : Option Value := (l.find? fun p => decide (p.1 = u)).map fun p => .agg #[.int .i64 p.2.1, .int .i64 p.2.2]

structure HM where
  b : Nat
  rv : Value
  mb : Nat
  h : Hd

abbrev Ids := List (TypeId × Nat)
def idsOf (ms : List HM) : Ids := ms.map fun m => (hkT m.h.k, m.b)
def idV (ids : Ids) (j : Nat) : Value := match ids[j]? with | some p => .iface p.1 (ptr p.2) | none => .nilIface
def idP (ids : Ids) (j : Nat) : Value := match ids[j]? with | some p => ptr p.2 | none => .pointer none
def enV (ids : Ids) : En → Value
  | .inl s => stV s
  | .inr j => idV ids j

def HkAt (w : World) (b mb : Nat) : HK → Prop
  | .inl (l, c) => w.cell? ⟨b, 1, none⟩ = some (.map (some mb)) ∧ w.cell? ⟨b, 2, none⟩ = some (.int .i64 c) ∧ MapIs w mb (locF l) l.length
  | .inr (.inr (.inr (.inr (.inr (.inr (.inr (.inl a))))))) => w.cell? ⟨b, 1, none⟩ = some (.string a.name) ∧ w.cell? ⟨b, 2, none⟩ = some (.int .i64 a.num)
  | .inr (.inr (.inr (.inr (.inr (.inr (.inr (.inr n))))))) => w.cell? ⟨b, 1, none⟩ = some (.int .i64 n)
  | .inr _ => True

structure HdAt (w : World) (ids : Ids) (m : HM) : Prop where
  sh : w.shape? m.b = some (hkSh m.h.k)
  rc : w.cell? ⟨m.b, 0, none⟩ = some m.rv
  row : w.ownsRow 0 222 1 m.rv m.h.ents.length (m.h.ents.map (enV ids))
  kind : HkAt w m.b m.mb m.h.k
  free : ∀ j, w.frozen? ⟨m.b, j, none⟩ = false

def HK.isThr : HK → Prop
  | .inl (_, _) => True
  | .inr _ => False

structure LabH (D : Nat → Prop) (lab : Nat → Nat × Nat) (i : Nat) (m : HM) : Prop where
  b : lab m.b = (i + 1, 0) ∧ D m.b
  rv : ∀ g, m.rv.ownBlock = some g → lab g = (i + 1, 1) ∧ D g
  mb : m.h.k.isThr → lab m.mb = (i + 1, 2) ∧ D m.mb

section
variable {M : Nat → Nat → Prop} {D D' : Nat → Prop} {lab : Nat → Nat × Nat} {w w' : World} {ids : Ids} {m : HM} {b mb : Nat} {k : HK}

theorem HkAt.keep (h : HkAt w b mb k) (hb : b < w.heap.size) (hc : Chg M w w') (h1 : ∀ i, i = 1 ∨ i = 2 → ¬ M b i) (h2 : k.isThr → ∀ i, ¬ M mb i) : HkAt w' b mb k := by
  have c1 := hc.cell b 1 hb (h1 1 (.inl rfl))
  have c2 := hc.cell b 2 hb (h1 2 (.inr rfl))
  rcases k with ⟨l, c⟩ | ⟨to, a⟩ | ⟨to, k, a, c⟩ | ⟨to, f, a⟩ | ⟨f, a, c⟩ | a | ⟨⟩ | a | n
  · exact ⟨c1.trans h.1, c2.trans h.2.1, h.2.2.keep hc (h2 trivial)⟩
  · trivial
  · trivial
  · trivial
  · trivial
  · trivial
  · trivial
  · exact ⟨c1.trans h.1, c2.trans h.2⟩
  · exact c1.trans h

theorem HdAt.keep (h : HdAt w ids m) (hc : Chg M w w') (h1 : ∀ i, ¬ M m.b i) (h2 : ∀ g, m.rv.ownBlock = some g → ∀ i, ¬ M g i) (h3 : m.h.k.isThr → ∀ i, ¬ M m.mb i) : HdAt w' ids m := by
  have hb := lt_of_shape h.sh
  exact ⟨(hc.shape _ hb).trans h.sh, (hc.cell _ _ hb (h1 _)).trans h.rc, ownsRow_chg h.row hc h2, h.kind.keep hb hc (fun i _ => h1 i) h3, fun j => (hc.frozen _ _ hb).trans (h.free j)⟩

theorem HdAt.mblt (h : HdAt w ids m) (ht : m.h.k.isThr) : m.mb < w.heap.size := by
  have := h.kind
  cases hk : m.h.k with
  | inl x => rw [hk] at this; exact this.2.2.lt
  | inr s => rw [hk] at ht; exact ht.elim

theorem LabH.newD {i : Nat} (l : LabH D lab i m) (h : HdAt w ids m) (hD : ∀ k, D k → k < w.heap.size → D' k) : LabH D' lab i m :=
  ⟨⟨l.b.1, hD _ l.b.2 (lt_of_shape h.sh)⟩, fun g hg => ⟨(l.rv g hg).1, hD _ (l.rv g hg).2 (h.row.lt g hg).2⟩, fun ht => ⟨(l.mb ht).1, hD _ (l.mb ht).2 (h.mblt ht)⟩⟩

/-- Entries and holders read alike where there are more holders. -/
theorem idV_app (ids x : Ids) (j : Nat) (hj : j < ids.length) : idV (ids ++ x) j = idV ids j := by unfold idV; rw [List.getElem?_append_left hj]
theorem idP_app (ids x : Ids) (j : Nat) (hj : j < ids.length) : idP (ids ++ x) j = idP ids j := by unfold idP; rw [List.getElem?_append_left hj]
end

structure RMach (D : Nat → Prop) (lab : Nat → Nat × Nat) (w : World) (br sb bs : Nat) (tv ov : Value) (st : RS) (ms : List HM) : Prop where
  sh : w.shape? br = some (146, 5)
  c0 : w.cell? ⟨br, 0, none⟩ = some (.map (some sb))
  c1 : w.cell? ⟨br, 1, none⟩ = some tv
  c2 : w.cell? ⟨br, 2, none⟩ = some (.int .i64 st.cells)
  c3 : w.cell? ⟨br, 3, none⟩ = some ov
  c4 : w.cell? ⟨br, 4, none⟩ = some (.map (some bs))
  free : ∀ j, w.frozen? ⟨br, j, none⟩ = false
  mS : MapIs w sb (shF st.shared) st.shared.length
  mG : MapIs w bs signF 12
  trow : w.ownsRow 0 152 1 tv st.threads.length (st.threads.map (idP (idsOf ms)))
  orow : w.ownsRow 0 322 1 ov st.opn.length (st.opn.map (idV (idsOf ms)))
  hd : ∀ i (h : i < ms.length), HdAt w (idsOf ms) ms[i]
  hs : ms.map (·.h) = st.hs
  lbr : lab br = (0, 0) ∧ D br
  lsb : lab sb = (0, 1) ∧ D sb
  ltv : ∀ g, tv.ownBlock = some g → lab g = (0, 2) ∧ D g
  lov : ∀ g, ov.ownBlock = some g → lab g = (0, 3) ∧ D g
  lbs : lab bs = (0, 4) ∧ D bs
  lhd : ∀ i (h : i < ms.length), LabH D lab i ms[i]

section
variable {M : Nat → Nat → Prop} {D D' : Nat → Prop} {lab : Nat → Nat × Nat} {w w' : World} {br sb bs : Nat} {tv ov : Value} {st : RS} {ms : List HM}

theorem RMach.keep (h : RMach D lab w br sb bs tv ov st ms) (hc : Chg M w w') (hM : ∀ k i, D k → ¬ M k i) : RMach D lab w' br sb bs tv ov st ms := by
  have hb := lt_of_shape h.sh
  have kb : ∀ i, ¬ M br i := fun i => hM br i h.lbr.2
  exact {
    sh := (hc.shape _ hb).trans h.sh, c0 := (hc.cell _ _ hb (kb _)).trans h.c0, c1 := (hc.cell _ _ hb (kb _)).trans h.c1, c2 := (hc.cell _ _ hb (kb _)).trans h.c2, c3 := (hc.cell _ _ hb (kb _)).trans h.c3, c4 := (hc.cell _ _ hb (kb _)).trans h.c4
    free := fun j => (hc.frozen _ _ hb).trans (h.free j)
    mS := h.mS.keep hc (fun i => hM _ i h.lsb.2)
    mG := h.mG.keep hc (fun i => hM _ i h.lbs.2)
    trow := ownsRow_chg h.trow hc (fun g hg i => hM g i (h.ltv g hg).2)
    orow := ownsRow_chg h.orow hc (fun g hg i => hM g i (h.lov g hg).2)
    hd := fun i hi => (h.hd i hi).keep hc (fun j => hM _ j (h.lhd i hi).b.2) (fun g hg j => hM g j ((h.lhd i hi).rv g hg).2) (fun ht j => hM _ j ((h.lhd i hi).mb ht).2)
    hs := h.hs, lbr := h.lbr, lsb := h.lsb, ltv := h.ltv, lov := h.lov, lbs := h.lbs, lhd := h.lhd }

theorem RMach.below (h : RMach D lab w br sb bs tv ov st ms) (hb : Below w.heap.size w w') : RMach D lab w' br sb bs tv ov st ms := h.keep (M := fun _ _ => False) (Chg.of_below hb) (fun _ _ _ e => e)

theorem RMach.newD (h : RMach D lab w br sb bs tv ov st ms) (hD : ∀ k, D k → k < w.heap.size → D' k) : RMach D' lab w br sb bs tv ov st ms := {
  sh := h.sh, c0 := h.c0, c1 := h.c1, c2 := h.c2, c3 := h.c3, c4 := h.c4, free := h.free, mS := h.mS, mG := h.mG, trow := h.trow, orow := h.orow, hd := h.hd, hs := h.hs
  lbr := ⟨h.lbr.1, hD _ h.lbr.2 (lt_of_shape h.sh)⟩
  lsb := ⟨h.lsb.1, hD _ h.lsb.2 h.mS.lt⟩
  ltv := fun g hg => ⟨(h.ltv g hg).1, hD _ (h.ltv g hg).2 (h.trow.lt g hg).2⟩
  lov := fun g hg => ⟨(h.lov g hg).1, hD _ (h.lov g hg).2 (h.orow.lt g hg).2⟩
  lbs := ⟨h.lbs.1, hD _ h.lbs.2 h.mG.lt⟩
  lhd := fun i hi => (h.lhd i hi).newD (h.hd i hi) hD }

theorem RMach.len (h : RMach D lab w br sb bs tv ov st ms) : ms.length = st.hs.length := by rw [← h.hs]; simp
theorem RMach.idl (h : RMach D lab w br sb bs tv ov st ms) : (idsOf ms).length = st.hs.length := by rw [← h.len]; simp [idsOf]
end
end Go.Proofs.YtfhkfnoajbbfdabGreatDoor

/- The coder of one thread, as it lies. -/
namespace Go.Proofs.YtfhkfnoajbbfdabGreatDoor
open Go.RowKit

/-- What is known of a block of the program, while it is coded. -/
structure Bk where
  gets : List Bool
  puts : List Bool
  chgs : List Bool
  gives : Bool
  again : Nat
  undo : List Nat

/-- The code of a thread, as far as it is written: its lines; those that leap to the trap; how many loops are open; the block; how much was done. -/
structure Ck where
  L : List ByteArray
  T : List Nat
  loops : Nat
  blk : Option Bk
  g : Nat

/-- What is written is no longer than what was done; leaps stand in lines. -/
structure Ck.Ok (s : Ck) : Prop where
  l : s.L.length ≤ s.g
  z : ∀ l ∈ s.L, l.size ≤ 200 + 30 * s.g
  t : s.T.length ≤ s.g
  tb : ∀ n ∈ s.T, n < s.L.length
  u : ∀ k, s.blk = some k → k.undo.length ≤ s.g ∧ ∀ n ∈ k.undo, n < s.L.length

/-- What a thread's coder is told: shared variables, local ones, the thread's number; the two maps' blocks. -/
structure Cx where
  sh : List (ByteArray × Int × Int)
  loc : List ByteArray
  th : Nat
  sb : Nat
  lb : Nat

structure Cm where
  lab : Nat → Nat
  lv : Value
  tv : Value
  TV : List Value
  b : Nat
  uv : Value
  UV : List Value

/-- What leaps to line n. -/
def IsLeap (lab : Nat → Nat) (w : World) (c : Nat) (f : Value) (n : Nat) : Prop := ∃ bl ba, f = .func (.func 194) #[] #[ptr bl, ptr ba] ∧ (bl < w.heap.size ∧ lab bl = 0 ∧ w.cell? ⟨bl, 0, none⟩ = some (ptr c)) ∧ (ba < w.heap.size ∧ lab ba = 0 ∧ w.cell? ⟨ba, 0, none⟩ = some (.int .i64 n))

def Leaps (lab : Nat → Nat) (w : World) (c : Nat) (F : List Value) (N : List Nat) : Prop := F.length = N.length ∧ ∀ (i : Nat) f n, F[i]? = some f → N[i]? = some n → IsLeap lab w c f n

structure BkAt (m : Cm) (w : World) (c : Nat) (k : Bk) : Prop where
  sh : w.shape? m.b = some (375, 19)
  g : ∀ (i : Nat) v, k.gets[i]? = some v → w.cell? ⟨m.b, i, none⟩ = some (.bool v)
  p : ∀ (i : Nat) v, k.puts[i]? = some v → w.cell? ⟨m.b, 6 + i, none⟩ = some (.bool v)
  ch : ∀ (i : Nat) v, k.chgs[i]? = some v → w.cell? ⟨m.b, 12 + i, none⟩ = some (.bool v)
  gv : w.cell? ⟨m.b, 16, none⟩ = some (.bool k.gives)
  ag : w.cell? ⟨m.b, 17, none⟩ = some (.int .i64 k.again)
  un : w.cell? ⟨m.b, 18, none⟩ = some m.uv
  free : ∀ j, w.frozen? ⟨m.b, j, none⟩ = false
  urow : w.ownsRow 0 1 1 m.uv k.undo.length m.UV
  ul : Leaps m.lab w c m.UV k.undo
  lbk : m.lab m.b = 4
  luv : ∀ g, m.uv.ownBlock = some g → m.lab g = 5
  n1 : k.gets.length = 6
  n2 : k.puts.length = 6
  n3 : k.chgs.length = 4

def blkV (m : Cm) (s : Ck) : Value := match s.blk with | some _ => ptr m.b | none => .pointer none

/-- What lies ahead of the coder, and stays. -/
structure CBase (W : World) (x : Cx) : Prop where
  mS : MapIs W x.sb (shF x.sh) x.sh.length
  mL : MapIs W x.lb (locF x.loc) x.loc.length
  tab : ∀ w, Below W.heap.size W w → Lib.TabIs Tryz.prog w "internal/strconv.uint64pow10" .u64 Lib.pow10Tab
  th : x.th ≤ 3
  ln : x.loc.length ≤ 4

/-- The coder of one thread, as it lies; K: cells that stay. -/
structure Cd (W : World) (x : Cx) (K : List (Nat × Nat × Value)) (m : Cm) (w : World) (c : Nat) (s : Ck) : Prop where
  base : CBase W x
  ok : s.Ok
  low : Below W.heap.size W w
  sh : w.shape? c = some (166, 7)
  c0 : w.cell? ⟨c, 0, none⟩ = some m.lv
  c1 : w.cell? ⟨c, 1, none⟩ = some (.map (some x.sb))
  c2 : w.cell? ⟨c, 2, none⟩ = some (.map (some x.lb))
  c3 : w.cell? ⟨c, 3, none⟩ = some (.int .i64 x.th)
  c4 : w.cell? ⟨c, 4, none⟩ = some (.int .i64 s.loops)
  c5 : w.cell? ⟨c, 5, none⟩ = some (blkV m s)
  c6 : w.cell? ⟨c, 6, none⟩ = some m.tv
  free : ∀ j, w.frozen? ⟨c, j, none⟩ = false
  lrow : w.ownsRow 0 9 1 m.lv s.L.length (s.L.map .string)
  trow : w.ownsRow 0 1 1 m.tv s.T.length m.TV
  tl : Leaps m.lab w c m.TV s.T
  bk : ∀ k, s.blk = some k → BkAt m w c k
  kp : ∀ p ∈ K, p.1 < w.heap.size ∧ m.lab p.1 = 0 ∧ w.cell? ⟨p.1, p.2.1, none⟩ = some p.2.2
  lz : ∀ k, w.heap.size ≤ k → m.lab k = 0
  lo : ∀ k, k < W.heap.size → m.lab k = 0
  lc : m.lab c = 1
  llv : ∀ g, m.lv.ownBlock = some g → m.lab g = 2
  ltv : ∀ g, m.tv.ownBlock = some g → m.lab g = 3

section
variable {W w w' : World} {x : Cx} {K : List (Nat × Nat × Value)} {m m' : Cm} {c : Nat} {s s' : Ck} {M : Nat → Nat → Prop} {lab lab' : Nat → Nat} {f : Value} {n : Nat}

theorem IsLeap.keep (h : IsLeap lab w c f n) (hc : Chg M w w') (hM : ∀ k j, k < w.heap.size → M k j → lab k ≠ 0) (hl : ∀ k, k < w.heap.size → lab k = 0 → lab' k = 0) : IsLeap lab' w' c f n := by
  obtain ⟨bl, ba, e, ⟨h1, h2, h3⟩, h4, h5, h6⟩ := h
  exact ⟨bl, ba, e, ⟨Nat.lt_of_lt_of_le h1 hc.size, hl _ h1 h2, (hc.cell _ _ h1 fun e => hM _ _ h1 e h2).trans h3⟩, Nat.lt_of_lt_of_le h4 hc.size, hl _ h4 h5, (hc.cell _ _ h4 fun e => hM _ _ h4 e h5).trans h6⟩

theorem Leaps.keep {F : List Value} {N : List Nat} (h : Leaps lab w c F N) (hc : Chg M w w') (hM : ∀ k j, k < w.heap.size → M k j → lab k ≠ 0) (hl : ∀ k, k < w.heap.size → lab k = 0 → lab' k = 0) : Leaps lab' w' c F N :=
  ⟨h.1, fun i f n hf hn => (h.2 i f n hf hn).keep hc hM hl⟩

theorem Leaps.push {F : List Value} {N : List Nat} (h : Leaps lab w c F N) (hf : IsLeap lab w c f n) : Leaps lab w c (F ++ [f]) (N ++ [n]) := by
  refine ⟨by simp [h.1], fun i f' n' hf' hn' => ?_⟩
  by_cases hi : i < F.length
  · rw [List.getElem?_append_left hi] at hf'
    rw [List.getElem?_append_left (h.1 ▸ hi)] at hn'
    exact h.2 i f' n' hf' hn'
  · rw [List.getElem?_append_right (by omega)] at hf'
    rw [List.getElem?_append_right (by have := h.1; omega)] at hn'
    rw [← h.1] at hn'
    generalize i - F.length = j at hf' hn'
    cases j with
    | zero =>
      simp only [List.getElem?_cons_zero, Option.some.injEq] at hf' hn'
      rw [← hf', ← hn']; exact hf
    | succ j => simp at hf'

/-- The block is as it was. -/
theorem BkAt.keep {k : Bk} (h : BkAt m w c k) (hc : Chg M w w') (hM : ∀ k j, k < w.heap.size → M k j → m.lab k ≠ 0) (h1 : ∀ j, ¬ M m.b j) (h2 : ∀ g, m.uv.ownBlock = some g → ∀ j, ¬ M g j) (hl : ∀ k, k < w.heap.size → m'.lab k = m.lab k) (e1 : m'.b = m.b) (e2 : m'.uv = m.uv) (e3 : m'.UV = m.UV) : BkAt m' w' c k := by
  have hb := lt_of_shape h.sh
  have cc : ∀ j, w'.cell? ⟨m.b, j, none⟩ = w.cell? ⟨m.b, j, none⟩ := fun j => hc.cell _ _ hb (h1 j)
  have hl0 : ∀ k, k < w.heap.size → m.lab k = 0 → m'.lab k = 0 := fun k hk e => (hl k hk).trans e
  refine ⟨?_, ?_, ?_, ?_, ?_, ?_, ?_, ?_, ?_, ?_, ?_, ?_, h.n1, h.n2, h.n3⟩ <;> (try rw [e1]) <;> (try rw [e2]) <;> (try rw [e3])
  · exact (hc.shape _ hb).trans h.sh
  · intro i v hv; exact (cc _).trans (h.g i v hv)
  · intro i v hv; exact (cc _).trans (h.p i v hv)
  · intro i v hv; exact (cc _).trans (h.ch i v hv)
  · exact (cc _).trans h.gv
  · exact (cc _).trans h.ag
  · exact (cc _).trans h.un
  · intro j; exact (hc.frozen _ _ hb).trans (h.free j)
  · exact ownsRow_chg h.urow hc h2
  · exact h.ul.keep hc hM hl0
  · exact (hl _ hb).trans h.lbk
  · intro g hg; exact (hl _ (h.urow.lt g hg).2).trans (h.luv g hg)

/-- What lies ahead is as it was. -/
theorem Cd.belowW (h : Cd W x K m w c s) (hc : Chg M w w') (hM : ∀ k j, k < w.heap.size → M k j → m.lab k ≠ 0) : Below W.heap.size W w' :=
  h.low.trans ((hc.mono (M' := fun k _ => W.heap.size ≤ k) (fun k j hk e => by
    by_cases hl : k < W.heap.size
    · exact (hM k j hk e (h.lo k hl)).elim
    · exact Nat.le_of_not_lt hl)).below h.low.size (fun _ _ e => e))

/-- The coder turned: what stays of it. -/
theorem Cd.turn (h : Cd W x K m w c s) (ok : s'.Ok) (hc : Chg M w w') (hM : ∀ k j, k < w.heap.size → M k j → m.lab k ≠ 0 ∧ (k = c → j ≠ 1 ∧ j ≠ 2 ∧ j ≠ 3)) (hl : ∀ k, k < w.heap.size → m'.lab k = m.lab k) (hz : ∀ k, w'.heap.size ≤ k → m'.lab k = 0)
    (c0 : w'.cell? ⟨c, 0, none⟩ = some m'.lv) (c4 : w'.cell? ⟨c, 4, none⟩ = some (.int .i64 s'.loops)) (c5 : w'.cell? ⟨c, 5, none⟩ = some (blkV m' s')) (c6 : w'.cell? ⟨c, 6, none⟩ = some m'.tv)
    (lrow : w'.ownsRow 0 9 1 m'.lv s'.L.length (s'.L.map .string)) (trow : w'.ownsRow 0 1 1 m'.tv s'.T.length m'.TV) (tl : Leaps m'.lab w' c m'.TV s'.T) (bk : ∀ k, s'.blk = some k → BkAt m' w' c k)
    (llv : ∀ g, m'.lv.ownBlock = some g → m'.lab g = 2) (ltv : ∀ g, m'.tv.ownBlock = some g → m'.lab g = 3) : Cd W x K m' w' c s' := by
  have lb := lt_of_shape h.sh
  have kc : ∀ j, j = 1 ∨ j = 2 ∨ j = 3 → w'.cell? ⟨c, j, none⟩ = w.cell? ⟨c, j, none⟩ := fun j hj => hc.cell _ _ lb fun e => by
    have := (hM c j lb e).2 rfl
    omega
  exact {
    base := h.base, ok := ok, low := h.belowW hc (fun k j hk e => (hM k j hk e).1)
    sh := (hc.shape _ lb).trans h.sh
    c0 := c0, c1 := (kc 1 (by omega)).trans h.c1, c2 := (kc 2 (by omega)).trans h.c2, c3 := (kc 3 (by omega)).trans h.c3, c4 := c4, c5 := c5, c6 := c6
    free := fun j => (hc.frozen _ _ lb).trans (h.free j)
    lrow := lrow, trow := trow, tl := tl, bk := bk
    kp := fun p hp => by
      obtain ⟨h1, h2, h3⟩ := h.kp p hp
      exact ⟨Nat.lt_of_lt_of_le h1 hc.size, (hl _ h1).trans h2, (hc.cell _ _ h1 fun e => (hM _ _ h1 e).1 h2).trans h3⟩
    lz := hz
    lo := fun k hk => (hl k (Nat.lt_of_lt_of_le hk h.low.size)).trans (h.lo k hk)
    lc := (hl _ lb).trans h.lc
    llv := llv, ltv := ltv }

/-- More lies behind it. -/
theorem Cd.below (h : Cd W x K m w c s) (hb : Below w.heap.size w w') : Cd W x K m w' c s := by
  have hc : Chg (fun _ _ => False) w w' := Chg.of_below hb
  have lb := lt_of_shape h.sh
  exact h.turn h.ok hc (fun _ _ _ e => e.elim) (fun _ _ => rfl) (fun k hk => h.lz k (Nat.le_trans hb.size hk)) ((hc.cell _ _ lb id).trans h.c0) ((hc.cell _ _ lb id).trans h.c4) ((hc.cell _ _ lb id).trans h.c5) ((hc.cell _ _ lb id).trans h.c6)
    (ownsRow_chg h.lrow hc (fun _ _ _ e => e)) (ownsRow_chg h.trow hc (fun _ _ _ e => e)) (h.tl.keep hc (fun _ _ _ e => e.elim) (fun _ _ e => e)) (fun k hk => (h.bk k hk).keep hc (fun _ _ _ e => e.elim) (fun _ e => e) (fun _ _ _ e => e) (fun _ _ => rfl) rfl rfl rfl) h.llv h.ltv

/-- A cell more that stays. -/
theorem Cd.more (h : Cd W x K m w c s) {b o : Nat} {v : Value} (h1 : b < w.heap.size) (h2 : m.lab b = 0) (h3 : w.cell? ⟨b, o, none⟩ = some v) : Cd W x ((b, o, v) :: K) m w c s :=
  { h with kp := fun p hp => (List.mem_cons.1 hp).elim (fun e => e ▸ ⟨h1, h2, h3⟩) (h.kp p) }

theorem Cd.less (h : Cd W x K m w c s) {K' : List (Nat × Nat × Value)} (hK : ∀ p ∈ K', p ∈ K) : Cd W x K' m w c s :=
  { h with kp := fun p hp => h.kp p (hK p hp) }

theorem Cd.lt (h : Cd W x K m w c s) : c < w.heap.size := lt_of_shape h.sh
end

def Cw (W : World) (x : Cx) (K : List (Nat × Nat × Value)) (w : World) (c : Nat) (s : Ck) : Prop := ∃ m, Cd W x K m w c s

section
variable {W w w' : World} {x : Cx} {K : List (Nat × Nat × Value)} {c : Nat} {s s' : Ck}

theorem Cw.below (h : Cw W x K w c s) (hb : Below w.heap.size w w') : Cw W x K w' c s := let ⟨m, h⟩ := h; ⟨m, h.below hb⟩
theorem Cw.less (h : Cw W x K w c s) {K' : List (Nat × Nat × Value)} (hK : ∀ p ∈ K', p ∈ K) : Cw W x K' w c s := let ⟨m, h⟩ := h; ⟨m, h.less hK⟩
theorem Cw.lt (h : Cw W x K w c s) : c < w.heap.size := let ⟨_, h⟩ := h; h.lt
theorem Cw.kept (h : Cw W x K w c s) {b o : Nat} {v : Value} (hp : (b, o, v) ∈ K) : w.cell? ⟨b, o, none⟩ = some v := let ⟨_, h⟩ := h; (h.kp _ hp).2.2
theorem Cw.tab (h : Cw W x K w c s) : Lib.TabIs Tryz.prog w "internal/strconv.uint64pow10" .u64 Lib.pow10Tab := let ⟨_, h⟩ := h; h.base.tab w h.low

end
end Go.Proofs.YtfhkfnoajbbfdabGreatDoor

/- The code of a program, purely: what each part of the coder writes. -/
namespace Go.Proofs.YtfhkfnoajbbfdabGreatDoor
open Go.RowKit

def joinW (sep : UInt8) (ws : List ByteArray) : ByteArray := ⟨(Lib.join (ws.map (·.data.toList)) [sep]).toArray⟩
def dec (n : Int) : ByteArray := ⟨(Lib.itoa n).toArray⟩

theorem dec_size (n : Int) (h0 : -9223372036854775808 ≤ n) (h1 : n ≤ 9223372036854775807) : (dec n).size ≤ 21 := by
  have := Lib.itoa_length_le n h0 h1
  simpa [dec, ByteArray.size] using this

abbrev yR4 : ByteArray := ⟨#[114, 52]⟩
abbrev yR5 : ByteArray := ⟨#[114, 53]⟩
abbrev yR6 : ByteArray := ⟨#[114, 54]⟩
abbrev yR7 : ByteArray := ⟨#[114, 55]⟩
abbrev y0 : ByteArray := ⟨#[48]⟩
abbrev y1 : ByteArray := ⟨#[49]⟩
abbrev yM1 : ByteArray := ⟨#[45, 49]⟩
abbrev yMov : ByteArray := ⟨#[109, 111, 118]⟩
abbrev yLoad : ByteArray := ⟨#[108, 111, 97, 100]⟩
abbrev yStore : ByteArray := ⟨#[115, 116, 111, 114, 101]⟩
abbrev yAdd : ByteArray := ⟨#[97, 100, 100]⟩
abbrev ySub : ByteArray := ⟨#[115, 117, 98]⟩
abbrev yLt : ByteArray := ⟨#[108, 116]⟩
abbrev yEq : ByteArray := ⟨#[101, 113]⟩
abbrev yJz : ByteArray := ⟨#[106, 122]⟩
abbrev yJmp : ByteArray := ⟨#[106, 109, 112]⟩
abbrev yOut : ByteArray := ⟨#[111, 117, 116]⟩
abbrev yXadd : ByteArray := ⟨#[120, 97, 100, 100]⟩
abbrev yCas : ByteArray := ⟨#[99, 97, 115]⟩
abbrev yFence : ByteArray := ⟨#[102, 101, 110, 99, 101]⟩
abbrev yHalt : ByteArray := ⟨#[104, 97, 108, 116]⟩
abbrev yTrap : ByteArray := ⟨#[116, 114, 97, 112]⟩
abbrev ySp : ByteArray := ⟨#[32]⟩

/-- A line more. -/
def Ck.add (s : Ck) (ws : List ByteArray) : Ck := { s with L := s.L ++ [joinW 32 ws], g := s.g + 1 }
/-- The leap in line n leads to where the next line will be. -/
def Ck.land (s : Ck) (n : Nat) : Ck := { s with L := s.L.set n ((s.L[n]?).getD ⟨#[]⟩ ++ (ySp ++ dec s.L.length)), g := s.g + 1 }
def Ck.lands (s : Ck) (ns : List Nat) : Ck := ns.foldl Ck.land s
def Ck.back (s : Ck) (n : Nat) : Ck := s.add [yJmp, dec n]
def Ck.trapIf (s : Ck) : Ck := { s.add [yJz, yR4] with T := s.T ++ [s.L.length] }
def Ck.bk (s : Ck) : Bk := s.blk.getD ⟨[], [], [], false, 0, []⟩
def Ck.undoIf (s : Ck) : Ck := { s.add [yJz, yR4] with blk := some { s.bk with undo := s.bk.undo ++ [s.L.length] } }

def regW (n : Int) : ByteArray := ⟨#[114]⟩ ++ dec n
theorem reg_size (n : Int) (h0 : -9223372036854775808 ≤ n) (h1 : n ≤ 9223372036854775807) : (regW n).size ≤ 22 := by
  have := dec_size n h0 h1
  simp only [regW, ByteArray.size_append]
  have : (ByteArray.mk #[114]).size = 1 := rfl
  omega

def Cx.own (x : Cx) (k : Int) : ByteArray := dec (13 + (x.th : Int) * 39 + k)
def verW (k : Int) : ByteArray := dec (6 + k)
def Cx.lock (x : Cx) : ByteArray := dec (9223372036854775807 - (x.th : Int))
def Cx.locI (x : Cx) (u : ByteArray) : Nat := (x.loc.findIdx? fun y => decide (y = u)).getD 0
def Cx.local (x : Cx) (u : ByteArray) : ByteArray := regW (x.locI u)
def Cx.val (x : Cx) (a : PV) : ByteArray := if a.name = ⟨#[]⟩ then dec a.num else x.local a.name
def Cx.var (x : Cx) (u : ByteArray) : Int × Int := ((x.sh.find? fun p => decide (p.1 = u)).map (·.2)).getD (0, 0)

/-- Something done for each that is marked, from number i on. -/
def eachB (f : Nat → Ck → Ck) : List Bool → Nat → Ck → Ck
  | [], _, s => s
  | b :: r, i, s => eachB f r (i + 1) (if b = true then f i s else s)

def gIsEarly (at' : ByteArray) (first : Int) (s : Ck) : Ck := (s.add [yLoad, yR4, at', verW first]).add [yLt, yR4, yR4, yR6]

def Cx.begin (x : Cx) (s : Ck) : Ck :=
  let k := s.bk
  let s1 := eachB (fun i s => s.add [yStore, y0, x.own (32 + i), regW i]) k.chgs 0 s
  let s2 : Ck := { s1 with blk := some { k with again := s1.L.length } }
  let s3 := eachB (fun i s => s.add [yLoad, regW i, y0, x.own (32 + i)]) k.chgs 0 s2
  let s4 := (s3.add [yLoad, yR6, y0, dec 12]).add [yAdd, yR6, yR6, y1]
  let s5 := eachB (fun i s => s.add [yStore, y0, x.own (6 + i), y0]) k.puts 0 s4
  let s6 := eachB (fun i s => s.add [yStore, y0, x.own (12 + i), y0]) k.gets 0 s5
  s6.add [yMov, yR7, y0]

def Cx.readC (x : Cx) (to at' : ByteArray) (first : Int) (s : Ck) : Ck :=
  let again := dec s.bk.again
  let s1 := ((gIsEarly at' first s).add [yJz, yR4, again]).add [yLoad, yR5, at', dec first]
  (((gIsEarly at' first s1).add [yJz, yR4, again]).add [yStore, at', x.own (12 + first), y1]).add [yMov, to, yR5]

def Cx.check (x : Cx) (of : ByteArray) (a : PV) (s : Ck) : Ck :=
  let n := (x.var of).2
  if a.name = ⟨#[]⟩ ∧ 0 ≤ a.num ∧ a.num < n then s
  else (((s.add [yLt, yR4, yM1, x.val a]).trapIf).add [yLt, yR4, x.val a, dec n]).trapIf

def Cx.get (x : Cx) (to of : ByteArray) (a : PV) (s : Ck) : Ck :=
  let first := (x.var of).1
  let s1 := x.check of a s
  if (s.bk.puts[first.toNat]?).getD false = false then x.readC (x.local to) (x.val a) first s1
  else
    let s2 := s1.add [yLoad, yR4, x.val a, x.own (6 + first)]
    let s3 := s2.add [yJz, yR4]
    let s4 := s3.add [yLoad, x.local to, x.val a, x.own first]
    let s5 := s4.add [yJmp]
    (x.readC (x.local to) (x.val a) first (s5.land s2.L.length)).land s4.L.length

def Cx.put (x : Cx) (of : ByteArray) (a v : PV) (s : Ck) : Ck :=
  let first := (x.var of).1
  (((x.check of a s).add [yStore, x.val a, x.own first, x.val v]).add [yStore, x.val a, x.own (6 + first), y1]).add [yStore, x.val a, x.own (12 + first), y0]

def Cx.outC (x : Cx) (a : PV) (s : Ck) : Ck := match s.blk with
  | none => s.add [yOut, x.val a]
  | some _ => (s.add [yStore, yR7, x.own 24, x.val a]).add [yAdd, yR7, yR7, y1]

def Cx.lockC (x : Cx) (i : Int) (s : Ck) : Ck :=
  let s1 := s.add [yLoad, yR4, y0, x.own (6 + i)]
  let s2 := (((s1.add [yJz, yR4]).add [yLoad, yR5, y0, verW i]).add [yLt, yR4, yR5, yR6]).undoIf
  (((s2.add [yStore, y0, x.own (18 + i), yR5]).add [yCas, yR4, y0, verW i, yR5, x.lock]).undoIf).land s1.L.length

def Cx.lookC (x : Cx) (i : Int) (s : Ck) : Ck :=
  let s1 := s.add [yLoad, yR4, y0, x.own (12 + i)]
  ((gIsEarly y0 i (s1.add [yJz, yR4])).undoIf).land s1.L.length

def Cx.storeC (x : Cx) (i : Int) (s : Ck) : Ck :=
  let s1 := s.add [yLoad, yR4, y0, x.own (6 + i)]
  ((((s1.add [yJz, yR4]).add [yLoad, yR4, y0, x.own i]).add [yStore, y0, dec i, yR4]).add [yStore, y0, verW i, yR5]).land s1.L.length

def Cx.unlockC (x : Cx) (i : Int) (s : Ck) : Ck :=
  let s1 := (s.add [yLoad, yR4, y0, verW i]).add [yEq, yR4, yR4, x.lock]
  (((s1.add [yJz, yR4]).add [yLoad, yR4, y0, x.own (18 + i)]).add [yStore, y0, verW i, yR4]).land s1.L.length

def Cx.undoC (x : Cx) (s : Ck) : Ck :=
  let k := s.bk
  (eachB (fun i => x.unlockC i) k.puts 0 (s.lands k.undo)).back k.again

def Cx.commit (x : Cx) (s : Ck) : Ck :=
  let k := s.bk
  let s1 := eachB (fun i => x.lockC i) k.puts 0 s
  let s2 := (s1.add [yXadd, yR5, y0, dec 12, y1]).add [yAdd, yR5, yR5, y1]
  let s3 := eachB (fun i => x.lookC i) k.gets 0 s2
  let s4 := (eachB (fun i => x.storeC i) k.puts 0 s3).add [yFence]
  (x.undoC (s4.add [yJmp])).land s4.L.length

def Cx.give (x : Cx) (s : Ck) : Ck :=
  let s1 := s.add [yMov, yR4, y0]
  let s2 := s1.add [yLt, yR5, yR4, yR7]
  (((((s2.add [yJz, yR5]).add [yLoad, yR5, yR4, x.own 24]).add [yOut, yR5]).add [yAdd, yR4, yR4, y1]).back s1.L.length).land s2.L.length

/-- All cells of a variable marked. -/
def markB (l : List Bool) (v : Int × Int) : List Bool := (List.range v.2.toNat).foldl (fun l i => l.set (v.1.toNat + i) true) l

/-- What a statement within a block tells of it. -/
def Cx.seen (x : Cx) (k : Bk) : En → Bk
  | .inl (.inl (to, _)) => { k with chgs := k.chgs.set (x.locI to) true }
  | .inl (.inr (.inl (to, _))) => { k with chgs := k.chgs.set (x.locI to) true }
  | .inl (.inr (.inr (.inl (to, of, _)))) => { k with chgs := k.chgs.set (x.locI to) true, gets := markB k.gets (x.var of) }
  | .inl (.inr (.inr (.inr (.inl (of, _))))) => { k with puts := markB k.puts (x.var of) }
  | .inl (.inr (.inr (.inr (.inr (.inl _))))) => { k with gives := true }
  | _ => k

def bk0 : Bk := ⟨List.replicate 6 false, List.replicate 6 false, List.replicate 4 false, false, 0, []⟩

end Go.Proofs.YtfhkfnoajbbfdabGreatDoor
