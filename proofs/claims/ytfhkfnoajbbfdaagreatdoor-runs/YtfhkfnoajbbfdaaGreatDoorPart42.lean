import Derived.Test.YtfhkfnoajbbfdaaGreatDoorPart41
/- The document's locked instructions: xadd, cas. -/
namespace Go.Proofs.YtfhkfnoajbbfdaaGreatDoor
open Go.RowKit

theorem setR_setR (T : Th) (d : Nat) (u v : Int) : (T.setR d u).setR d v = T.setR d v := by
  unfold Th.setR
  congr 1
  funext j
  simp only
  split <;> rfl

theorem seen_none (a m : Int) : seenIn ([] : List (Int × Int)).reverse a m = m := by simp [seenIn]

section
variable {D : Nat → Prop} {lab : Nat → Nat × Nat} {w : World} {bm mb : Nat} {tv : Value} {m : Nat → Int} {ts : List CT}

set_option maxRecDepth 100000 in
set_option maxHeartbeats 1000000 in
theorem cMem_xadd (h : CMach D lab w bm mb tv m ts) (hD : ∀ k, w.heap.size ≤ k → D k) (k : Nat) (hk : k < ts.length) (d : Nat) (hd : d < 8) (x y z : Vl) (n : Int) (a : Nat) (ha : a < 256) (b : Int) (hql : ts[k].T.q.length < 1000) (hadr : ∀ p ∈ ts[k].T.q, 0 ≤ p.1 ∧ p.1 < 256) :
    Calls Tryz.prog 73 #[ptr bm, .int .i64 k, insAgg ⟨#[120, 97, 100, 100]⟩ d x y z n, .int .i64 a, .int .i64 b] w fun e w' => e = .returned (.tuple #[]) ∧ (∃ lab' wv', CMach D lab' w' bm mb tv (putM (drainM m ts[k].T.q) a (wrap64 (drainM m ts[k].T.q a + b))) (ts.set k { ts[k] with wv := wv', T := { ts[k].T with q := [] }.setR d (drainM m ts[k].T.q a) })) ∧ Chg (fun j _ => D j) w w' := by
  have H := hid h
  have HDR := hid (fun W (hW : CMach D lab W bm mb tv m ts) hDW => cDrain_any hW hDW k hk hadr hql)
  obtain ⟨tg, tk, rfl, p1, p2, _⟩ := thr_ptr h k hk
  have hc := h.tc
  have hmc := h.memc
  have hth := h.th k hk
  have hl := h.lts k hk
  have lbm := lt_of_shape h.sh
  have lmb := lt_of_shape h.msh
  have lb := lt_of_shape hth.sh
  have hk1 : (k : Int) < (ts.length : Int) := by omega
  have ha0 : ¬ (a : Int) < 0 := by omega
  have ha1 : (a : Int) < 256 := by omega
  have hd1 : (d : Int) < 8 := by omega
  clear h hth
  generalize hTb : ts[k].b = tb at *
  generalize hTr : ts[k].rb = rb at *
  generalize hm0 : drainM m ts[k].T.q = m2 at *
  go_enter Tryz.func73, Tryz.ntmps73
  go_wp2_with fail
  generalize hA : w.alloc _ = WA
  have bA : Below w.heap.size w WA := by rw [← hA]; exact (Below.refl _ w).alloc (Nat.le_refl _) _
  have sA : WA.heap.size = w.heap.size + 1 := by rw [← hA]; simp
  have iw : WA.cell? ⟨w.heap.size, 0, none⟩ = some (.string ⟨#[120, 97, 100, 100]⟩) := by rw [← hA]; exact World.cell?_alloc_new _ _ _ 0
  have id : WA.cell? ⟨w.heap.size, 1, none⟩ = some (.int .i64 d) := by rw [← hA]; exact World.cell?_alloc_new _ _ _ 1
  have HA := hid (H.out.below bA)
  have BA := hid bA
  have HSA := hid sA
  clear hA bA sA
  refine (HDR.out WA HA.out (fun j hj => hD j (by have := HSA.out; omega))).mono ?_
  rintro e W2 ⟨rfl, ⟨lab2, wv2, hm2⟩, hc2⟩
  have hks : k < (ts.set k { ts[k] with wv := wv2, T := { ts[k].T with q := [] } }).length := by simpa using hk
  have iw2 := (hc2.cell w.heap.size 0 (by have := HSA.out; omega) (by omega)).trans iw
  have id2 := (hc2.cell w.heap.size 1 (by have := HSA.out; omega) (by omega)).trans id
  have hth2 := hm2.th k hks
  have hl2 := hm2.lts k hks
  rw [set_get hk] at hth2 hl2
  have cr := hth2.regs
  have crd := hth2.rcell d hd
  have frd := hth2.rfree d hd
  have hmc2 := hm2.memc
  have hma := hm2.mcell a ha
  have hmf := hm2.mfree a ha
  simp only at cr crd frd
  rw [hTb, hTr] at cr
  rw [hTr] at crd frd
  have nmr : mb ≠ rb := fun e => by have := hl2.rb.1; simp only at this; rw [hTr, ← e, hm2.lm.1] at this; simp at this
  have nmb : mb ≠ tb := fun e => by have := hl2.b.1; simp only at this; rw [hTb, ← e, hm2.lm.1] at this; simp at this
  have nmi : mb ≠ w.heap.size := by omega
  have HRD := hid (cRead_is hm2 k hks a ha (by rw [set_get hk]; simp))
  rw [set_get hk, seen_none] at HRD
  have HM2 := hid hm2
  have HC2 : Hid (Chg (fun j _ => D j) WA W2) := hid (hc2.mono (fun j _ _ e => e.elim (fun e => e ▸ HA.out.lm.2) (fun e => e ▸ (hTb ▸ (HA.out.lts k hk).b.2))))
  clear hm2 hc2 hth2 hl2 iw id HDR
  go_wp2_with fail
  refine HRD.out.mono ?_
  rintro e W3 ⟨rfl, rfl⟩
  go_wp2_with fail
  go_region
  all_goals
    go_wp2
    go_end0
    have hts : ts.set k { ts[k] with wv := wv2, T := { ts[k].T with q := [] } } ≠ [] := by intro e; rw [e] at hks; simp at hks
    obtain ⟨r1, r2⟩ := cm_mem HM2.out hts a ha (wrap64 (m2 a + b))
    have key := cm_reg r1 k hks d hd (m2 a)
    rw [set_get hk] at key
    simp only [List.set_set] at key
    rw [hTr] at key
    have k1 := key.1.keep (M := fun _ _ => False) ((Chg.refl _ _).drew) (fun _ _ _ e => e)
    exact ⟨rfl, ⟨lab2, wv2, by simpa [hTr] using k1⟩, ((Chg.of_below BA.out).trans HC2.out).trans (r2.trans key.2).drew⟩
end
end Go.Proofs.YtfhkfnoajbbfdaaGreatDoor

/- The document's cas. -/
namespace Go.Proofs.YtfhkfnoajbbfdaaGreatDoor
open Go.RowKit

section
variable {D : Nat → Prop} {lab : Nat → Nat × Nat} {w : World} {bm mb : Nat} {tv : Value} {m : Nat → Int} {ts : List CT}

set_option maxRecDepth 100000 in
set_option maxHeartbeats 1000000 in
theorem cMem_cas0 (h : CMach D lab w bm mb tv m ts) (hD : ∀ k, w.heap.size ≤ k → D k) (k : Nat) (hk : k < ts.length) (d : Nat) (hd : d < 8) (x y z : Vl) (n : Int) (a : Nat) (ha : a < 256) (b : Int) (hql : ts[k].T.q.length < 1000) (hadr : ∀ p ∈ ts[k].T.q, 0 ≤ p.1 ∧ p.1 < 256) (hz : z.ok) (hv : ¬ drainM m ts[k].T.q a = b) :
    Calls Tryz.prog 73 #[ptr bm, .int .i64 k, insAgg ⟨#[99, 97, 115]⟩ d x y z n, .int .i64 a, .int .i64 b] w fun e w' => e = .returned (.tuple #[]) ∧ (∃ lab' wv', CMach D lab' w' bm mb tv (drainM m ts[k].T.q) (ts.set k { ts[k] with wv := wv', T := { ts[k].T with q := [] }.setR d 0 })) ∧ Chg (fun j _ => D j) w w' := by
  have H := hid h
  have HDR := hid (fun W (hW : CMach D lab W bm mb tv m ts) hDW => cDrain_any hW hDW k hk hadr hql)
  obtain ⟨tg, tk, rfl, p1, p2, _⟩ := thr_ptr h k hk
  have hc := h.tc
  have hmc := h.memc
  have hth := h.th k hk
  have hl := h.lts k hk
  have lbm := lt_of_shape h.sh
  have lmb := lt_of_shape h.msh
  have lb := lt_of_shape hth.sh
  have lrb := lt_of_shape hth.rsh
  have hk1 : (k : Int) < (ts.length : Int) := by omega
  have ha0 : ¬ (a : Int) < 0 := by omega
  have ha1 : (a : Int) < 256 := by omega
  have hd1 : (d : Int) < 8 := by omega
  clear h hth
  generalize hTb : ts[k].b = tb at *
  generalize hTr : ts[k].rb = rb at *
  generalize hm0 : drainM m ts[k].T.q = m2 at *
  go_enter Tryz.func73, Tryz.ntmps73
  go_wp2_with fail
  generalize hA : w.alloc _ = WA
  have bA : Below w.heap.size w WA := by rw [← hA]; exact (Below.refl _ w).alloc (Nat.le_refl _) _
  have sA : WA.heap.size = w.heap.size + 1 := by rw [← hA]; simp
  have iw : WA.cell? ⟨w.heap.size, 0, none⟩ = some (.string ⟨#[99, 97, 115]⟩) := by rw [← hA]; exact World.cell?_alloc_new _ _ _ 0
  have id : WA.cell? ⟨w.heap.size, 1, none⟩ = some (.int .i64 d) := by rw [← hA]; exact World.cell?_alloc_new _ _ _ 1
  have i6 : WA.cell? ⟨w.heap.size, 6, none⟩ = some (.bool z.reg) := by rw [← hA]; exact World.cell?_alloc_new _ _ _ 6
  have i7 : WA.cell? ⟨w.heap.size, 7, none⟩ = some (.int .i64 z.v) := by rw [← hA]; exact World.cell?_alloc_new _ _ _ 7
  have HA := hid (H.out.below bA)
  have BA := hid bA
  have HSA := hid sA
  clear hA bA sA
  refine (HDR.out WA HA.out (fun j hj => hD j (by have := HSA.out; omega))).mono ?_
  rintro e W2 ⟨rfl, ⟨lab2, wv2, hm2⟩, hc2⟩
  have hks : k < (ts.set k { ts[k] with wv := wv2, T := { ts[k].T with q := [] } }).length := by simpa using hk
  have iw2 := (hc2.cell w.heap.size 0 (by have := HSA.out; omega) (by omega)).trans iw
  have id2 := (hc2.cell w.heap.size 1 (by have := HSA.out; omega) (by omega)).trans id
  have i62 := (hc2.cell w.heap.size 6 (by have := HSA.out; omega) (by omega)).trans i6
  have i72 := (hc2.cell w.heap.size 7 (by have := HSA.out; omega) (by omega)).trans i7
  have lI2 : w.heap.size < W2.heap.size := by have := HSA.out; have := hc2.size; omega
  have hth2 := hm2.th k hks
  have hl2 := hm2.lts k hks
  rw [set_get hk] at hth2 hl2
  have cr := hth2.regs
  have crd := hth2.rcell d hd
  have frd := hth2.rfree d hd
  have hmc2 := hm2.memc
  have hma := hm2.mcell a ha
  have hmf := hm2.mfree a ha
  simp only at cr crd frd
  rw [hTb, hTr] at cr
  rw [hTr] at crd frd
  have nmr : mb ≠ rb := fun e => by have := hl2.rb.1; simp only at this; rw [hTr, ← e, hm2.lm.1] at this; simp at this
  have nmb : mb ≠ tb := fun e => by have := hl2.b.1; simp only at this; rw [hTb, ← e, hm2.lm.1] at this; simp at this
  have nmi : mb ≠ w.heap.size := by omega
  have HRD := hid (cRead_is hm2 k hks a ha (by rw [set_get hk]; simp))
  rw [set_get hk, seen_none] at HRD
  have HG := hid (cGet_any hth2 z hz)
  have hzz : z.of { ts[k].T with q := [] } = z.of ts[k].T := rfl
  simp only at HG
  rw [hTb, hzz] at HG
  generalize hcv : z.of ts[k].T = cv at *
  have lr2 := lt_of_shape hth2.rsh
  have lb2 := lt_of_shape hth2.sh
  have lm2 := lt_of_shape hm2.msh
  have lbm2 := lt_of_shape hm2.sh
  simp only at lr2 lb2
  rw [hTr] at lr2
  rw [hTb] at lb2
  have nrb : rb ≠ bm := fun e => by have := hl2.rb.1; simp only at this; rw [hTr, e, hm2.lb.1] at this; simp at this
  have nrt : rb ≠ tb := fun e => by have h1 := hl2.rb.1; have h2 := hl2.b.1; simp only at h1 h2; rw [hTr, e] at h1; rw [hTb, h1] at h2; simp at h2
  have nri : rb ≠ w.heap.size := by omega
  have HM2 := hid hm2
  have HC2 : Hid (Chg (fun j _ => D j) WA W2) := hid (hc2.mono (fun j _ _ e => e.elim (fun e => e ▸ HA.out.lm.2) (fun e => e ▸ (hTb ▸ (HA.out.lts k hk).b.2))))
  have hbv : (m2 a == b) = false := by simpa using hv
  clear hm2 hc2 hth2 hl2 iw id i6 i7 HDR
  go_wp2_with fail
  refine HRD.out.mono ?_
  rintro e W3 ⟨rfl, rfl⟩
  go_wp2_with fail
  refine HG.out.mono ?_
  rintro e W4 ⟨rfl, b4⟩
  have iw4 := (b4.cell (p := ⟨w.heap.size, 0, none⟩) lI2).trans iw2
  have id4 := (b4.cell (p := ⟨w.heap.size, 1, none⟩) lI2).trans id2
  have cr4 := (b4.cell (p := ⟨tb, 2, none⟩) lb2).trans cr
  have crd4 := (b4.cell (p := ⟨rb, d, none⟩) lr2).trans crd
  have frd4 := (b4.frozen (p := ⟨rb, d, none⟩) lr2).trans frd
  have hmc4 := (b4.cell (p := ⟨bm, 0, none⟩) lbm2).trans hmc2
  have hma4 := (b4.cell (p := ⟨mb, a, none⟩) lm2).trans hma
  have hmf4 := (b4.frozen (p := ⟨mb, a, none⟩) lm2).trans hmf
  have HM4 := hid (HM2.out.below b4)
  have B4 := hid b4
  clear b4 cr crd frd hmc2 hma hmf iw2 id2 HM2 i62 i72
  go_wp2_with fail
  go_region
  all_goals
    go_wp2_with fail
    go_end0
    have key := cm_reg HM4.out k hks d hd 0
    rw [set_get hk] at key
    simp only [List.set_set] at key
    rw [hTr] at key
    have k1 := key.1.keep (M := fun _ _ => False) ((Chg.refl _ _).drew) (fun _ _ _ e => e)
    exact ⟨rfl, ⟨lab2, wv2, by simpa [hTr] using k1⟩, (((Chg.of_below BA.out).trans HC2.out).trans (Chg.of_below B4.out)).trans key.2.drew⟩

set_option maxRecDepth 100000 in
set_option maxHeartbeats 1000000 in
theorem cMem_cas1 (h : CMach D lab w bm mb tv m ts) (hD : ∀ k, w.heap.size ≤ k → D k) (k : Nat) (hk : k < ts.length) (d : Nat) (hd : d < 8) (x y z : Vl) (n : Int) (a : Nat) (ha : a < 256) (b : Int) (hql : ts[k].T.q.length < 1000) (hadr : ∀ p ∈ ts[k].T.q, 0 ≤ p.1 ∧ p.1 < 256) (hz : z.ok) (hv : drainM m ts[k].T.q a = b) :
    Calls Tryz.prog 73 #[ptr bm, .int .i64 k, insAgg ⟨#[99, 97, 115]⟩ d x y z n, .int .i64 a, .int .i64 b] w fun e w' => e = .returned (.tuple #[]) ∧ (∃ lab' wv', CMach D lab' w' bm mb tv (putM (drainM m ts[k].T.q) a (z.of ts[k].T)) (ts.set k { ts[k] with wv := wv', T := { ts[k].T with q := [] }.setR d 1 })) ∧ Chg (fun j _ => D j) w w' := by
  have H := hid h
  have HDR := hid (fun W (hW : CMach D lab W bm mb tv m ts) hDW => cDrain_any hW hDW k hk hadr hql)
  obtain ⟨tg, tk, rfl, p1, p2, _⟩ := thr_ptr h k hk
  have hc := h.tc
  have hmc := h.memc
  have hth := h.th k hk
  have hl := h.lts k hk
  have lbm := lt_of_shape h.sh
  have lmb := lt_of_shape h.msh
  have lb := lt_of_shape hth.sh
  have lrb := lt_of_shape hth.rsh
  have hk1 : (k : Int) < (ts.length : Int) := by omega
  have ha0 : ¬ (a : Int) < 0 := by omega
  have ha1 : (a : Int) < 256 := by omega
  have hd1 : (d : Int) < 8 := by omega
  clear h hth
  generalize hTb : ts[k].b = tb at *
  generalize hTr : ts[k].rb = rb at *
  generalize hm0 : drainM m ts[k].T.q = m2 at *
  go_enter Tryz.func73, Tryz.ntmps73
  go_wp2_with fail
  generalize hA : w.alloc _ = WA
  have bA : Below w.heap.size w WA := by rw [← hA]; exact (Below.refl _ w).alloc (Nat.le_refl _) _
  have sA : WA.heap.size = w.heap.size + 1 := by rw [← hA]; simp
  have iw : WA.cell? ⟨w.heap.size, 0, none⟩ = some (.string ⟨#[99, 97, 115]⟩) := by rw [← hA]; exact World.cell?_alloc_new _ _ _ 0
  have id : WA.cell? ⟨w.heap.size, 1, none⟩ = some (.int .i64 d) := by rw [← hA]; exact World.cell?_alloc_new _ _ _ 1
  have i6 : WA.cell? ⟨w.heap.size, 6, none⟩ = some (.bool z.reg) := by rw [← hA]; exact World.cell?_alloc_new _ _ _ 6
  have i7 : WA.cell? ⟨w.heap.size, 7, none⟩ = some (.int .i64 z.v) := by rw [← hA]; exact World.cell?_alloc_new _ _ _ 7
  have HA := hid (H.out.below bA)
  have BA := hid bA
  have HSA := hid sA
  clear hA bA sA
  refine (HDR.out WA HA.out (fun j hj => hD j (by have := HSA.out; omega))).mono ?_
  rintro e W2 ⟨rfl, ⟨lab2, wv2, hm2⟩, hc2⟩
  have hks : k < (ts.set k { ts[k] with wv := wv2, T := { ts[k].T with q := [] } }).length := by simpa using hk
  have iw2 := (hc2.cell w.heap.size 0 (by have := HSA.out; omega) (by omega)).trans iw
  have id2 := (hc2.cell w.heap.size 1 (by have := HSA.out; omega) (by omega)).trans id
  have i62 := (hc2.cell w.heap.size 6 (by have := HSA.out; omega) (by omega)).trans i6
  have i72 := (hc2.cell w.heap.size 7 (by have := HSA.out; omega) (by omega)).trans i7
  have lI2 : w.heap.size < W2.heap.size := by have := HSA.out; have := hc2.size; omega
  have hth2 := hm2.th k hks
  have hl2 := hm2.lts k hks
  rw [set_get hk] at hth2 hl2
  have cr := hth2.regs
  have crd := hth2.rcell d hd
  have frd := hth2.rfree d hd
  have hmc2 := hm2.memc
  have hma := hm2.mcell a ha
  have hmf := hm2.mfree a ha
  simp only at cr crd frd
  rw [hTb, hTr] at cr
  rw [hTr] at crd frd
  have nmr : mb ≠ rb := fun e => by have := hl2.rb.1; simp only at this; rw [hTr, ← e, hm2.lm.1] at this; simp at this
  have nmb : mb ≠ tb := fun e => by have := hl2.b.1; simp only at this; rw [hTb, ← e, hm2.lm.1] at this; simp at this
  have nmi : mb ≠ w.heap.size := by omega
  have HRD := hid (cRead_is hm2 k hks a ha (by rw [set_get hk]; simp))
  rw [set_get hk, seen_none] at HRD
  have HG := hid (cGet_any hth2 z hz)
  have hzz : z.of { ts[k].T with q := [] } = z.of ts[k].T := rfl
  simp only at HG
  rw [hTb, hzz] at HG
  generalize hcv : z.of ts[k].T = cv at *
  have lr2 := lt_of_shape hth2.rsh
  have lb2 := lt_of_shape hth2.sh
  have lm2 := lt_of_shape hm2.msh
  have lbm2 := lt_of_shape hm2.sh
  simp only at lr2 lb2
  rw [hTr] at lr2
  rw [hTb] at lb2
  have nrb : rb ≠ bm := fun e => by have := hl2.rb.1; simp only at this; rw [hTr, e, hm2.lb.1] at this; simp at this
  have nrt : rb ≠ tb := fun e => by have h1 := hl2.rb.1; have h2 := hl2.b.1; simp only at h1 h2; rw [hTr, e] at h1; rw [hTb, h1] at h2; simp at h2
  have nri : rb ≠ w.heap.size := by omega
  have HM2 := hid hm2
  have HC2 : Hid (Chg (fun j _ => D j) WA W2) := hid (hc2.mono (fun j _ _ e => e.elim (fun e => e ▸ HA.out.lm.2) (fun e => e ▸ (hTb ▸ (HA.out.lts k hk).b.2))))
  have hbv : (m2 a == b) = true := by simpa using hv
  clear hm2 hc2 hth2 hl2 iw id i6 i7 HDR
  go_wp2_with fail
  refine HRD.out.mono ?_
  rintro e W3 ⟨rfl, rfl⟩
  go_wp2_with fail
  refine HG.out.mono ?_
  rintro e W4 ⟨rfl, b4⟩
  have iw4 := (b4.cell (p := ⟨w.heap.size, 0, none⟩) lI2).trans iw2
  have id4 := (b4.cell (p := ⟨w.heap.size, 1, none⟩) lI2).trans id2
  have cr4 := (b4.cell (p := ⟨tb, 2, none⟩) lb2).trans cr
  have crd4 := (b4.cell (p := ⟨rb, d, none⟩) lr2).trans crd
  have frd4 := (b4.frozen (p := ⟨rb, d, none⟩) lr2).trans frd
  have hmc4 := (b4.cell (p := ⟨bm, 0, none⟩) lbm2).trans hmc2
  have hma4 := (b4.cell (p := ⟨mb, a, none⟩) lm2).trans hma
  have hmf4 := (b4.frozen (p := ⟨mb, a, none⟩) lm2).trans hmf
  have HM4 := hid (HM2.out.below b4)
  have B4 := hid b4
  clear b4 cr crd frd hmc2 hma hmf iw2 id2 HM2 i62 i72
  go_wp2_with fail
  go_region
  all_goals
    go_wp2_with fail
    go_region
    all_goals
      go_wp2_with fail
      go_end0
      have key := cm_reg HM4.out k hks d hd 0
      rw [set_get hk] at key
      simp only [List.set_set] at key
      rw [hTr] at key
      have hks2 : k < (ts.set k { ts[k] with rb := rb, wv := wv2, T := { ts[k].T with q := [] }.setR d 0 }).length := by simpa using hk
      have key1 : CMach D lab2 (W4.setCell ⟨rb, d, none⟩ (.int .i64 0)) bm mb (.slice (some ⟨tg, 0, none⟩) ts.length tk) m2 (ts.set k { ts[k] with rb := rb, wv := wv2, T := { ts[k].T with q := [] }.setR d 0 }) := by simpa [hTr] using key.1
      have hts : ts.set k { ts[k] with rb := rb, wv := wv2, T := { ts[k].T with q := [] }.setR d 0 } ≠ [] := by intro e; rw [e] at hks2; simp at hks2
      obtain ⟨r1, r2⟩ := cm_mem key1 hts a ha cv
      have key3 := cm_reg r1 k hks2 d hd 1
      rw [set_get hk] at key3
      simp only [List.set_set, setR_setR] at key3
      have k4 := key3.1.keep (M := fun _ _ => False) (((Chg.refl _ _).drew).drew) (fun _ _ _ e => e)
      exact ⟨rfl, ⟨lab2, wv2, by simpa [hTr, hcv] using k4⟩, (((Chg.of_below BA.out).trans HC2.out).trans (Chg.of_below B4.out)).trans ((key.2.trans r2).trans key3.2).drew.drew⟩
end
end Go.Proofs.YtfhkfnoajbbfdaaGreatDoor
