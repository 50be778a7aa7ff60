import Derived.Test.YtfhkfnoajbbfdaaGreatDoorPart40
/- The document's drain, what is waiting, what is read. -/
namespace Go.Proofs.YtfhkfnoajbbfdaaGreatDoor
open Go.RowKit

/-- How much waits, as the thread's block tells it. -/
def waitsN (w : World) (tb : Nat) : Nat := match w.cell? ⟨tb, 3, none⟩ with
  | some (.slice _ n _) => n
  | _ => 0

section
variable {D : Nat → Prop} {lab : Nat → Nat × Nat} {w : World} {bm mb : Nat} {tv : Value} {m : Nat → Int} {ts : List CT}

/-- The machine with another thread k. -/
theorem set_get {ts : List CT} {k : Nat} (hk : k < ts.length) (t : CT) : (ts.set k t)[k]'(by simpa using hk) = t := by simp

/-- Flush, whatever waits. -/
theorem cFlush_any (h : CMach D lab w bm mb tv m ts) (hD : ∀ k, w.heap.size ≤ k → D k) (k : Nat) (hk : k < ts.length) (ha : ∀ p ∈ ts[k].T.q, 0 ≤ p.1 ∧ p.1 < 256) (hql : ts[k].T.q.length < 1000) :
    Calls Tryz.prog 46 #[ptr bm, .int .i64 k] w fun e w' => e = .returned (.tuple #[]) ∧ (∃ lab' wv', CMach D lab' w' bm mb tv (flushT ts[k].T m).2 (ts.set k { ts[k] with wv := wv', T := (flushT ts[k].T m).1 })) ∧ Chg (fun j _ => j = mb ∨ j = ts[k].b) w w' := by
  cases hq : ts[k].T.q with
  | nil =>
    refine (cFlush_empty h k hk hq).mono ?_
    rintro e w' ⟨rfl, rfl⟩
    have hf : flushT ts[k].T m = (ts[k].T, m) := by unfold flushT; rw [hq]
    rw [hf]
    refine ⟨rfl, ⟨lab, ts[k].wv, ?_⟩, Chg.refl _ _⟩
    have : ts.set k ts[k] = ts := List.set_getElem_self hk
    rw [this]
    exact h
  | cons p q =>
    obtain ⟨p1, p2⟩ := p
    have hp := ha (p1, p2) (by rw [hq]; exact List.mem_cons_self)
    simp only at hp
    obtain ⟨a, rfl⟩ : ∃ a : Nat, p1 = a := ⟨p1.toNat, by omega⟩
    exact cFlush_some h hD k hk a p2 q hq (by omega) (by rw [hq] at hql; simp at hql; omega)

set_option maxRecDepth 100000 in
set_option maxHeartbeats 1000000 in
theorem cDrain_any (h : CMach D lab w bm mb tv m ts) (hD : ∀ k, w.heap.size ≤ k → D k) (k : Nat) (hk : k < ts.length) (ha : ∀ p ∈ ts[k].T.q, 0 ≤ p.1 ∧ p.1 < 256) (hql : ts[k].T.q.length < 1000) :
    Calls Tryz.prog 60 #[ptr bm, .int .i64 k] w fun e w' => e = .returned (.tuple #[]) ∧ (∃ lab' wv', CMach D lab' w' bm mb tv (drainM m ts[k].T.q) (ts.set k { ts[k] with wv := wv', T := { ts[k].T with q := [] } })) ∧ Chg (fun j _ => j = mb ∨ j = ts[k].b) w w' := by
  have hk0 : ¬ (k : Int) < 0 := by omega
  have h0 : CMach D lab w bm mb tv m (ts.set k { ts[k] with wv := ts[k].wv, T := { ts[k].T with q := ts[k].T.q } }) := by
    have : ts.set k ts[k] = ts := List.set_getElem_self hk
    have e : ({ ts[k] with wv := ts[k].wv, T := { ts[k].T with q := ts[k].T.q } } : CT) = ts[k] := rfl
    rw [e, this]
    exact h
  have H0 := hid h0
  have HA := hid ha
  clear h h0 ha
  go_enter Tryz.func60, Tryz.ntmps60
  go_wp2
  go_loopw [] (fun wr => ∃ lab' wv' q m', Hid (CMach D lab' wr bm mb tv m' (ts.set k { ts[k] with wv := wv', T := { ts[k].T with q := q } })) ∧ Hid (drainM m' q = drainM m ts[k].T.q) ∧ Hid (∀ p ∈ q, 0 ≤ p.1 ∧ p.1 < 256) ∧ q.length < 1000 ∧ Hid (Chg (fun j _ => j = mb ∨ j = ts[k].b) w wr)) (fun wr => waitsN wr ts[k].b)
  case atStart => exact ⟨lab, ts[k].wv, ts[k].T.q, m, H0, hid rfl, HA, hql, hid (Chg.refl _ _)⟩
  case round =>
    clear H0 HA
    obtain ⟨lab', wv', q, m', HM, HD, HA, hql', HC⟩ := hrel
    have hks : k < (ts.set k { ts[k] with wv := wv', T := { ts[k].T with q := q } }).length := by simpa using hk
    obtain ⟨tg, tk, rfl, p1, p2, _⟩ := thr_ptr HM.out k hks
    have hc := HM.out.tc
    have hth := HM.out.th k hks
    rw [set_get hk] at hth p1
    have c3 := hth.waits
    obtain ⟨wa, wk, hwv⟩ := row_slice hth.wrow
    simp only at hwv c3 p1
    rw [hwv] at c3
    have hls : (ts.set k { ts[k] with wv := wv', T := { ts[k].T with q := q } }).length = ts.length := by simp
    rw [hls] at hc
    have HM2 : Hid (CMach D lab' wr bm mb (.slice (some ⟨tg, 0, none⟩) ts.length tk) m' (ts.set k { ts[k] with wv := wv', T := { ts[k].T with q := q } })) := hid (hls ▸ HM.out)
    have HLS := hid hls
    clear HM hls
    have hk1 : (k : Int) < (ts.length : Int) := by omega
    have hn3 : waitsN wr ts[k].b = q.length := by unfold waitsN; rw [c3]
    have HN3 := hid hn3
    clear hn3 hth hwv
    cases q with
    | nil =>
      have hRes : Hid (CMach D lab' wr bm mb (.slice (some ⟨tg, 0, none⟩) ts.length tk) (drainM m ts[k].T.q) (ts.set k { ts[k] with wv := wv', T := { ts[k].T with q := [] } })) := by
        have e : drainM m ts[k].T.q = m' := HD.out.symm
        rw [e]
        exact HM2
      clear HM2 HD
      go_wp2
      go_end0
      exact ⟨rfl, ⟨lab', wv', hRes.out⟩, HC.out⟩
    | cons p q =>
      have hpos : (0 : Int) < (q.length : Int) + 1 := by omega
      simp only [List.length_cons] at c3
      have hks : k < (ts.set k { ts[k] with wv := wv', T := { ts[k].T with q := p :: q } }).length := by simpa using hk
      have hfl := cFlush_any HM2.out (fun j hj => hD j (by have := HC.out.size; omega)) k hks (by rw [set_get hk]; exact HA.out) (by rw [set_get hk]; exact hql')
      have hT : (ts.set k { ts[k] with wv := wv', T := { ts[k].T with q := p :: q } })[k]'hks = { ts[k] with wv := wv', T := { ts[k].T with q := p :: q } } := set_get hk _
      rw [hT] at hfl
      have HFL := hid hfl
      clear hfl hT
      go_wp2_with fail
      refine HFL.out.mono ?_
      rintro e W2 ⟨rfl, ⟨lab2, wv2, hm2⟩, hc2⟩
      have hm3 : CMach D lab2 W2 bm mb (.slice (some ⟨tg, 0, none⟩) ts.length tk) (putM m' p.1.toNat p.2) (ts.set k { ts[k] with wv := wv2, T := { ts[k].T with q := q } }) := by
        rw [List.set_set] at hm2
        exact hm2
      have hn4 : waitsN W2 ts[k].b = q.length := by
        have hth := hm3.th k (by simpa using hk)
        rw [set_get hk] at hth
        have c4 := hth.waits
        obtain ⟨wa', wk', hwv'⟩ := row_slice hth.wrow
        simp only at hwv' c4
        rw [hwv'] at c4
        unfold waitsN
        rw [c4]
      have HM3 := hid hm3
      have HN4 := hid hn4
      have hc3 : Chg (fun j _ => j = mb ∨ j = ts[k].b) wr W2 := hc2
      have HC2 := hid (HC.out.trans hc3)
      have HD2 : Hid (drainM (putM m' p.1.toNat p.2) q = drainM m ts[k].T.q) := hid HD.out
      have HA2 : Hid (∀ p' ∈ q, 0 ≤ p'.1 ∧ p'.1 < 256) := hid (fun p' hp' => HA.out p' (List.mem_cons_of_mem _ hp'))
      have hq2 : q.length < 1000 := by simp at hql'; omega
      clear hm2 hm3 hn4 hc2 hc3 HFL HM2 HD HA
      go_wp2
      refine ⟨⟨lab2, wv2, q, putM m' p.1.toNat p.2, by rw [HLS.out]; exact HM3, HD2, HA2, hq2, HC2⟩, ?_⟩
      rw [HN3.out, HN4.out]
      simp

set_option maxRecDepth 100000 in
set_option maxHeartbeats 1000000 in
theorem cWaiting_is (h : CMach D lab w bm mb tv m ts) (k : Nat) (hk : k < ts.length) :
    Calls Tryz.prog 50 #[ptr bm, .int .i64 k] w fun e w' => e = .returned (.int .i64 ts[k].T.q.length) ∧ w' = w := by
  obtain ⟨tg, tk, rfl, p1, p2, _⟩ := thr_ptr h k hk
  have hc := h.tc
  have c3 := (h.th k hk).waits
  obtain ⟨wa, wk, hwv⟩ := row_slice (h.th k hk).wrow
  rw [hwv] at c3
  have hk1 : (k : Int) < (ts.length : Int) := by omega
  generalize ts[k].b = tb at *
  generalize ts[k].T.q.length = ql at *
  clear h hwv
  go_enter Tryz.func50, Tryz.ntmps50
  go_wp2
  go_ret
  exact ⟨rfl, rfl⟩
end
end Go.Proofs.YtfhkfnoajbbfdaaGreatDoor

/- The document's read. -/
namespace Go.Proofs.YtfhkfnoajbbfdaaGreatDoor
open Go.RowKit

/-- What is seen behind one store more. -/
theorem seen_snoc (l : List (Int × Int)) (p : Int × Int) (a m : Int) : seenIn (l ++ [p]).reverse a m = if p.1 = a then p.2 else seenIn l.reverse a m := by
  unfold seenIn
  rw [List.reverse_append, List.reverse_singleton, List.singleton_append, List.find?_cons]
  by_cases h : p.1 = a
  · simp [h]
  · have : (p.1 == a) = false := by simpa using h
    simp [this, h]

theorem wait_at (q : List (Int × Int)) (i : Nat) (h : i < q.length) : (waitCells q)[2 * i]? = some (.int .i64 q[i].1) ∧ (waitCells q)[2 * i + 1]? = some (.int .i64 q[i].2) := by
  induction q generalizing i with
  | nil => simp at h
  | cons p q ih =>
    cases i with
    | zero => simp [waitCells]
    | succ i =>
      have hi : i < q.length := by simpa using h
      have := ih i hi
      have e : waitCells (p :: q) = [.int .i64 p.1, .int .i64 p.2] ++ waitCells q := by simp [waitCells]
      rw [e, List.getElem?_append_right (by simp; omega), List.getElem?_append_right (by simp; omega)]
      simp only [List.length_cons, List.length_nil]
      rw [show 2 * (i + 1) - (0 + 1 + 1) = 2 * i by omega, show 2 * (i + 1) + 1 - (0 + 1 + 1) = 2 * i + 1 by omega]
      simpa using this

section
variable {D : Nat → Prop} {lab : Nat → Nat × Nat} {w : World} {bm mb : Nat} {tv : Value} {m : Nat → Int} {ts : List CT}

set_option maxRecDepth 100000 in
set_option maxHeartbeats 1000000 in
theorem cRead_is (h : CMach D lab w bm mb tv m ts) (k : Nat) (hk : k < ts.length) (a : Nat) (ha : a < 256) (hql : ts[k].T.q.length < 1000) :
    Calls Tryz.prog 102 #[ptr bm, .int .i64 k, .int .i64 a] w fun e w' => e = .returned (.int .i64 (seenIn ts[k].T.q.reverse a (m a))) ∧ w' = w := by
  obtain ⟨tg, tk, rfl, p1, p2, _⟩ := thr_ptr h k hk
  have hc := h.tc
  have hmc := h.memc
  have hma := h.mcell a ha
  have hth := h.th k hk
  have c3 := hth.waits
  have hwr := hth.wrow
  obtain ⟨wa, wk, hwv⟩ := row_slice hwr
  rw [hwv] at c3 hwr
  have hk1 : (k : Int) < (ts.length : Int) := by omega
  have ha1 : (a : Int) < 256 := by omega
  have HW := hid hwr
  clear h hth hwr hwv
  generalize ts[k].b = tb at *
  generalize ts[k].T.q = q at *
  go_enter Tryz.func102, Tryz.ntmps102
  go_wp2
  go_loopw [7, 8] (fun v7 v8 wr => ∃ i : Nat, i ≤ q.length ∧ v8 = .int .i64 i ∧ v7 = .int .i64 (seenIn (q.take i).reverse a (m a)) ∧ wr = w) (fun _ v8 _ => q.length - (intOf v8).toNat)
  case atStart => exact ⟨0, by omega, rfl, by simp [seenIn], rfl⟩
  case round =>
    obtain ⟨i, hi, rfl, rfl, rfl⟩ := hrel
    by_cases hlt : i < q.length
    · have hlt' : (i : Int) < (q.length : Int) := by omega
      obtain ⟨wg, rfl⟩ : ∃ wg, wa = some ⟨wg, 0, none⟩ := by
        rcases HW.out.2 with ⟨e1, e2⟩ | ⟨g', cap', cur, e1, _⟩
        · omega
        · simp only [Value.slice.injEq] at e1
          exact ⟨g', e1.1⟩
      have cw0 := wait_cell HW.out (2 * i) _ (wait_at q i hlt).1
      have cw1 := wait_cell HW.out (2 * i + 1) _ (wait_at q i hlt).2
      rw [Nat.mul_comm] at cw0 cw1
      have htk : q.take (i + 1) = q.take i ++ [q[i]] := List.take_succ_eq_append_getElem hlt
      have HS := hid (seen_snoc (q.take i) q[i] a (m a))
      have HT := hid htk
      clear htk
      generalize q[i] = p at *
      generalize hsv : seenIn (q.take i).reverse a (m a) = sv at *
      by_cases hp : p.1 = (a : Int)
      · have hp' : (p.1 == (a : Int)) = true := by simpa using hp
        go_wp2
        refine ⟨⟨i + 1, by omega, by go_num, by rw [HT.out, HS.out, if_pos hp], trivial⟩, by simp [intOf]; omega⟩
      · have hp' : (p.1 == (a : Int)) = false := by simpa using hp
        go_wp2
        refine ⟨⟨i + 1, by omega, by go_num, by rw [HT.out, HS.out, if_neg hp], trivial⟩, by simp [intOf]; omega⟩
    · have hlt' : ¬ (i : Int) < (q.length : Int) := by omega
      obtain rfl : i = q.length := by omega
      rw [List.take_length]
      go_wp2
      go_ret
      exact ⟨rfl, rfl⟩
end
end Go.Proofs.YtfhkfnoajbbfdaaGreatDoor

/- The document's machine at work: one cell written. -/
namespace Go.Proofs.YtfhkfnoajbbfdaaGreatDoor
open Go.RowKit

section
variable {D : Nat → Prop} {lab : Nat → Nat × Nat} {w : World} {bm mb : Nat} {tv : Value} {m : Nat → Int} {ts : List CT}

/-- A register. -/
theorem cm_reg (h : CMach D lab w bm mb tv m ts) (k : Nat) (hk : k < ts.length) (d : Nat) (hd : d < 8) (v : Int) :
    CMach D lab (w.setCell ⟨ts[k].rb, d, none⟩ (.int .i64 v)) bm mb tv m (ts.set k { ts[k] with T := ts[k].T.setR d v }) ∧ Chg (fun j _ => D j) w (w.setCell ⟨ts[k].rb, d, none⟩ (.int .i64 v)) := by
  have hth := h.th k hk
  have hl := h.lts k hk
  have hc := chg_one w ts[k].rb d (.int .i64 v)
  have nb : ts[k].b ≠ ts[k].rb := fun e => by have := hl.b.1; rw [e, hl.rb.1] at this; simp at this
  have nm : mb ≠ ts[k].rb := fun e => by have := h.lm.1; rw [e, hl.rb.1] at this; simp at this
  have nr : ∀ g x, lab g = (k + 1, x) → x ≠ 1 → ∀ (_ : Nat), ¬ g = ts[k].rb := fun g x hg hx _ e => by rw [e, hl.rb.1] at hg; simp at hg; omega
  have lb := lt_of_shape hth.sh
  have lr := lt_of_shape hth.rsh
  refine h.upd (lab' := lab) k hk { ts[k] with T := ts[k].T.setR d v } (hc.mono (fun j i _ e => .inr (.inr (.inl e)))) ?_ rfl ⟨hl.b, hl.rb, hl.cv, hl.wv, hl.ov⟩ (fun _ _ => rfl) (fun j hj => (hc.cell _ _ (lt_of_shape h.msh) nm).trans (h.mcell j hj))
  exact {
    sh := (hc.shape _ lb).trans hth.sh
    codec := (hc.cell _ _ lb nb).trans hth.codec
    crow := ownsRow_chg hth.crow hc (fun g e => nr g _ (hl.cv g e).1 (by decide))
    pc := (hc.cell _ _ lb nb).trans hth.pc
    regs := (hc.cell _ _ lb nb).trans hth.regs
    rsh := (hc.shape _ lr).trans hth.rsh
    rcell := fun j hj => by
      show (w.setCell ⟨ts[k].rb, d, none⟩ (.int .i64 v)).cell? ⟨ts[k].rb, j, none⟩ = some (.int .i64 (if j = d then v else ts[k].T.r j))
      by_cases e : j = d
      · rw [if_pos e, e]; exact cell_set_eq (hth.rcell d hd) rfl
      · rw [if_neg e]; exact (cell_set_ne (.inr e)).trans (hth.rcell j hj)
    rfree := fun j hj => (hc.frozen _ _ lr).trans (hth.rfree j hj)
    waits := (hc.cell _ _ lb nb).trans hth.waits
    wrow := ownsRow_chg hth.wrow hc (fun g e => nr g _ (hl.wv g e).1 (by decide))
    outc := (hc.cell _ _ lb nb).trans hth.outc
    orow := ownsRow_chg hth.orow hc (fun g e => nr g _ (hl.ov g e).1 (by decide))
    state := (hc.cell _ _ lb nb).trans hth.state
    free := fun j hj => (hc.frozen _ _ lb).trans (hth.free j hj) }

/-- The state. -/
theorem cm_state (h : CMach D lab w bm mb tv m ts) (k : Nat) (hk : k < ts.length) (v : Int) :
    CMach D lab (w.setCell ⟨ts[k].b, 5, none⟩ (.int .i64 v)) bm mb tv m (ts.set k { ts[k] with T := { ts[k].T with st := v } }) ∧ Chg (fun j _ => D j) w (w.setCell ⟨ts[k].b, 5, none⟩ (.int .i64 v)) := by
  have hth := h.th k hk
  have hl := h.lts k hk
  have hc : Chg (fun j i => j = ts[k].b ∧ i = 5) w (w.setCell ⟨ts[k].b, 5, none⟩ (.int .i64 v)) := (Chg.refl (fun j i => j = ts[k].b ∧ i = 5) w).setCell (b := ts[k].b) (o := 5) (fun _ => ⟨rfl, rfl⟩) _
  have nm : mb ≠ ts[k].b := fun e => by have := h.lm.1; rw [e, hl.b.1] at this; simp at this
  have nr : ∀ g x, lab g = (k + 1, x) → x ≠ 0 → ∀ i, ¬ (g = ts[k].b ∧ i = 5) := fun g x hg hx _ e => by rw [e.1, hl.b.1] at hg; simp at hg; omega
  have lb := lt_of_shape hth.sh
  have lr := lt_of_shape hth.rsh
  refine h.upd (lab' := lab) k hk { ts[k] with T := { ts[k].T with st := v } } (hc.mono (fun j i _ e => .inr (.inl e.1))) ?_ rfl ⟨hl.b, hl.rb, hl.cv, hl.wv, hl.ov⟩ (fun _ _ => rfl) (fun j hj => (hc.cell _ _ (lt_of_shape h.msh) (fun e => nm e.1)).trans (h.mcell j hj))
  exact {
    sh := (hc.shape _ lb).trans hth.sh
    codec := (hc.cell _ _ lb (by omega)).trans hth.codec
    crow := ownsRow_chg hth.crow hc (fun g e => nr g _ (hl.cv g e).1 (by decide))
    pc := (hc.cell _ _ lb (by omega)).trans hth.pc
    regs := (hc.cell _ _ lb (by omega)).trans hth.regs
    rsh := (hc.shape _ lr).trans hth.rsh
    rcell := fun j hj => (hc.cell _ _ lr (nr _ _ hl.rb.1 (by decide) _)).trans (hth.rcell j hj)
    rfree := fun j hj => (hc.frozen _ _ lr).trans (hth.rfree j hj)
    waits := (hc.cell _ _ lb (by omega)).trans hth.waits
    wrow := ownsRow_chg hth.wrow hc (fun g e => nr g _ (hl.wv g e).1 (by decide))
    outc := (hc.cell _ _ lb (by omega)).trans hth.outc
    orow := ownsRow_chg hth.orow hc (fun g e => nr g _ (hl.ov g e).1 (by decide))
    state := cell_set_eq hth.state rfl
    free := fun j hj => (hc.frozen _ _ lb).trans (hth.free j hj) }

/-- The place. -/
theorem cm_pc (h : CMach D lab w bm mb tv m ts) (k : Nat) (hk : k < ts.length) (v : Int) :
    CMach D lab (w.setCell ⟨ts[k].b, 1, none⟩ (.int .i64 v)) bm mb tv m (ts.set k { ts[k] with T := { ts[k].T with pl := v } }) ∧ Chg (fun j _ => D j) w (w.setCell ⟨ts[k].b, 1, none⟩ (.int .i64 v)) := by
  have hth := h.th k hk
  have hl := h.lts k hk
  have hc : Chg (fun j i => j = ts[k].b ∧ i = 1) w (w.setCell ⟨ts[k].b, 1, none⟩ (.int .i64 v)) := (Chg.refl (fun j i => j = ts[k].b ∧ i = 1) w).setCell (b := ts[k].b) (o := 1) (fun _ => ⟨rfl, rfl⟩) _
  have nm : mb ≠ ts[k].b := fun e => by have := h.lm.1; rw [e, hl.b.1] at this; simp at this
  have nr : ∀ g x, lab g = (k + 1, x) → x ≠ 0 → ∀ i, ¬ (g = ts[k].b ∧ i = 1) := fun g x hg hx _ e => by rw [e.1, hl.b.1] at hg; simp at hg; omega
  have lb := lt_of_shape hth.sh
  have lr := lt_of_shape hth.rsh
  refine h.upd (lab' := lab) k hk { ts[k] with T := { ts[k].T with pl := v } } (hc.mono (fun j i _ e => .inr (.inl e.1))) ?_ rfl ⟨hl.b, hl.rb, hl.cv, hl.wv, hl.ov⟩ (fun _ _ => rfl) (fun j hj => (hc.cell _ _ (lt_of_shape h.msh) (fun e => nm e.1)).trans (h.mcell j hj))
  exact {
    sh := (hc.shape _ lb).trans hth.sh
    codec := (hc.cell _ _ lb (by omega)).trans hth.codec
    crow := ownsRow_chg hth.crow hc (fun g e => nr g _ (hl.cv g e).1 (by decide))
    pc := cell_set_eq hth.pc rfl
    regs := (hc.cell _ _ lb (by omega)).trans hth.regs
    rsh := (hc.shape _ lr).trans hth.rsh
    rcell := fun j hj => (hc.cell _ _ lr (nr _ _ hl.rb.1 (by decide) _)).trans (hth.rcell j hj)
    rfree := fun j hj => (hc.frozen _ _ lr).trans (hth.rfree j hj)
    waits := (hc.cell _ _ lb (by omega)).trans hth.waits
    wrow := ownsRow_chg hth.wrow hc (fun g e => nr g _ (hl.wv g e).1 (by decide))
    outc := (hc.cell _ _ lb (by omega)).trans hth.outc
    orow := ownsRow_chg hth.orow hc (fun g e => nr g _ (hl.ov g e).1 (by decide))
    state := (hc.cell _ _ lb (by omega)).trans hth.state
    free := fun j hj => (hc.frozen _ _ lb).trans (hth.free j hj) }

/-- A cell of the memory. -/
theorem cm_mem (h : CMach D lab w bm mb tv m ts) (hts : ts ≠ []) (a : Nat) (ha : a < 256) (v : Int) :
    CMach D lab (w.setCell ⟨mb, a, none⟩ (.int .i64 v)) bm mb tv (putM m a v) ts ∧ Chg (fun j _ => D j) w (w.setCell ⟨mb, a, none⟩ (.int .i64 v)) := by
  have hk : 0 < ts.length := List.length_pos_iff.2 hts
  have hth := h.th 0 hk
  have hl := h.lts 0 hk
  have hc := chg_one w mb a (.int .i64 v)
  have nm : ∀ g x, lab g = (0 + 1, x) → ∀ (_ : Nat), ¬ g = mb := fun g x hg _ e => by rw [e, h.lm.1] at hg; simp at hg
  have key := h.upd (lab' := lab) (m' := putM m a v) 0 hk ts[0] (hc.mono (fun j i _ e => .inl e)) (hth.keep hc (nm _ _ hl.b.1) (nm _ _ hl.rb.1) (fun g e => nm _ _ (hl.cv g e).1) (fun g e => nm _ _ (hl.wv g e).1) (fun g e => nm _ _ (hl.ov g e).1)) rfl hl (fun _ _ => rfl) (fun j hj => by
    by_cases e : j = a
    · rw [e, cell_set_eq (h.mcell a ha) rfl]; simp [putM]
    · rw [cell_set_ne (.inr e), h.mcell j hj]; simp [putM, e])
  rw [List.set_getElem_self hk] at key
  exact key
end
end Go.Proofs.YtfhkfnoajbbfdaaGreatDoor

/- The document's machine at work: a row that grows. -/
namespace Go.Proofs.YtfhkfnoajbbfdaaGreatDoor
open Go.RowKit

section
variable {D : Nat → Prop} {lab : Nat → Nat × Nat} {w : World} {bm mb : Nat} {tv : Value} {m : Nat → Int} {ts : List CT}

theorem cm_wait (h : CMach D lab w bm mb tv m ts) (hD : ∀ k, w.heap.size ≤ k → D k) (k : Nat) (hk : k < ts.length) (a v : Int) {w3 : World} {g cp : Nat}
    (ho : w3.ownsRow 0 116 2 (.slice (some ⟨g, 0, none⟩) (ts[k].T.q.length + 1) cp) (ts[k].T.q.length + 1) (waitCells ts[k].T.q ++ [.int .i64 a, .int .i64 v])) (hc : Chg (fun j _ => ts[k].wv.ownBlock = some j) w w3) (hg : ts[k].wv.ownBlock = some g ∨ g = w.heap.size) :
    ∃ lab', CMach D lab' (w3.setCell ⟨ts[k].b, 3, none⟩ (.slice (some ⟨g, 0, none⟩) (ts[k].T.q.length + 1) cp)) bm mb tv m (ts.set k { ts[k] with wv := .slice (some ⟨g, 0, none⟩) (ts[k].T.q.length + 1) cp, T := { ts[k].T with q := ts[k].T.q ++ [(a, v)] } }) ∧ Chg (fun j _ => D j) w (w3.setCell ⟨ts[k].b, 3, none⟩ (.slice (some ⟨g, 0, none⟩) (ts[k].T.q.length + 1) cp)) := by
  have hth := h.th k hk
  have hl := h.lts k hk
  have lb := lt_of_shape hth.sh
  have lr := lt_of_shape hth.rsh
  have hset : Chg (fun j i => j = ts[k].b ∧ i = 3) w3 (w3.setCell ⟨ts[k].b, 3, none⟩ (.slice (some ⟨g, 0, none⟩) (ts[k].T.q.length + 1) cp)) := (Chg.refl (fun j i => j = ts[k].b ∧ i = 3) w3).setCell (b := ts[k].b) (o := 3) (fun _ => ⟨rfl, rfl⟩) _
  have hall : Chg (fun j i => ts[k].wv.ownBlock = some j ∨ (j = ts[k].b ∧ i = 3)) w (w3.setCell ⟨ts[k].b, 3, none⟩ (.slice (some ⟨g, 0, none⟩) (ts[k].T.q.length + 1) cp)) := (hc.mono (fun _ _ _ e => .inl e)).trans (hset.mono (fun _ _ _ e => .inr e))
  have hgb : g ≠ ts[k].b := by
    rcases hg with hg | hg
    · intro e; exact own_ne hl.wv hl.b.1 (by simp) (e ▸ hg)
    · omega
  have hcod : (w3.setCell ⟨ts[k].b, 3, none⟩ (.slice (some ⟨g, 0, none⟩) (ts[k].T.q.length + 1) cp)).cell? ⟨ts[k].b, 3, none⟩ = some (.slice (some ⟨g, 0, none⟩) (ts[k].T.q.length + 1) cp) :=
    cell_set_eq ((hc.cell _ _ lb (own_ne hl.wv hl.b.1 (by simp))).trans hth.waits) rfl
  let lab' : Nat → Nat × Nat := fun j => if j = g then (k + 1, 3) else lab j
  have hold : ∀ j, j < w.heap.size → lab' j = lab j := by
    intro j hj
    show (if j = g then _ else _) = _
    by_cases e : j = g
    · rw [if_pos e]
      rcases hg with hg | hg
      · rw [e]; exact ((hl.wv g hg).1).symm
      · omega
    · rw [if_neg e]
  have keepT : ∀ o, o ≠ 3 → (w3.setCell ⟨ts[k].b, 3, none⟩ (.slice (some ⟨g, 0, none⟩) (ts[k].T.q.length + 1) cp)).cell? ⟨ts[k].b, o, none⟩ = w.cell? ⟨ts[k].b, o, none⟩ := fun o ho' => hall.cell _ _ lb (by rintro (e | e); exact own_ne hl.wv hl.b.1 (by simp) e; omega)
  have nr : ∀ q x, lab q = (k + 1, x) → x ≠ 0 → x ≠ 3 → ∀ i, ¬ (ts[k].wv.ownBlock = some q ∨ (q = ts[k].b ∧ i = 3)) := by
    rintro q x hq h0 h1 i (e | ⟨e, _⟩)
    · exact own_ne hl.wv hq (by simp; omega) e
    · rw [e, hl.b.1] at hq; simp at hq; omega
  have key := h.upd (lab' := lab') (m' := m) k hk { ts[k] with wv := .slice (some ⟨g, 0, none⟩) (ts[k].T.q.length + 1) cp, T := { ts[k].T with q := ts[k].T.q ++ [(a, v)] } } (hall.mono (fun j i _ e => e.elim (fun e => .inr (.inr (.inr (.inr (.inl e))))) (fun e => .inr (.inl e.1)))) ?_ rfl ?_ hold (fun j hj => (hall.cell _ _ (lt_of_shape h.msh) (by
    rintro (e | ⟨e, _⟩)
    · exact own_ne hl.wv h.lm.1 (by simp) e
    · have := h.lm.1; rw [e, hl.b.1] at this; simp at this)).trans (h.mcell j hj))
  · exact ⟨lab', key⟩
  · exact {
      sh := (hall.shape _ lb).trans hth.sh
      codec := (keepT 0 (by decide)).trans hth.codec
      crow := ownsRow_chg hth.crow hall (fun g e => nr g _ (hl.cv g e).1 (by decide) (by decide))
      pc := (keepT 1 (by decide)).trans hth.pc
      regs := (keepT 2 (by decide)).trans hth.regs
      rsh := (hall.shape _ lr).trans hth.rsh
      rcell := fun j hj => (hall.cell _ _ lr (nr _ _ hl.rb.1 (by decide) (by decide) _)).trans (hth.rcell j hj)
      rfree := fun j hj => (hall.frozen _ _ lr).trans (hth.rfree j hj)
      waits := hcod
      wrow := by
        have := ownsRow_chg ho hset (fun q e i e2 => by simp [Value.ownBlock] at e; exact hgb (e.trans e2.1))
        simpa [waitCells] using this
      outc := (keepT 4 (by decide)).trans hth.outc
      orow := ownsRow_chg hth.orow hall (fun g e => nr g _ (hl.ov g e).1 (by decide) (by decide))
      state := (keepT 5 (by decide)).trans hth.state
      free := fun j hj => (hall.frozen _ _ lb).trans (hth.free j hj) }
  · refine ⟨⟨(hold _ lb).trans hl.b.1, hl.b.2⟩, ⟨(hold _ lr).trans hl.rb.1, hl.rb.2⟩, fun q e => ⟨(hold _ (hth.crow.lt q e).2).trans (hl.cv q e).1, (hl.cv q e).2⟩, ?_, ?_⟩
    · intro q e
      simp [Value.ownBlock] at e
      subst e
      refine ⟨?_, ?_⟩
      · show (if g = g then _ else _) = _
        rw [if_pos rfl]
      · rcases hg with hg | hg
        · exact (hl.wv g hg).2
        · exact hD g (by omega)
    · exact fun q e => ⟨(hold _ (hth.orow.lt q e).2).trans (hl.ov q e).1, (hl.ov q e).2⟩

theorem cm_out (h : CMach D lab w bm mb tv m ts) (hD : ∀ k, w.heap.size ≤ k → D k) (k : Nat) (hk : k < ts.length) (v : Int) {w3 : World} {g cp : Nat}
    (ho : w3.ownsRow 0 2 1 (.slice (some ⟨g, 0, none⟩) (ts[k].T.out.length + 1) cp) (ts[k].T.out.length + 1) (ts[k].T.out.map (Value.int .i64) ++ [.int .i64 v])) (hc : Chg (fun j _ => ts[k].ov.ownBlock = some j) w w3) (hg : ts[k].ov.ownBlock = some g ∨ g = w.heap.size) :
    ∃ lab', CMach D lab' (w3.setCell ⟨ts[k].b, 4, none⟩ (.slice (some ⟨g, 0, none⟩) (ts[k].T.out.length + 1) cp)) bm mb tv m (ts.set k { ts[k] with ov := .slice (some ⟨g, 0, none⟩) (ts[k].T.out.length + 1) cp, T := { ts[k].T with out := ts[k].T.out ++ [v] } }) ∧ Chg (fun j _ => D j) w (w3.setCell ⟨ts[k].b, 4, none⟩ (.slice (some ⟨g, 0, none⟩) (ts[k].T.out.length + 1) cp)) := by
  have hth := h.th k hk
  have hl := h.lts k hk
  have lb := lt_of_shape hth.sh
  have lr := lt_of_shape hth.rsh
  have hset : Chg (fun j i => j = ts[k].b ∧ i = 4) w3 (w3.setCell ⟨ts[k].b, 4, none⟩ (.slice (some ⟨g, 0, none⟩) (ts[k].T.out.length + 1) cp)) := (Chg.refl (fun j i => j = ts[k].b ∧ i = 4) w3).setCell (b := ts[k].b) (o := 4) (fun _ => ⟨rfl, rfl⟩) _
  have hall : Chg (fun j i => ts[k].ov.ownBlock = some j ∨ (j = ts[k].b ∧ i = 4)) w (w3.setCell ⟨ts[k].b, 4, none⟩ (.slice (some ⟨g, 0, none⟩) (ts[k].T.out.length + 1) cp)) := (hc.mono (fun _ _ _ e => .inl e)).trans (hset.mono (fun _ _ _ e => .inr e))
  have hgb : g ≠ ts[k].b := by
    rcases hg with hg | hg
    · intro e; exact own_ne hl.ov hl.b.1 (by simp) (e ▸ hg)
    · omega
  have hcod : (w3.setCell ⟨ts[k].b, 4, none⟩ (.slice (some ⟨g, 0, none⟩) (ts[k].T.out.length + 1) cp)).cell? ⟨ts[k].b, 4, none⟩ = some (.slice (some ⟨g, 0, none⟩) (ts[k].T.out.length + 1) cp) :=
    cell_set_eq ((hc.cell _ _ lb (own_ne hl.ov hl.b.1 (by simp))).trans hth.outc) rfl
  let lab' : Nat → Nat × Nat := fun j => if j = g then (k + 1, 4) else lab j
  have hold : ∀ j, j < w.heap.size → lab' j = lab j := by
    intro j hj
    show (if j = g then _ else _) = _
    by_cases e : j = g
    · rw [if_pos e]
      rcases hg with hg | hg
      · rw [e]; exact ((hl.ov g hg).1).symm
      · omega
    · rw [if_neg e]
  have keepT : ∀ o, o ≠ 4 → (w3.setCell ⟨ts[k].b, 4, none⟩ (.slice (some ⟨g, 0, none⟩) (ts[k].T.out.length + 1) cp)).cell? ⟨ts[k].b, o, none⟩ = w.cell? ⟨ts[k].b, o, none⟩ := fun o ho' => hall.cell _ _ lb (by rintro (e | e); exact own_ne hl.ov hl.b.1 (by simp) e; omega)
  have nr : ∀ q x, lab q = (k + 1, x) → x ≠ 0 → x ≠ 4 → ∀ i, ¬ (ts[k].ov.ownBlock = some q ∨ (q = ts[k].b ∧ i = 4)) := by
    rintro q x hq h0 h1 i (e | ⟨e, _⟩)
    · exact own_ne hl.ov hq (by simp; omega) e
    · rw [e, hl.b.1] at hq; simp at hq; omega
  have key := h.upd (lab' := lab') (m' := m) k hk { ts[k] with ov := .slice (some ⟨g, 0, none⟩) (ts[k].T.out.length + 1) cp, T := { ts[k].T with out := ts[k].T.out ++ [v] } } (hall.mono (fun j i _ e => e.elim (fun e => .inr (.inr (.inr (.inr (.inr e))))) (fun e => .inr (.inl e.1)))) ?_ rfl ?_ hold (fun j hj => (hall.cell _ _ (lt_of_shape h.msh) (by
    rintro (e | ⟨e, _⟩)
    · exact own_ne hl.ov h.lm.1 (by simp) e
    · have := h.lm.1; rw [e, hl.b.1] at this; simp at this)).trans (h.mcell j hj))
  · exact ⟨lab', key⟩
  · exact {
      sh := (hall.shape _ lb).trans hth.sh
      codec := (keepT 0 (by decide)).trans hth.codec
      crow := ownsRow_chg hth.crow hall (fun g e => nr g _ (hl.cv g e).1 (by decide) (by decide))
      pc := (keepT 1 (by decide)).trans hth.pc
      regs := (keepT 2 (by decide)).trans hth.regs
      rsh := (hall.shape _ lr).trans hth.rsh
      rcell := fun j hj => (hall.cell _ _ lr (nr _ _ hl.rb.1 (by decide) (by decide) _)).trans (hth.rcell j hj)
      rfree := fun j hj => (hall.frozen _ _ lr).trans (hth.rfree j hj)
      waits := (keepT 3 (by decide)).trans hth.waits
      wrow := ownsRow_chg hth.wrow hall (fun g e => nr g _ (hl.wv g e).1 (by decide) (by decide))
      outc := hcod
      orow := by
        have := ownsRow_chg ho hset (fun q e i e2 => by simp [Value.ownBlock] at e; exact hgb (e.trans e2.1))
        simpa using this
      state := (keepT 5 (by decide)).trans hth.state
      free := fun j hj => (hall.frozen _ _ lb).trans (hth.free j hj) }
  · refine ⟨⟨(hold _ lb).trans hl.b.1, hl.b.2⟩, ⟨(hold _ lr).trans hl.rb.1, hl.rb.2⟩, fun q e => ⟨(hold _ (hth.crow.lt q e).2).trans (hl.cv q e).1, (hl.cv q e).2⟩, ?_, ?_⟩
    · exact fun q e => ⟨(hold _ (hth.wrow.lt q e).2).trans (hl.wv q e).1, (hl.wv q e).2⟩
    · intro q e
      simp [Value.ownBlock] at e
      subst e
      refine ⟨?_, ?_⟩
      · show (if g = g then _ else _) = _
        rw [if_pos rfl]
      · rcases hg with hg | hg
        · exact (hl.ov g hg).2
        · exact hD g (by omega)
end
end Go.Proofs.YtfhkfnoajbbfdaaGreatDoor

/- The document's instructions that speak of a cell: load. -/
namespace Go.Proofs.YtfhkfnoajbbfdaaGreatDoor
open Go.RowKit

/-- The nine values of an instruction. -/
abbrev insAgg (u : ByteArray) (d : Int) (a b c : Vl) (n : Int) : Value := .agg #[.string u, .int .i64 d, .bool a.reg, .int .i64 a.v, .bool b.reg, .int .i64 b.v, .bool c.reg, .int .i64 c.v, .int .i64 n]

section
variable {D : Nat → Prop} {lab : Nat → Nat × Nat} {w : World} {bm mb : Nat} {tv : Value} {m : Nat → Int} {ts : List CT}

set_option maxRecDepth 100000 in
set_option maxHeartbeats 1000000 in
theorem cMem_load (h : CMach D lab w bm mb tv m ts) (k : Nat) (hk : k < ts.length) (d : Nat) (hd : d < 8) (x y z : Vl) (n : Int) (a : Nat) (ha : a < 256) (b : Int) (hql : ts[k].T.q.length < 1000) :
    Calls Tryz.prog 73 #[ptr bm, .int .i64 k, insAgg ⟨#[108, 111, 97, 100]⟩ d x y z n, .int .i64 a, .int .i64 b] w fun e w' => e = .returned (.tuple #[]) ∧ (∃ lab', CMach D lab' w' bm mb tv m (ts.set k { ts[k] with T := ts[k].T.setR d (seenIn ts[k].T.q.reverse a (m a)) })) ∧ Chg (fun j _ => D j) w w' := by
  have H := hid h
  have HR := hid (fun W (hW : CMach D lab W bm mb tv m ts) => cRead_is hW k hk a ha hql)
  obtain ⟨tg, tk, rfl, p1, p2, _⟩ := thr_ptr h k hk
  have hc := h.tc
  have hth := h.th k hk
  have cr := hth.regs
  have crd := hth.rcell d hd
  have frd := hth.rfree d hd
  have lbm := lt_of_shape h.sh
  have lb := lt_of_shape hth.sh
  have lr := lt_of_shape hth.rsh
  have hk1 : (k : Int) < (ts.length : Int) := by omega
  have ha0 : ¬ (a : Int) < 0 := by omega
  have ha1 : (a : Int) < 256 := by omega
  have hd1 : (d : Int) < 8 := by omega
  clear h hth
  generalize hTb : ts[k].b = tb at *
  generalize hRb : ts[k].rb = rb at *
  go_enter Tryz.func73, Tryz.ntmps73
  go_wp2_with fail
  generalize hA : w.alloc _ = WA
  have bA : Below w.heap.size w WA := by rw [← hA]; exact (Below.refl _ w).alloc (Nat.le_refl _) _
  have iw : WA.cell? ⟨w.heap.size, 0, none⟩ = some (.string ⟨#[108, 111, 97, 100]⟩) := by rw [← hA]; exact World.cell?_alloc_new _ _ _ 0
  have id : WA.cell? ⟨w.heap.size, 1, none⟩ = some (.int .i64 d) := by rw [← hA]; exact World.cell?_alloc_new _ _ _ 1
  have HA := hid (H.out.below bA)
  have BA := hid bA
  have cr' := (bA.cell (p := ⟨tb, 2, none⟩) lb).trans cr
  have crd' := (bA.cell (p := ⟨rb, d, none⟩) lr).trans crd
  have frd' := (bA.frozen (p := ⟨rb, d, none⟩) lr).trans frd
  clear hA bA cr crd frd
  refine (HR.out WA HA.out).mono ?_
  rintro e W1 ⟨rfl, rfl⟩
  generalize hsv : seenIn ts[k].T.q.reverse a (m a) = sv at *
  go_wp2_with fail
  go_region
  all_goals
    go_wp2
    go_end0
    subst hTb
    subst hRb
    subst hsv
    have hdr : CMach D lab W1.drew bm mb _ m ts := HA.out.keep (M := fun _ _ => False) ((Chg.refl _ W1).drew) (fun _ _ _ e => e)
    obtain ⟨r1, r2⟩ := cm_reg hdr k hk d hd (seenIn ts[k].T.q.reverse a (m a))
    exact ⟨rfl, ⟨lab, r1⟩, ((Chg.of_below BA.out).trans (((Chg.refl (fun j _ => D j) W1).drew))).trans r2⟩

theorem wait_cellsN (w : World) (u v : Value) (t : TypeId) : ∀ j u', [u, v][j]? = some u' → (w.alloc (.cells #[u, v] t)).cell? ((⟨w.heap.size, 0, none⟩ : Addr).add j) = some u' := by
  intro j u' hj
  have e : (⟨w.heap.size, 0, none⟩ : Addr).add j = ⟨w.heap.size, j, none⟩ := by simp [Addr.add]; omega
  rw [e, World.cell?_alloc_new]
  simpa using hj

set_option maxRecDepth 100000 in
set_option maxHeartbeats 1000000 in
theorem cMem_store (h : CMach D lab w bm mb tv m ts) (hD : ∀ k, w.heap.size ≤ k → D k) (k : Nat) (hk : k < ts.length) (d : Int) (x y z : Vl) (n : Int) (a : Nat) (ha : a < 256) (b : Int) (hql : ts[k].T.q.length < 4) :
    Calls Tryz.prog 73 #[ptr bm, .int .i64 k, insAgg ⟨#[115, 116, 111, 114, 101]⟩ d x y z n, .int .i64 a, .int .i64 b] w fun e w' => e = .returned (.tuple #[]) ∧ (∃ lab' wv', CMach D lab' w' bm mb tv m (ts.set k { ts[k] with wv := wv', T := { ts[k].T with q := ts[k].T.q ++ [((a : Int), b)] } })) ∧ Chg (fun j _ => D j) w w' := by
  obtain ⟨i0, hi, hz0, hz1, hz2⟩ := info_parts infoWait
  have H := hid h
  have HR := hid (fun W (hW : CMach D lab W bm mb tv m ts) => cRead_is hW k hk a ha (by omega))
  obtain ⟨tg, tk, rfl, p1, p2, _⟩ := thr_ptr h k hk
  have hc := h.tc
  have hth := h.th k hk
  have c3 := hth.waits
  have f3 := hth.free 3 (by omega)
  obtain ⟨wa, wk, hwv⟩ := row_slice hth.wrow
  rw [hwv] at c3
  have lbm := lt_of_shape h.sh
  have lb := lt_of_shape hth.sh
  have hk1 : (k : Int) < (ts.length : Int) := by omega
  have ha0 : ¬ (a : Int) < 0 := by omega
  have ha1 : (a : Int) < 256 := by omega
  have hq4 : ((ts[k].T.q.length : Int) == 4) = false := by simp; omega
  have hm1 : ts[k].T.q.length + 1 ≤ maxLen := by unfold maxLen; omega
  have hm2 : (ts[k].T.q.length + 1) * 16 ≤ 140737488355328 := by omega
  clear h hth
  have HWV := hid hwv
  clear hwv
  generalize hTb : ts[k].b = tb at *
  go_enter Tryz.func73, Tryz.ntmps73
  go_wp2_with fail
  generalize hA : w.alloc _ = WA
  have bA : Below w.heap.size w WA := by rw [← hA]; exact (Below.refl _ w).alloc (Nat.le_refl _) _
  have sA : WA.heap.size = w.heap.size + 1 := by rw [← hA]; simp
  have iw : WA.cell? ⟨w.heap.size, 0, none⟩ = some (.string ⟨#[115, 116, 111, 114, 101]⟩) := by rw [← hA]; exact World.cell?_alloc_new _ _ _ 0
  have HA := hid (H.out.below bA)
  have BA := hid bA
  have c3' := (bA.cell (p := ⟨tb, 3, none⟩) lb).trans c3
  have f3' := (bA.frozen (p := ⟨tb, 3, none⟩) lb).trans f3
  have lbA : tb < WA.heap.size := by omega
  have HSA := hid sA
  clear hA bA c3 f3 sA
  refine (HR.out WA HA.out).mono ?_
  rintro e W1 ⟨rfl, rfl⟩
  generalize hsv : seenIn ts[k].T.q.reverse a (m a) = sv at *
  have HO1 := hid (show W1.ownsRow 0 116 2 (.slice wa ts[k].T.q.length wk) ts[k].T.q.length (waitCells ts[k].T.q) from HWV.out ▸ (HA.out.th k hk).wrow)
  have hne : ¬ (Value.slice wa ts[k].T.q.length wk).ownBlock = some tb := by
    rw [← HWV.out, ← hTb]
    exact own_ne (HA.out.lts k hk).wv (HA.out.lts k hk).b.1 (by simp)
  have HCB : Hid (∀ w3, Chg (fun j _ => (Value.slice wa ts[k].T.q.length wk).ownBlock = some j) (W1.alloc (.cells #[.int .i64 a, .int .i64 b] 116)) w3 → w3.cell? ⟨tb, 3, none⟩ = some (.slice wa ts[k].T.q.length wk)) := hid (fun w3 hch => (hch.cell tb 3 (by simp; omega) hne).trans ((World.cell?_alloc_past _ _ _ lbA).trans c3'))
  have HFB : Hid (∀ w3, Chg (fun j _ => (Value.slice wa ts[k].T.q.length wk).ownBlock = some j) (W1.alloc (.cells #[.int .i64 a, .int .i64 b] 116)) w3 → w3.frozen? ⟨tb, 3, none⟩ = false) := hid (fun w3 hch => (hch.frozen tb 3 (by simp; omega)).trans ((World.frozen?_alloc_past _ _ _ lbA).trans f3'))
  clear hne
  go_wp2_with (at_builtin; refine wpList_appN rfl _ _ 91 rfl 116 i0 (.agg #[.int .i64 0, .int .i64 0]) 2 16 (by decide) Tryz.underlying91 hi hz0 hz1 hz2 rfl (.slice wa ts[k].T.q.length wk) ts[k].T.q.length (waitCells ts[k].T.q) rfl (HO1.out.alloc _) ⟨W1.heap.size, 0, none⟩ [.int .i64 a, .int .i64 b] rfl rfl (wait_cellsN W1 _ _ _) (by intro u hu; simp only [List.mem_cons, List.not_mem_nil, or_false] at hu; rcases hu with rfl | rfl <;> rfl) hm1 hm2 ?_; go_must (intro g cap w3 hown1 hch hg; have hcb := HCB.out w3 hch; have hfb := HFB.out w3 hch; have HO := hid hown1; have HC := hid hch; have HG := hid hg; clear hown1 hch hg))
  go_end0
  subst hTb
  have hal : CMach D lab (W1.alloc (.cells #[.int .i64 a, .int .i64 b] 116)) bm mb _ m ts := HA.out.below ((Below.refl _ W1).alloc (Nat.le_refl _) _)
  rw [← HWV.out] at HC HG
  obtain ⟨lab', r1, r2⟩ := cm_wait hal (fun j hj => hD j (by simp at hj; have := HSA.out; omega)) k hk a b HO.out HC.out HG.out
  exact ⟨rfl, ⟨lab', _, r1⟩, ((Chg.of_below BA.out).trans ((Chg.refl (fun j _ => D j) W1).alloc _)).trans r2⟩
end
end Go.Proofs.YtfhkfnoajbbfdaaGreatDoor

/- The document's store with a full buffer. -/
namespace Go.Proofs.YtfhkfnoajbbfdaaGreatDoor
open Go.RowKit

section
variable {D : Nat → Prop} {lab : Nat → Nat × Nat} {w : World} {bm mb : Nat} {tv : Value} {m : Nat → Int} {ts : List CT}

set_option maxRecDepth 100000 in
set_option maxHeartbeats 1000000 in
theorem cMem_storeF (h : CMach D lab w bm mb tv m ts) (hD : ∀ k, w.heap.size ≤ k → D k) (k : Nat) (hk : k < ts.length) (d : Int) (x y z : Vl) (n : Int) (a : Nat) (ha : a < 256) (b : Int) (p : Int × Int) (q : List (Int × Int)) (hq : ts[k].T.q = p :: q) (hql : q.length = 3) (hadr : ∀ p ∈ ts[k].T.q, 0 ≤ p.1 ∧ p.1 < 256) :
    Calls Tryz.prog 73 #[ptr bm, .int .i64 k, insAgg ⟨#[115, 116, 111, 114, 101]⟩ d x y z n, .int .i64 a, .int .i64 b] w fun e w' => e = .returned (.tuple #[]) ∧ (∃ lab' wv', CMach D lab' w' bm mb tv (putM m p.1.toNat p.2) (ts.set k { ts[k] with wv := wv', T := { ts[k].T with q := q ++ [((a : Int), b)] } })) ∧ Chg (fun j _ => D j) w w' := by
  obtain ⟨i0, hi, hz0, hz1, hz2⟩ := info_parts infoWait
  have hlen : ts[k].T.q.length = 4 := by rw [hq]; simp [hql]
  have H := hid h
  have HR := hid (fun W (hW : CMach D lab W bm mb tv m ts) => cRead_is hW k hk a ha (by omega))
  have HF := hid (fun W (hW : CMach D lab W bm mb tv m ts) hDW => cFlush_any hW hDW k hk hadr (by omega))
  obtain ⟨tg, tk, rfl, p1, p2, _⟩ := thr_ptr h k hk
  have hc := h.tc
  have hth := h.th k hk
  have c3 := hth.waits
  obtain ⟨wa, wk, hwv⟩ := row_slice hth.wrow
  rw [hwv, hlen] at c3
  have lbm := lt_of_shape h.sh
  have lb := lt_of_shape hth.sh
  have hk1 : (k : Int) < (ts.length : Int) := by omega
  have ha0 : ¬ (a : Int) < 0 := by omega
  have ha1 : (a : Int) < 256 := by omega
  have hfT : flushT ts[k].T m = ({ ts[k].T with q := q }, putM m p.1.toNat p.2) := by unfold flushT; rw [hq]
  rw [hfT] at HF
  have HLQ := hid hql
  clear h hth hwv hlen hfT hq hadr hql
  generalize hTb : ts[k].b = tb at *
  go_enter Tryz.func73, Tryz.ntmps73
  go_wp2_with fail
  generalize hA : w.alloc _ = WA
  have bA : Below w.heap.size w WA := by rw [← hA]; exact (Below.refl _ w).alloc (Nat.le_refl _) _
  have sA : WA.heap.size = w.heap.size + 1 := by rw [← hA]; simp
  have iw : WA.cell? ⟨w.heap.size, 0, none⟩ = some (.string ⟨#[115, 116, 111, 114, 101]⟩) := by rw [← hA]; exact World.cell?_alloc_new _ _ _ 0
  have HA := hid (H.out.below bA)
  have BA := hid bA
  have c3' := (bA.cell (p := ⟨tb, 3, none⟩) lb).trans c3
  have HSA := hid sA
  clear hA bA c3 sA
  refine (HR.out WA HA.out).mono ?_
  rintro e W1 ⟨rfl, rfl⟩
  generalize hsv : seenIn ts[k].T.q.reverse a (m a) = sv at *
  go_wp2_with fail
  refine (HF.out W1 HA.out (fun j hj => hD j (by have := HSA.out; omega))).mono ?_
  rintro e W2 ⟨rfl, ⟨lab2, wv2, hm2⟩, hc2⟩
  have hks : k < (ts.set k { ts[k] with wv := wv2, T := { ts[k].T with q := q } }).length := by simpa using hk
  have hth2 := hm2.th k hks
  have hl2 := hm2.lts k hks
  rw [set_get hk] at hth2 hl2
  have c3b := hth2.waits
  have f3b := hth2.free 3 (by omega)
  have lb2 := lt_of_shape hth2.sh
  have hrow := hth2.wrow
  obtain ⟨va, vk, hwv2⟩ := row_slice hth2.wrow
  simp only at hwv2 c3b f3b lb2 hrow
  subst hwv2
  rw [hTb] at c3b f3b lb2
  have hne : ¬ (Value.slice va q.length vk).ownBlock = some tb := by
    rw [← hTb]
    exact own_ne hl2.wv hl2.b.1 (by simp)
  have hm1 : q.length + 1 ≤ maxLen := by have := HLQ.out; unfold maxLen; omega
  have hm2' : (q.length + 1) * 16 ≤ 140737488355328 := by have := HLQ.out; omega
  have HO1 := hid hrow
  have HM2 := hid hm2
  have HC2 : Hid (Chg (fun j _ => D j) W1 W2) := hid (hc2.mono (fun j _ _ e => e.elim (fun e => e ▸ HA.out.lm.2) (fun e => e ▸ (hTb ▸ (HA.out.lts k hk).b.2))))
  have HCB : Hid (∀ w3, Chg (fun j _ => (Value.slice va q.length vk).ownBlock = some j) (W2.alloc (.cells #[.int .i64 a, .int .i64 b] 116)) w3 → w3.cell? ⟨tb, 3, none⟩ = some (.slice va q.length vk)) := hid (fun w3 hch => (hch.cell tb 3 (by simp; omega) hne).trans ((World.cell?_alloc_past _ _ _ lb2).trans c3b))
  have HFB : Hid (∀ w3, Chg (fun j _ => (Value.slice va q.length vk).ownBlock = some j) (W2.alloc (.cells #[.int .i64 a, .int .i64 b] 116)) w3 → w3.frozen? ⟨tb, 3, none⟩ = false) := hid (fun w3 hch => (hch.frozen tb 3 (by simp; omega)).trans ((World.frozen?_alloc_past _ _ _ lb2).trans f3b))
  clear hne hrow hth2 hl2 hm2 hc2 HF HR
  go_wp2_with (at_builtin; refine wpList_appN rfl _ _ 91 rfl 116 i0 (.agg #[.int .i64 0, .int .i64 0]) 2 16 (by decide) Tryz.underlying91 hi hz0 hz1 hz2 rfl (.slice va q.length vk) q.length (waitCells q) rfl (HO1.out.alloc _) ⟨W2.heap.size, 0, none⟩ [.int .i64 a, .int .i64 b] rfl rfl (wait_cellsN W2 _ _ _) (by intro u hu; simp only [List.mem_cons, List.not_mem_nil, or_false] at hu; rcases hu with rfl | rfl <;> rfl) hm1 hm2' ?_; go_must (intro g cap w3 hown1 hch hg; have hcb := HCB.out w3 hch; have hfb := HFB.out w3 hch; have HO := hid hown1; have HC := hid hch; have HG := hid hg; clear hown1 hch hg))
  go_end0
  subst hTb
  have hal : CMach D lab2 (W2.alloc (.cells #[.int .i64 a, .int .i64 b] 116)) bm mb _ (putM m p.1.toNat p.2) (ts.set k { ts[k] with wv := .slice va q.length vk, T := { ts[k].T with q := q } }) := HM2.out.below ((Below.refl _ W2).alloc (Nat.le_refl _) _)
  have key := cm_wait hal (fun j hj => hD j (by simp at hj; have := HSA.out; have := HC2.out.size; omega)) k hks a b (w3 := w3) (g := g) (cp := cap)
  rw [set_get hk] at key
  obtain ⟨lab', r1, r2⟩ := key HO.out HC.out HG.out
  rw [List.set_set] at r1
  exact ⟨rfl, ⟨lab', _, r1⟩, (((Chg.of_below BA.out).trans HC2.out).trans ((Chg.refl (fun j _ => D j) W2).alloc _)).trans r2⟩
end
end Go.Proofs.YtfhkfnoajbbfdaaGreatDoor
