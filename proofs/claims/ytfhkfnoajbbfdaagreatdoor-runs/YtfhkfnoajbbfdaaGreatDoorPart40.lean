import Derived.Test.YtfhkfnoajbbfdaaGreatDoorPart39
/- The document's Flush. -/
namespace Go.Proofs.YtfhkfnoajbbfdaaGreatDoor
open Go.RowKit

/-- Several elements on nothing: a row of one's own, new. -/
theorem wpList_appM {P : Program} {w : World} {ops : Array Oper} {rest : List Oper} {o : Oper} {a : Act} {Q : Exit → Act → World → Prop} (hgd : o.guard = none) (s x : Operand) (t : TypeId)
    (ho : o.op = .call { callee := .builtin .append, args := #[s, x], argTypes := #[t, t] })
    (e : TypeId) (i : TypeInfo) (z : Value) (sz bytes : Nat) (hpos : 0 < sz) (ht : P.underlying t = some (.slice e)) (hi : P.info? e = some i) (hz : i.zero = some z) (hsize : i.size = sz) (hby : i.bytes = bytes) (hzs : z.cells.size = sz)
    (hs : a.eval s = .slice none 0 0) (ad : Addr) (m c : Nat) (us : List Value) (hus : us.length = m * sz) (hx : a.eval x = .slice (some ad) m c) (hu : ∀ j u', us[j]? = some u' → w.cell? (ad.add j) = some u') (hu1 : ∀ u' ∈ us, u'.oneCell' = true) (h63 : m ≤ maxLen) (hbytes : m * bytes ≤ 140737488355328)
    (h : ∀ v' w', w'.ownsRow 0 e sz v' m us → Below w.heap.size w w' → (∀ g, v'.ownBlock = some g → w.heap.size ≤ g) → wpList P ops Q rest (a.put o.dst v') w') : wpList P ops Q (o :: rest) a w :=
  wpList_plain hgd fun K hK => by
    obtain ⟨v', w', hr, h2, h3, _⟩ := run_append_own (P := P) w w.heap.size t o.type e i z sz bytes ht hi hz hsize hby hzs hpos (.slice none 0 0) 0 [] ⟨by simp, .inl ⟨rfl, rfl⟩⟩ ad m c us hus hu hu1 (by omega) (by simpa using hbytes) (Nat.le_refl _)
    unfold Oper.wp execOp
    simp only [ho, resolve, invoke, builtin, Sem.run_bind, Sem.run_pure, Result.andThen_ok, List.map_toArray, List.map_cons, List.map_nil, hs, hx, hr]
    refine hK _ _ (h v' w' ?_ ⟨h3.os, h3.tape, h3.output, h3.size, fun k hk => h3.block k hk (by simp [Value.ownBlock])⟩ (fun g hg => (h2.lt g hg).1))
    have h4 : w'.ownsRow w.heap.size e sz v' m us := by simpa using h2
    refine ⟨h4.1, ?_⟩
    rcases h4.2 with h5 | ⟨g, cap, cur, e1, _, h6⟩
    · exact .inl h5
    · exact .inr ⟨g, cap, cur, e1, Nat.zero_le _, h6⟩

theorem infoWait : (Tryz.prog.info? 116).map (fun i => (i.zero, i.size, i.bytes)) = some (some (.agg #[.int .i64 0, .int .i64 0]), 2, 16) := by kernel_rfl

/-- The cells of what waits. -/
theorem wait_cell {w : World} {g cap : Nat} {q : List (Int × Int)} (h : w.ownsRow 0 116 2 (.slice (some ⟨g, 0, none⟩) q.length cap) q.length (waitCells q)) (j : Nat) (u : Value) (hj : (waitCells q)[j]? = some u) : w.cell? ⟨g, j, none⟩ = some u := by
  have := h.cells (g := g) rfl j u hj
  have e : (⟨g, 0, none⟩ : Addr).add j = ⟨g, j, none⟩ := by simp [Addr.add]; omega
  rwa [e] at this

theorem waitCells_len (q : List (Int × Int)) : (waitCells q).length = q.length * 2 := by
  induction q with
  | nil => rfl
  | cons p q ih => simp only [waitCells, List.flatMap_cons, List.length_append, List.length_cons, List.length_nil] at *; omega

theorem waitCells_one (q : List (Int × Int)) : ∀ u ∈ waitCells q, u.oneCell' = true := by
  intro u hu
  simp only [waitCells, List.mem_flatMap] at hu
  obtain ⟨p, _, hp⟩ := hu
  simp only [List.mem_cons, List.not_mem_nil, or_false] at hp
  rcases hp with rfl | rfl <;> rfl

section
variable {D : Nat → Prop} {lab : Nat → Nat × Nat} {w : World} {bm mb : Nat} {tv : Value} {m : Nat → Int} {ts : List CT}

/-- Where a machine's threads stand. -/
theorem thr_ptr (h : CMach D lab w bm mb tv m ts) (k : Nat) (hk : k < ts.length) : ∃ tg tk, tv = .slice (some ⟨tg, 0, none⟩) ts.length tk ∧ w.cell? ⟨tg, k, none⟩ = some (ptr ts[k].b) ∧ tg < w.heap.size ∧ lab tg = (0, 2) := by
  rcases h.trow.2 with ⟨e1, e2⟩ | ⟨g', cap', cur, e1, _⟩
  · omega
  · have hr := h.trow
    rw [e1] at hr
    obtain ⟨q1, _, q3⟩ := ownsRow_cell hr k hk
    refine ⟨g', cap', e1, ?_, q3, (h.lt g' (by rw [e1]; rfl)).1⟩
    rw [q1]
    simp [List.getElem?_eq_getElem hk]

set_option maxRecDepth 100000 in
set_option maxHeartbeats 1000000 in
theorem cFlush_empty (h : CMach D lab w bm mb tv m ts) (k : Nat) (hk : k < ts.length) (hq : ts[k].T.q = []) :
    Calls Tryz.prog 46 #[ptr bm, .int .i64 k] w fun e w' => e = .returned (.tuple #[]) ∧ w' = w := by
  obtain ⟨tg, tk, rfl, p1, p2, _⟩ := thr_ptr h k hk
  have hc := h.tc
  have c3 := (h.th k hk).waits
  obtain ⟨wa, wk, hwv⟩ := row_slice (h.th k hk).wrow
  rw [hwv, hq] at c3
  have hk0 : ¬ (k : Int) < 0 := by omega
  have hk1 : (k : Int) < (ts.length : Int) := by omega
  generalize ts[k].b = tb at *
  clear h hwv hq
  generalize ts.length = n at *
  go_enter Tryz.func46, Tryz.ntmps46
  go_wp2
  refine bodyPost_ret (results_none rfl _ _ _) rfl ?_
  exact ⟨rfl, rfl⟩

set_option maxRecDepth 100000 in
set_option maxHeartbeats 1000000 in
theorem cFlush_none (h : CMach D lab w bm mb tv m ts) (k : Int) (hk : k < 0 ∨ (ts.length : Int) ≤ k) :
    Calls Tryz.prog 46 #[ptr bm, .int .i64 k] w fun e w' => e = .returned (.tuple #[]) ∧ w' = w := by
  obtain ⟨ta, tk, rfl⟩ := row_slice h.trow
  have hc := h.tc
  clear h
  generalize ts.length = n at *
  by_cases h0 : k < 0
  · go_enter Tryz.func46, Tryz.ntmps46
    go_wp2
    refine bodyPost_ret (results_none rfl _ _ _) rfl ?_
    exact ⟨rfl, rfl⟩
  · have h1 : (n : Int) ≤ k := hk.resolve_left h0
    clear hk
    go_enter Tryz.func46, Tryz.ntmps46
    go_wp2
    refine bodyPost_ret (results_none rfl _ _ _) rfl ?_
    exact ⟨rfl, rfl⟩

theorem flush_fin (h : CMach D lab w bm mb tv m ts) (hD : ∀ k, w.heap.size ≤ k → D k) (k : Nat) (hk : k < ts.length) (a : Nat) (v : Int) (q : List (Int × Int)) (hq : ts[k].T.q = ((a : Int), v) :: q) (ha : a < 256) {w3 : World} {v' : Value}
    (ho : w3.ownsRow 0 116 2 v' q.length (waitCells q)) (hb : Below ((w.setCell ⟨mb, a, none⟩ (.int .i64 v)).drew).heap.size ((w.setCell ⟨mb, a, none⟩ (.int .i64 v)).drew) w3) (hg : ∀ g, v'.ownBlock = some g → ((w.setCell ⟨mb, a, none⟩ (.int .i64 v)).drew).heap.size ≤ g) :
    ∃ lab', (CMach D lab' (w3.setCell ⟨ts[k].b, 3, none⟩ v') bm mb tv (flushT ts[k].T m).2 (ts.set k { ts[k] with wv := v', T := (flushT ts[k].T m).1 })) ∧ Chg (fun j _ => j = mb ∨ j = ts[k].b) w (w3.setCell ⟨ts[k].b, 3, none⟩ v') := by
  have hth := h.th k hk
  have hlk := h.lts k hk
  have lb := lt_of_shape hth.sh
  have lm := lt_of_shape h.msh
  have hsz : ((w.setCell ⟨mb, a, none⟩ (.int .i64 v)).drew).heap.size = w.heap.size := by show (w.setCell ⟨mb, a, none⟩ (.int .i64 v)).heap.size = _; rw [size_set]
  have n1 : ts[k].b ≠ mb := fun e => by have := hlk.b.1; rw [e, h.lm.1] at this; simp at this
  have c1 : Chg (fun j _ => j = mb) w ((w.setCell ⟨mb, a, none⟩ (.int .i64 v)).drew) := (chg_one w mb a (.int .i64 v)).drew
  have c2 : Chg (fun j _ => j = mb) w w3 := c1.then (N := fun _ _ => False) (Chg.of_below hb) (fun _ _ _ e => e.elim)
  have c3 : Chg (fun j i => j = mb ∨ (j = ts[k].b ∧ i = 3)) w (w3.setCell ⟨ts[k].b, 3, none⟩ v') := (c2.mono (fun _ _ _ e => .inl e)).setCell (b := ts[k].b) (o := 3) (fun _ => .inr ⟨rfl, rfl⟩) v'
  have hset : Chg (fun j i => j = ts[k].b ∧ i = 3) w3 (w3.setCell ⟨ts[k].b, 3, none⟩ v') := (Chg.refl (fun j i => j = ts[k].b ∧ i = 3) w3).setCell (b := ts[k].b) (o := 3) (fun _ => ⟨rfl, rfl⟩) v'
  have hft : flushT ts[k].T m = ({ ts[k].T with q := q }, putM m a v) := by unfold flushT; rw [hq]; simp
  have hwc : (w3.setCell ⟨ts[k].b, 3, none⟩ v').cell? ⟨ts[k].b, 3, none⟩ = some v' := cell_set_eq ((c2.cell _ 3 lb n1).trans hth.waits) rfl
  have keepT : ∀ o, o ≠ 3 → (w3.setCell ⟨ts[k].b, 3, none⟩ v').cell? ⟨ts[k].b, o, none⟩ = w.cell? ⟨ts[k].b, o, none⟩ := fun o ho' => c3.cell _ _ lb (by omega)
  have notR : ∀ g x, lab g = (k + 1, x) → x ≠ 0 → ∀ i, ¬ (g = mb ∨ (g = ts[k].b ∧ i = 3)) := by
    rintro g x hgl hx i (e | ⟨e, _⟩)
    · rw [e, h.lm.1] at hgl; simp at hgl
    · rw [e, hlk.b.1] at hgl; simp at hgl; omega
  have hgb : ∀ g, v'.ownBlock = some g → g ≠ ts[k].b := fun g e e2 => by have := hg g e; omega
  rw [hft]
  let lab' : Nat → Nat × Nat := fun j => if w.heap.size ≤ j then (k + 1, 3) else lab j
  have hold : ∀ j, j < w.heap.size → lab' j = lab j := fun j hj => by show (if _ then _ else _) = _; rw [if_neg (by omega)]
  have hnew : ∀ j, w.heap.size ≤ j → lab' j = (k + 1, 3) := fun j hj => by show (if _ then _ else _) = _; rw [if_pos hj]
  have key := h.upd (lab' := lab') (m' := putM m a v) k hk { ts[k] with wv := v', T := { ts[k].T with q := q } } (c3.mono (fun j i _ e => e.elim (fun e => .inl e) (fun e => .inr (.inl e.1)))) ?_ rfl ?_ hold ?_
  · exact ⟨lab', key.1, c3.mono (fun j i _ e => e.elim .inl (fun e => .inr e.1))⟩
  · exact {
      sh := (c3.shape _ lb).trans hth.sh
      codec := (keepT 0 (by decide)).trans hth.codec
      crow := ownsRow_chg hth.crow c3 (fun g e => notR g _ (hlk.cv g e).1 (by decide))
      pc := (keepT 1 (by decide)).trans hth.pc
      regs := (keepT 2 (by decide)).trans hth.regs
      rsh := (c3.shape _ (lt_of_shape hth.rsh)).trans hth.rsh
      rcell := fun j hj => (c3.cell _ _ (lt_of_shape hth.rsh) (notR _ _ hlk.rb.1 (by decide) _)).trans (hth.rcell j hj)
      rfree := fun j hj => (c3.frozen _ _ (lt_of_shape hth.rsh)).trans (hth.rfree j hj)
      waits := hwc
      wrow := ownsRow_chg ho hset (fun g e i e2 => hgb g e e2.1)
      outc := (keepT 4 (by decide)).trans hth.outc
      orow := ownsRow_chg hth.orow c3 (fun g e => notR g _ (hlk.ov g e).1 (by decide))
      state := (keepT 5 (by decide)).trans hth.state
      free := fun j hj => (c3.frozen _ _ lb).trans (hth.free j hj) }
  · exact ⟨⟨(hold _ lb).trans hlk.b.1, hlk.b.2⟩, ⟨(hold _ (lt_of_shape hth.rsh)).trans hlk.rb.1, hlk.rb.2⟩, fun g e => ⟨(hold _ (hth.crow.lt g e).2).trans (hlk.cv g e).1, (hlk.cv g e).2⟩, fun g e => ⟨hnew g (by have := hg g e; omega), hD g (by have := hg g e; omega)⟩, fun g e => ⟨(hold _ (hth.orow.lt g e).2).trans (hlk.ov g e).1, (hlk.ov g e).2⟩⟩
  · intro j hj
    have e1 : (w3.setCell ⟨ts[k].b, 3, none⟩ v').cell? ⟨mb, j, none⟩ = w3.cell? ⟨mb, j, none⟩ := cell_set_ne (by omega)
    have e2 : w3.cell? ⟨mb, j, none⟩ = ((w.setCell ⟨mb, a, none⟩ (.int .i64 v)).drew).cell? ⟨mb, j, none⟩ := hb.cell (p := ⟨mb, j, none⟩) (by show mb < _; omega)
    rw [e1, e2]
    show (w.setCell ⟨mb, a, none⟩ (.int .i64 v)).cell? ⟨mb, j, none⟩ = _
    by_cases e : j = a
    · subst e
      rw [cell_set_eq (h.mcell j hj) rfl]
      simp [putM]
    · rw [cell_set_ne (by omega), h.mcell j hj]
      simp [putM, e]

set_option maxRecDepth 100000 in
set_option maxHeartbeats 1000000 in
theorem cFlush_some (h : CMach D lab w bm mb tv m ts) (hD : ∀ k, w.heap.size ≤ k → D k) (k : Nat) (hk : k < ts.length) (a : Nat) (v : Int) (q : List (Int × Int)) (hq : ts[k].T.q = ((a : Int), v) :: q) (ha : a < 256) (hql : q.length < 1000) :
    Calls Tryz.prog 46 #[ptr bm, .int .i64 k] w fun e w' => e = .returned (.tuple #[]) ∧ (∃ lab' wv', CMach D lab' w' bm mb tv (flushT ts[k].T m).2 (ts.set k { ts[k] with wv := wv', T := (flushT ts[k].T m).1 })) ∧ Chg (fun j _ => j = mb ∨ j = ts[k].b) w w' := by
  obtain ⟨i0, hi, hz0, hz1, hz2⟩ := info_parts infoWait
  obtain ⟨tg, tk, rfl, p1, p2, _⟩ := thr_ptr h k hk
  have hc := h.tc
  have hmc := h.memc
  have hma := h.mcell a ha
  have hmf := h.mfree a ha
  have hth := h.th k hk
  have hlk := h.lts k hk
  have c3 := hth.waits
  have f3 := hth.free 3 (by omega)
  have hwr := hth.wrow
  rw [hq] at hwr
  obtain ⟨wg, wk, hwv⟩ : ∃ wg wk, ts[k].wv = .slice (some ⟨wg, 0, none⟩) (q.length + 1) wk := by
    rcases hwr.2 with ⟨e1, e2⟩ | ⟨g', cap', cur, e1, _⟩
    · simp at e2
    · exact ⟨g', cap', by simpa using e1⟩
  rw [hwv] at hwr c3
  have w0 := wait_cell (q := ((a : Int), v) :: q) (by simpa using hwr) 0 (.int .i64 a) (by simp [waitCells])
  have w1 := wait_cell (q := ((a : Int), v) :: q) (by simpa using hwr) 1 (.int .i64 v) (by simp [waitCells])
  have hlw := (hlk.wv wg (by rw [hwv]; rfl)).1
  have n1 : mb ≠ ts[k].b := fun e => by have := hlk.b.1; rw [← e, h.lm.1] at this; simp at this
  have n2 : mb ≠ wg := fun e => by rw [← e, h.lm.1] at hlw; simp at hlw
  have n3 : mb ≠ bm := fun e => by have := h.lb.1; rw [← e, h.lm.1] at this; simp at this
  have hk0 : ¬ (k : Int) < 0 := by omega
  have hk1 : (k : Int) < (ts.length : Int) := by omega
  have ha' : (a : Int) < 256 := by omega
  have hz : ((q.length : Int) + 1 == 0) = false := by simp; omega
  have hz' : (0 : Int) < (q.length : Int) + 1 := by omega
  have hm1 : q.length ≤ maxLen := by unfold maxLen; omega
  have hm2 : q.length * 16 ≤ 140737488355328 := by omega
  have hwk : q.length + 1 ≤ wk := by
    rcases hwr.2 with ⟨e1, _⟩ | ⟨g', cap', cur, e1, _, _, h3, _⟩
    · cases e1
    · simp only [Value.slice.injEq] at e1
      obtain ⟨_, _, rfl⟩ := e1
      simpa using h3
  have hcells : ∀ j u', (waitCells q)[j]? = some u' → w.cell? ⟨wg, 2 + j, none⟩ = some u' := by
    intro j u' hj
    refine wait_cell (q := ((a : Int), v) :: q) (by simpa using hwr) (2 + j) u' ?_
    rw [Nat.add_comm]
    simpa [waitCells] using hj
  have HU : Hid (∀ j u', (waitCells q)[j]? = some u' → ((w.setCell ⟨mb, a, none⟩ (.int .i64 v)).drew).cell? ((⟨wg, 2, none⟩ : Addr).add j) = some u') := hid (by
    intro j u' hj
    have e : (⟨wg, 2, none⟩ : Addr).add j = ⟨wg, 2 + j, none⟩ := by simp [Addr.add]
    rw [e]
    exact (cell_set_ne (.inl n2.symm)).trans (hcells j u' hj))
  have hsz : ((w.setCell ⟨mb, a, none⟩ (.int .i64 v)).drew).heap.size = w.heap.size := by show (w.setCell ⟨mb, a, none⟩ (.int .i64 v)).heap.size = _; rw [size_set]
  have hlb := lt_of_shape hth.sh
  have HCB : Hid (∀ w3, Below ((w.setCell ⟨mb, a, none⟩ (.int .i64 v)).drew).heap.size ((w.setCell ⟨mb, a, none⟩ (.int .i64 v)).drew) w3 → w3.cell? ⟨ts[k].b, 3, none⟩ = some (.slice (some ⟨wg, 0, none⟩) (q.length + 1) wk) ∧ w3.frozen? ⟨ts[k].b, 3, none⟩ = false) := hid (by
    intro w3 hb
    refine ⟨(hb.cell (p := ⟨ts[k].b, 3, none⟩) (by rw [hsz]; exact hlb)).trans ((cell_set_ne (.inl n1.symm)).trans c3), (hb.frozen (p := ⟨ts[k].b, 3, none⟩) (by rw [hsz]; exact hlb)).trans ((World.frozen?_setCell w _ _ _).trans f3)⟩)
  have H := hid h
  have HQ := hid hq
  clear h hth hlk hwr hwv hcells hsz hq
  have hone := waitCells_one q
  have hlen := waitCells_len q
  have HONE := hid hone
  have HLEN := hid hlen
  clear hone hlen
  generalize hTb : ts[k].b = tb at *
  by_cases hw1 : wk = 1
  · obtain rfl : q = [] := List.length_eq_zero_iff.1 (by omega)
    subst hw1
    go_enter Tryz.func46, Tryz.ntmps46
    go_wp2_with fail
    go_region
    all_goals
      go_wp2_with fail
      go_end0
      subst hTb
      obtain ⟨lab', r1, r2⟩ := flush_fin H.out hD k hk a v [] HQ.out ha (w3 := (w.setCell ⟨mb, a, none⟩ (.int .i64 v)).drew) (v' := .slice none 0 0) ⟨rfl, .inl ⟨rfl, rfl⟩⟩ (Below.refl _ _) (fun g e => by simp [Value.ownBlock] at e)
      exact ⟨rfl, ⟨lab', _, r1⟩, r2⟩
  · have hw2 : ¬ (wk : Int) - 1 = 0 := by omega
    go_enter Tryz.func46, Tryz.ntmps46
    go_wp2_with fail
    go_region
    all_goals
      go_wp2_with (at_builtin; refine wpList_appM rfl _ _ 91 rfl 116 i0 (.agg #[.int .i64 0, .int .i64 0]) 2 16 (by decide) Tryz.underlying91 hi hz0 hz1 hz2 rfl rfl ⟨wg, 2, none⟩ q.length (wk - 1) (waitCells q) HLEN.out rfl HU.out HONE.out hm1 hm2 ?_; go_must (intro v' w3 hown1 hbl hg; obtain ⟨va, vk, rfl⟩ := row_slice hown1; have hcb := (HCB.out w3 hbl).1; have hfb := (HCB.out w3 hbl).2; have HO := hid hown1; have HB := hid hbl; have HG := hid hg; clear hown1 hbl hg))
      go_end0
      subst hTb
      obtain ⟨lab', r1, r2⟩ := flush_fin H.out hD k hk a v q HQ.out ha HO.out HB.out HG.out
      exact ⟨rfl, ⟨lab', _, r1⟩, r2⟩
end
end Go.Proofs.YtfhkfnoajbbfdaaGreatDoor
