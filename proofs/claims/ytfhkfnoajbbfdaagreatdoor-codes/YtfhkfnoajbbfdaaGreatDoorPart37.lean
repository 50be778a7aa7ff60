import Derived.Test.YtfhkfnoajbbfdaaGreatDoorPart36
import Derived.Deep.DeepCutAuto
import Derived.Deep.RegionHeldLaw
/- The document's row: an instruction more. -/
namespace Go.Proofs.YtfhkfnoajbbfdaaGreatDoor
open Go.RowKit

theorem cmach_ins {D : Nat → Prop} {lab : Nat → Nat × Nat} {w w3 : World} {bm mb g cp k : Nat} {tv : Value} {m : Nat → Int} {ts : List CT} {ic : Ic} (h : CMach D lab w bm mb tv m ts) (hD : ∀ k, w.heap.size ≤ k → D k) (hk : k < ts.length)
    (ho : w3.ownsRow 0 127 9 (.slice (some ⟨g, 0, none⟩) (ts[k].code.length + 1) cp) (ts[k].code.length + 1) (ts[k].code.flatMap insCells ++ insCells ic))
    (hc : Chg (fun j _ => ts[k].cv.ownBlock = some j) w w3) (hg : ts[k].cv.ownBlock = some g ∨ g = w.heap.size) :
    ∃ lab', CMach D lab' (w3.setCell ⟨ts[k].b, 0, none⟩ (.slice (some ⟨g, 0, none⟩) (ts[k].code.length + 1) cp)) bm mb tv m (ts.set k { ts[k] with cv := .slice (some ⟨g, 0, none⟩) (ts[k].code.length + 1) cp, code := ts[k].code ++ [ic] }) ∧ Chg (fun j _ => D j) w (w3.setCell ⟨ts[k].b, 0, none⟩ (.slice (some ⟨g, 0, none⟩) (ts[k].code.length + 1) cp)) := by
  have lbm := lt_of_shape h.sh
  have lmb := lt_of_shape h.msh
  have hth := h.th k hk
  have hlk := h.lts k hk
  have ltb := lt_of_shape hth.sh
  have hcl : ∀ j, ts[k].cv.ownBlock = some j → j < w.heap.size := fun j hj => (hth.crow.lt j hj).2
  have hset : Chg (fun j i => j = ts[k].b ∧ i = 0) w3 (w3.setCell ⟨ts[k].b, 0, none⟩ (.slice (some ⟨g, 0, none⟩) (ts[k].code.length + 1) cp)) := (Chg.refl (fun j i => j = ts[k].b ∧ i = 0) w3).setCell (b := ts[k].b) (o := 0) (fun _ => ⟨rfl, rfl⟩) _
  have hall : Chg (fun j i => ts[k].cv.ownBlock = some j ∨ (j = ts[k].b ∧ i = 0)) w (w3.setCell ⟨ts[k].b, 0, none⟩ (.slice (some ⟨g, 0, none⟩) (ts[k].code.length + 1) cp)) := (hc.mono (fun _ _ _ e => .inl e)).trans (hset.mono (fun _ _ _ e => .inr e))
  have hgb : g ≠ ts[k].b := by
    rcases hg with hg | hg
    · intro e; exact own_ne hlk.cv hlk.b.1 (by simp) (e ▸ hg)
    · omega
  have hcod : (w3.setCell ⟨ts[k].b, 0, none⟩ (.slice (some ⟨g, 0, none⟩) (ts[k].code.length + 1) cp)).cell? ⟨ts[k].b, 0, none⟩ = some (.slice (some ⟨g, 0, none⟩) (ts[k].code.length + 1) cp) :=
    cell_set_eq ((hc.cell _ _ ltb (own_ne hlk.cv hlk.b.1 (by simp))).trans hth.codec) rfl
  generalize hW : w3.setCell ⟨ts[k].b, 0, none⟩ (.slice (some ⟨g, 0, none⟩) (ts[k].code.length + 1) cp) = W at *
  let lab' : Nat → Nat × Nat := fun j => if j = g then (k + 1, 2) else lab j
  have hold : ∀ j, j < w.heap.size → lab' j = lab j := by
    intro j hj
    show (if j = g then _ else _) = _
    by_cases e : j = g
    · rw [if_pos e]
      rcases hg with hg | hg
      · rw [e]; exact ((hlk.cv g hg).1).symm
      · omega
    · rw [if_neg e]
  have labs : ∀ i (hi : i < ts.length), LabT D lab' i ts[i] := fun i hi => by
    have l := h.lts i hi
    have t := h.th i hi
    exact ⟨⟨(hold _ (lt_of_shape t.sh)).trans l.b.1, l.b.2⟩, ⟨(hold _ (lt_of_shape t.rsh)).trans l.rb.1, l.rb.2⟩, fun g hg => ⟨(hold _ (t.crow.lt g hg).2).trans (l.cv g hg).1, (l.cv g hg).2⟩, fun g hg => ⟨(hold _ (t.wrow.lt g hg).2).trans (l.wv g hg).1, (l.wv g hg).2⟩, fun g hg => ⟨(hold _ (t.orow.lt g hg).2).trans (l.ov g hg).1, (l.ov g hg).2⟩⟩
  have notM : ∀ j l, lab j = l → l ≠ (k + 1, 2) → l ≠ (k + 1, 0) → ∀ i, ¬ (ts[k].cv.ownBlock = some j ∨ (j = ts[k].b ∧ i = 0)) := by
    rintro j l hj h1 h2 i (e | ⟨e, _⟩)
    · exact own_ne hlk.cv hj h1 e
    · exact h2 (hj.symm.trans (e ▸ hlk.b.1))
  have keepT : ∀ o, o ≠ 0 → W.cell? ⟨ts[k].b, o, none⟩ = w.cell? ⟨ts[k].b, o, none⟩ := fun o ho' => hall.cell _ _ ltb (by rintro (e | e); exact own_ne hlk.cv hlk.b.1 (by simp) e; omega)
  refine ⟨lab', ⟨(hall.shape _ lbm).trans h.sh, (hall.cell _ _ lbm (notM _ _ h.lb.1 (by simp) (by simp) _)).trans h.memc, (hall.cell _ _ lbm (notM _ _ h.lb.1 (by simp) (by simp) _)).trans h.tc, fun j hj => (hall.frozen _ _ lbm).trans (h.free j hj), (hall.shape _ lmb).trans h.msh, fun j hj => (hall.cell _ _ lmb (notM _ _ h.lm.1 (by simp) (by simp) _)).trans (h.mcell j hj), fun j hj => (hall.frozen _ _ lmb).trans (h.mfree j hj), ?_, ?_, ⟨(hold _ lbm).trans h.lb.1, h.lb.2⟩, ⟨(hold _ lmb).trans h.lm.1, h.lm.2⟩, fun q hq => ⟨(hold _ (h.trow.lt q hq).2).trans (h.lt q hq).1, (h.lt q hq).2⟩, ?_⟩, hall.mono ?_⟩
  · have hr := ownsRow_chg h.trow hall (fun q hq i => notM _ _ (h.lt q hq).1 (by simp) (by simp) i)
    have e : (ts.set k { ts[k] with cv := .slice (some ⟨g, 0, none⟩) (ts[k].code.length + 1) cp, code := ts[k].code ++ [ic] }).map (fun t => ptr t.b) = ts.map fun t => ptr t.b := by
      rw [List.map_set]
      apply List.ext_getElem
      · simp
      · intro j h1 h2
        rw [List.getElem_set]
        split
        · rename_i e; subst e; simp
        · rfl
    rw [e, List.length_set]
    exact hr
  · intro i hi
    have hi' : i < ts.length := by simpa using hi
    rw [List.getElem_set]
    by_cases e : k = i
    · subst e
      rw [if_pos rfl]
      exact {
        sh := (hall.shape _ ltb).trans hth.sh
        codec := hcod
        crow := by
          have := ownsRow_chg ho hset (fun q hq i e => by simp [Value.ownBlock] at hq; omega)
          simpa using this
        pc := (keepT 1 (by decide)).trans hth.pc
        regs := (keepT 2 (by decide)).trans hth.regs
        rsh := (hall.shape _ (lt_of_shape hth.rsh)).trans hth.rsh
        rcell := fun j hj => (hall.cell _ _ (lt_of_shape hth.rsh) (notM _ _ hlk.rb.1 (by simp) (by simp) _)).trans (hth.rcell j hj)
        rfree := fun j hj => (hall.frozen _ _ (lt_of_shape hth.rsh)).trans (hth.rfree j hj)
        waits := (keepT 3 (by decide)).trans hth.waits
        wrow := ownsRow_chg hth.wrow hall (fun q hq i => notM _ _ (hlk.wv q hq).1 (by simp) (by simp) i)
        outc := (keepT 4 (by decide)).trans hth.outc
        orow := ownsRow_chg hth.orow hall (fun q hq i => notM _ _ (hlk.ov q hq).1 (by simp) (by simp) i)
        state := (keepT 5 (by decide)).trans hth.state
        free := fun j hj => (hall.frozen _ _ ltb).trans (hth.free j hj) }
    · rw [if_neg e]
      have l := h.lts i hi'
      have ne : ∀ q x, lab q = (i + 1, x) → ∀ j, ¬ (ts[k].cv.ownBlock = some q ∨ (q = ts[k].b ∧ j = 0)) := fun q x hq j => notM q _ hq (by simp; omega) (by simp; omega) j
      exact (h.th i hi').keep hall (ne _ _ l.b.1) (ne _ _ l.rb.1) (fun g hg => ne _ _ (l.cv g hg).1) (fun g hg => ne _ _ (l.wv g hg).1) (fun g hg => ne _ _ (l.ov g hg).1)
  · intro i hi
    have hi' : i < ts.length := by simpa using hi
    rw [List.getElem_set]
    by_cases e : k = i
    · subst e
      rw [if_pos rfl]
      have l := labs k hk
      refine ⟨l.b, l.rb, ?_, l.wv, l.ov⟩
      intro q hq
      simp [Value.ownBlock] at hq
      subst hq
      refine ⟨?_, ?_⟩
      · show (if g = g then _ else _) = _
        rw [if_pos rfl]
      · rcases hg with hg | hg
        · exact (hlk.cv g hg).2
        · exact hD g (by omega)
    · rw [if_neg e]
      exact labs i hi'
  · rintro j i hj (e | ⟨rfl, _⟩)
    · exact (hlk.cv j e).2
    · exact hlk.b.2

/-- The world with an instruction's blocks, ahead of the row's growing. -/
def insW (w : World) (ic : Ic) : World := ((w.alloc (.cells #[.string (dOf ic).word, .int .i64 (dOf ic).d, .bool (dOf ic).a.reg, .int .i64 (dOf ic).a.v, .bool (dOf ic).b.reg, .int .i64 (dOf ic).b.v, .bool (dOf ic).c.reg, .int .i64 (dOf ic).c.v, .int .i64 (dOf ic).k] 127)).alloc (.cells #[.string (dOf ic).word, .int .i64 (dOf ic).d, .bool (dOf ic).a.reg, .int .i64 (dOf ic).a.v, .bool (dOf ic).b.reg, .int .i64 (dOf ic).b.v, .bool (dOf ic).c.reg, .int .i64 (dOf ic).c.v, .int .i64 (dOf ic).k] 127)).drew
theorem insW_chg (w : World) (ic : Ic) : Chg (fun _ _ => False) w (insW w ic) := (((Chg.refl _ w).alloc _).alloc _).drew
theorem insW_size (w : World) (ic : Ic) : (insW w ic).heap.size = w.heap.size + 2 := by simp [insW]
theorem insW_own {w : World} {ic : Ic} {e : TypeId} {sz : Nat} {v : Value} {n : Nat} {xs : List Value} (h : w.ownsRow 0 e sz v n xs) : (insW w ic).ownsRow 0 e sz v n xs := ownsRow_chg h (insW_chg w ic) (fun _ _ _ e => e)
theorem insW_mach {D : Nat → Prop} {lab : Nat → Nat × Nat} {w : World} {bm mb : Nat} {tv : Value} {m : Nat → Int} {ts : List CT} (h : CMach D lab w bm mb tv m ts) (ic : Ic) : CMach D lab (insW w ic) bm mb tv m ts := h.keep (insW_chg w ic) (fun _ _ _ e => e)
theorem insW_cells (w : World) (ic : Ic) : ∀ j u', (insCells ic)[j]? = some u' → (insW w ic).cell? ((⟨w.heap.size + 1, 0, none⟩ : Addr).add j) = some u' := by
  intro j u' hj
  have hs : (w.alloc (.cells #[.string (dOf ic).word, .int .i64 (dOf ic).d, .bool (dOf ic).a.reg, .int .i64 (dOf ic).a.v, .bool (dOf ic).b.reg, .int .i64 (dOf ic).b.v, .bool (dOf ic).c.reg, .int .i64 (dOf ic).c.v, .int .i64 (dOf ic).k] 127)).heap.size = w.heap.size + 1 := by simp
  have := World.cell?_alloc_new (w.alloc (.cells #[.string (dOf ic).word, .int .i64 (dOf ic).d, .bool (dOf ic).a.reg, .int .i64 (dOf ic).a.v, .bool (dOf ic).b.reg, .int .i64 (dOf ic).b.v, .bool (dOf ic).c.reg, .int .i64 (dOf ic).c.v, .int .i64 (dOf ic).k] 127)) (insCells ic).toArray 127 j
  rw [hs] at this
  have e : (⟨w.heap.size + 1, 0, none⟩ : Addr).add j = ⟨w.heap.size + 1, j, none⟩ := by simp [Addr.add]; omega
  rw [e]
  refine Eq.trans ?_ (this.trans ?_)
  · rfl
  · simpa using hj
theorem insCells_one (ic : Ic) : ∀ u' ∈ insCells ic, u'.oneCell' = true := by
  intro u' hu
  simp only [insCells, List.mem_cons, List.not_mem_nil, or_false] at hu
  rcases hu with rfl | rfl | rfl | rfl | rfl | rfl | rfl | rfl | rfl <;> rfl
theorem ins_cell {D : Nat → Prop} {lab : Nat → Nat × Nat} {w w3 : World} {bm mb k : Nat} {tv : Value} {m : Nat → Int} {ts : List CT} {ic : Ic} (h : CMach D lab w bm mb tv m ts) (hk : k < ts.length) (hc : Chg (fun j _ => ts[k].cv.ownBlock = some j) (insW w ic) w3) : w3.cell? ⟨ts[k].b, 0, none⟩ = some ts[k].cv :=
  (hc.cell _ 0 (by rw [insW_size]; have := lt_of_shape (h.th k hk).sh; omega) (own_ne (h.lts k hk).cv (h.lts k hk).b.1 (by simp))).trans (((insW_chg w ic).cell _ 0 (lt_of_shape (h.th k hk).sh) (fun e => e)).trans (h.th k hk).codec)
theorem ins_free {D : Nat → Prop} {lab : Nat → Nat × Nat} {w w3 : World} {bm mb k : Nat} {tv : Value} {m : Nat → Int} {ts : List CT} {ic : Ic} (h : CMach D lab w bm mb tv m ts) (hk : k < ts.length) (hc : Chg (fun j _ => ts[k].cv.ownBlock = some j) (insW w ic) w3) : w3.frozen? ⟨ts[k].b, 0, none⟩ = false :=
  (hc.frozen _ 0 (by rw [insW_size]; have := lt_of_shape (h.th k hk).sh; omega)).trans (((insW_chg w ic).frozen _ 0 (lt_of_shape (h.th k hk).sh)).trans ((h.th k hk).free 0 (by omega)))

theorem ins_bm {D : Nat → Prop} {lab : Nat → Nat × Nat} {w w3 : World} {bm mb k : Nat} {tv : Value} {m : Nat → Int} {ts : List CT} {ic : Ic} (h : CMach D lab w bm mb tv m ts) (hk : k < ts.length) (hc : Chg (fun j _ => ts[k].cv.ownBlock = some j) (insW w ic) w3) : w3.cell? ⟨bm, 1, none⟩ = some tv :=
  (hc.cell _ 1 (by rw [insW_size]; have := lt_of_shape h.sh; omega) (own_ne (h.lts k hk).cv h.lb.1 (by simp))).trans (((insW_chg w ic).cell _ 1 (lt_of_shape h.sh) (fun e => e)).trans h.tc)
theorem ins_tg {D : Nat → Prop} {lab : Nat → Nat × Nat} {w w3 : World} {bm mb k tg n tk : Nat} {m : Nat → Int} {ts : List CT} {ic : Ic} {v : Value} (h : CMach D lab w bm mb (.slice (some ⟨tg, 0, none⟩) n tk) m ts) (hk : k < ts.length) (htg : tg < w.heap.size) (hv : w.cell? ⟨tg, k, none⟩ = some v) (hc : Chg (fun j _ => ts[k].cv.ownBlock = some j) (insW w ic) w3) : w3.cell? ⟨tg, k, none⟩ = some v :=
  (hc.cell _ k (by rw [insW_size]; omega) (own_ne (h.lts k hk).cv (h.lt tg rfl).1 (by simp))).trans (((insW_chg w ic).cell _ k htg (fun e => e)).trans hv)

section
variable {D : Nat → Prop} {lab : Nat → Nat × Nat} {w : World} {bm mb bw c : Nat} {tv : Value} {m : Nat → Int} {ts : List CT} {us : List ByteArray} {u : ByteArray}

set_option maxRecDepth 100000 in
set_option maxHeartbeats 16000000 in
theorem cRow_ins (h : CMach D lab w bm mb tv m ts) (hD : ∀ k, w.heap.size ≤ k → D k) (k : Nat) (hk : ts.length = k + 1) (hf : (ts[k]'(by omega)).code.length < 4000) (hN : NotHead u us) (hw : StrsAt w bw (u :: us)) (ic : Ic) (hk3 : k < 3)
    (hins : Hid (Calls Tryz.prog 101 #[.slice (some ⟨bw, 0, none⟩) (us.length + 1) c] w fun e w' => e = .returned (.tuple #[encDI (dOf ic), .bool true]) ∧ Below w.heap.size w w')) :
    Calls Tryz.prog 71 #[ptr bm, .slice (some ⟨bw, 0, none⟩) (us.length + 1) c] w fun e w' => e = .returned (.int .i64 0) ∧ (∃ lab' cv, CMach D lab' w' bm mb tv m (ts.set k { ts[k]'(by omega) with cv := cv, code := (ts[k]'(by omega)).code ++ [ic] })) ∧ Chg (fun j _ => D j) w w' := by
  obtain ⟨i0, hi, hz0, hz1, hz2⟩ := info_parts infoCIns
  have hc := h.tc
  have h0 : w.cell? ⟨bw, 0, none⟩ = some (.string u) := hw 0 (by simp)
  obtain ⟨ta, tk, rfl⟩ := row_slice h.trow
  have H := hid h
  clear h hw
  unfold encDI at hins
  rw [hk] at hc
  have hkk : wrap64 (((k + 1 : Nat) : Int) - 1) = (k : Int) := by unfold wrap64; omega
  have hk0 : ¬ (k : Int) < 0 := by omega
  have hkb : (k : Int) < (k : Int) + 1 := by omega
  go_enter Tryz.func71, Tryz.ntmps71
  go_upto_region 2 with fail
  go_cut [22] (fun s22 wx => s22 = .bool false ∧ wx = w)
  case first =>
    rcases head_cases hN with h1 | ⟨h1, h2⟩
    all_goals
      go_wp2_with fail
      go_meet
      case rel => exact ⟨rfl, rfl⟩
  case rest =>
    obtain ⟨rfl, rfl⟩ := hcut
    go_wp2_with fail
    refine hins.out.mono ?_
    rintro e W1 ⟨rfl, b1⟩
    have H1 := H.out.below b1
    obtain ⟨tg, rfl, p1, p2⟩ := last_ptr H1 hk
    have hth := H1.th k (by omega)
    have c0 := hth.codec
    have f0 := hth.free 0 (by omega)
    obtain ⟨ca, ck, hcv⟩ := row_slice hth.crow
    rw [hcv] at c0
    have hne : ¬ ((ts[k]'(by omega)).code.length : Int) = 4000 := by omega
    have hc1 := H1.tc
    rw [hk] at hc1
    have hl1 := lt_of_shape H1.sh
    have hl2 := lt_of_shape hth.sh
    have hl3 : bm < W1.heap.size + 1 := by omega
    have hl4 : (ts[k]'(by omega)).b < W1.heap.size + 1 := by omega
    have hl5 : tg < W1.heap.size + 1 := by omega
    have B1 := hid b1
    have HH1 := hid H1
    have hkl : k < ts.length := by omega
    have HO1 := hid (insW_own (ic := ic) hth.crow)
    rw [hcv] at HO1
    have hm1 : (ts[k]'(by omega)).code.length + 1 ≤ maxLen := by unfold maxLen; omega
    have hm2 : ((ts[k]'(by omega)).code.length + 1) * 80 ≤ 140737488355328 := by omega
    clear b1 hins H1 hth
    have HCB : Hid (∀ w3, Chg (fun j _ => (Value.slice ca (ts[k]'(by omega)).code.length ck).ownBlock = some j) (insW W1 ic) w3 → w3.cell? ⟨(ts[k]'(by omega)).b, 0, none⟩ = some (.slice ca (ts[k]'(by omega)).code.length ck)) := hid (by rw [← hcv]; exact fun w3 hch => ins_cell HH1.out hkl hch)
    have HFB : Hid (∀ w3, Chg (fun j _ => (Value.slice ca (ts[k]'(by omega)).code.length ck).ownBlock = some j) (insW W1 ic) w3 → w3.frozen? ⟨(ts[k]'(by omega)).b, 0, none⟩ = false) := hid (by rw [← hcv]; exact fun w3 hch => ins_free HH1.out hkl hch)
    have HBM : Hid (∀ w3, Chg (fun j _ => (Value.slice ca (ts[k]'(by omega)).code.length ck).ownBlock = some j) (insW W1 ic) w3 → w3.cell? ⟨bm, 1, none⟩ = some (.slice (some ⟨tg, 0, none⟩) (k + 1) tk)) := hid (by rw [← hcv, ← hk]; exact fun w3 hch => ins_bm HH1.out hkl hch)
    have HTG : Hid (∀ w3, Chg (fun j _ => (Value.slice ca (ts[k]'(by omega)).code.length ck).ownBlock = some j) (insW W1 ic) w3 → w3.cell? ⟨tg, k, none⟩ = some (ptr (ts[k]'(by omega)).b)) := hid (by rw [← hcv]; exact fun w3 hch => ins_tg HH1.out hkl p2 p1 hch)
    have hxb : (ts[k]'(by omega)).b ≠ bm := fun e => by have h1 := (HH1.out.lts k hkl).b.1; rw [e, HH1.out.lb.1] at h1; simp at h1
    have hxt : (ts[k]'(by omega)).b ≠ tg := fun e => by have h1 := (HH1.out.lts k hkl).b.1; rw [e, (HH1.out.lt tg rfl).1] at h1; simp at h1
    have HCV := hid hcv
    clear hcv
    generalize hTb : (ts[k]'(by omega)).b = tb at *
    generalize hTl : (ts[k]'(by omega)).code.length = tl at *
    go_upto_region 12 with fail
    go_cut [61] (fun s61 wx => s61 = .bool false ∧ wx = W1.alloc (.cells #[.string (dOf ic).word, .int .i64 (dOf ic).d, .bool (dOf ic).a.reg, .int .i64 (dOf ic).a.v, .bool (dOf ic).b.reg, .int .i64 (dOf ic).b.v, .bool (dOf ic).c.reg, .int .i64 (dOf ic).c.v, .int .i64 (dOf ic).k] 127))
    case first =>
      go_wp2_with fail
      go_meet
      case rel => exact ⟨by rw [show ((tl : Int) == 4000) = false from by simpa using hne], rfl⟩
    obtain ⟨rfl, rfl⟩ := hcut
    go_wp2_with fail
    refine wp_region_held_drew (S := (fun w' => w'.cell? ⟨bm, 1, none⟩ = some (.slice (some ⟨tg, 0, none⟩) (k + 1) tk) ∧ w'.cell? ⟨tg, k, none⟩ = some (ptr tb))) (by kernel_rfl) ?_ (fun hHeld => ?_)
    · (try dsimp only); go_keep
    refine wpAnyH_take (i := 0) (oi := ({ dst := some 62, op := Op.move (Operand.tmp 0), type := 23, pos := "machine.go:160", after := #[], guard := none } : Oper)) (v := ?_) rfl (by kernel_rfl) (by kernel_rfl) (by kernel_rfl) (fun _ _ _ h => h) (Or.inl ⟨by rfl, ?_⟩) (by assumption) ?_
    rotate_left
    · (intro w hSw; (try dsimp only at hSw); go_simp; try (with_reducible rfl))
    try simp only [Act.put, List.setIfInBounds_toArray, List.set_cons_succ]
    refine wpAnyH_take (i := 1) (oi := ({ dst := some 63, op := Op.nilCheck (Operand.tmp 62), type := 0, pos := "machine.go:160", after := #[{ on := 0, ground := Ground.data }], guard := none } : Oper)) (v := ?_) rfl (by kernel_rfl) (by kernel_rfl) (by kernel_rfl) (fun _ _ _ h => h) (Or.inl ⟨by rfl, ?_⟩) (by assumption) ?_
    rotate_left
    · (intro w hSw; (try dsimp only at hSw); go_simp; try (with_reducible rfl))
    try simp only [Act.put, List.setIfInBounds_toArray, List.set_cons_succ]
    refine wpAnyH_take (i := 2) (oi := ({ dst := some 64, op := Op.fieldAddr 61 (Operand.tmp 63) 1, type := 0, pos := "machine.go:160", after := #[{ on := 1, ground := Ground.data }], guard := none } : Oper)) (v := ?_) rfl (by kernel_rfl) (by kernel_rfl) (by kernel_rfl) (fun _ _ _ h => h) (Or.inl ⟨by rfl, ?_⟩) (by assumption) ?_
    rotate_left
    · (intro w hSw; (try dsimp only at hSw); go_simp; try (with_reducible rfl))
    try simp only [Act.put, List.setIfInBounds_toArray, List.set_cons_succ]
    refine wpAnyH_take (i := 3) (oi := ({ dst := some 65, op := Op.load 59 (Operand.tmp 64), type := 59, pos := "machine.go:160", after := #[{ on := 2, ground := Ground.data }], guard := none } : Oper)) (v := ?_) rfl (by kernel_rfl) (by kernel_rfl) (by kernel_rfl) (fun _ _ _ h => h) (Or.inl ⟨by rfl, ?_⟩) (by assumption) ?_
    rotate_left
    · (intro w hSw; (try dsimp only at hSw); go_simp; try (with_reducible rfl))
    try simp only [Act.put, List.setIfInBounds_toArray, List.set_cons_succ]
    refine wpAnyH_take (i := 4) (oi := ({ dst := some 66, op := Op.move (Operand.tmp 5), type := 3, pos := "machine.go:160", after := #[], guard := none } : Oper)) (v := ?_) rfl (by kernel_rfl) (by kernel_rfl) (by kernel_rfl) (fun _ _ _ h => h) (Or.inl ⟨by rfl, ?_⟩) (by assumption) ?_
    rotate_left
    · (intro w hSw; (try dsimp only at hSw); go_simp; try (with_reducible rfl))
    try simp only [Act.put, List.setIfInBounds_toArray, List.set_cons_succ]
    refine wpAnyH_take (i := 5) (oi := ({ dst := some 67, op := Op.indexAddr 59 (Operand.tmp 65) (Operand.tmp 66), type := 0, pos := "machine.go:160", after := #[{ on := 3, ground := Ground.data }, { on := 4, ground := Ground.data }], guard := none } : Oper)) (v := ?_) rfl (by kernel_rfl) (by kernel_rfl) (by kernel_rfl) (fun _ _ _ h => h) (Or.inl ⟨by rfl, ?_⟩) (by assumption) ?_
    rotate_left
    · (intro w hSw; (try dsimp only at hSw); go_simp; try (with_reducible rfl))
    try simp only [Act.put, List.setIfInBounds_toArray, List.set_cons_succ]
    refine wpAnyH_take (i := 6) (oi := ({ dst := some 68, op := Op.load 94 (Operand.tmp 67), type := 94, pos := "machine.go:160", after := #[{ on := 5, ground := Ground.data }], guard := none } : Oper)) (v := ?_) rfl (by kernel_rfl) (by kernel_rfl) (by kernel_rfl) (fun _ _ _ h => h) (Or.inl ⟨by rfl, ?_⟩) (by assumption) ?_
    rotate_left
    · (intro w hSw; (try dsimp only at hSw); go_simp; try (with_reducible rfl))
    try simp only [Act.put, List.setIfInBounds_toArray, List.set_cons_succ]
    refine wpAnyH_take (i := 7) (oi := ({ dst := some 69, op := Op.move (Operand.tmp 0), type := 23, pos := "machine.go:160", after := #[], guard := none } : Oper)) (v := ?_) rfl (by kernel_rfl) (by kernel_rfl) (by kernel_rfl) (fun _ _ _ h => h) (Or.inl ⟨by rfl, ?_⟩) (by assumption) ?_
    rotate_left
    · (intro w hSw; (try dsimp only at hSw); go_simp; try (with_reducible rfl))
    try simp only [Act.put, List.setIfInBounds_toArray, List.set_cons_succ]
    refine wpAnyH_take (i := 8) (oi := ({ dst := some 70, op := Op.nilCheck (Operand.tmp 69), type := 0, pos := "machine.go:160", after := #[{ on := 7, ground := Ground.data }], guard := none } : Oper)) (v := ?_) rfl (by kernel_rfl) (by kernel_rfl) (by kernel_rfl) (fun _ _ _ h => h) (Or.inl ⟨by rfl, ?_⟩) (by assumption) ?_
    rotate_left
    · (intro w hSw; (try dsimp only at hSw); go_simp; try (with_reducible rfl))
    try simp only [Act.put, List.setIfInBounds_toArray, List.set_cons_succ]
    refine wpAnyH_take (i := 9) (oi := ({ dst := some 71, op := Op.fieldAddr 61 (Operand.tmp 70) 1, type := 0, pos := "machine.go:160", after := #[{ on := 8, ground := Ground.data }], guard := none } : Oper)) (v := ?_) rfl (by kernel_rfl) (by kernel_rfl) (by kernel_rfl) (fun _ _ _ h => h) (Or.inl ⟨by rfl, ?_⟩) (by assumption) ?_
    rotate_left
    · (intro w hSw; (try dsimp only at hSw); go_simp; try (with_reducible rfl))
    try simp only [Act.put, List.setIfInBounds_toArray, List.set_cons_succ]
    refine wpAnyH_take (i := 10) (oi := ({ dst := some 72, op := Op.load 59 (Operand.tmp 71), type := 59, pos := "machine.go:160", after := #[{ on := 9, ground := Ground.data }], guard := none } : Oper)) (v := ?_) rfl (by kernel_rfl) (by kernel_rfl) (by kernel_rfl) (fun _ _ _ h => h) (Or.inl ⟨by rfl, ?_⟩) (by assumption) ?_
    rotate_left
    · (intro w hSw; (try dsimp only at hSw); go_simp; try (with_reducible rfl))
    try simp only [Act.put, List.setIfInBounds_toArray, List.set_cons_succ]
    refine wpAnyH_take (i := 11) (oi := ({ dst := some 73, op := Op.move (Operand.tmp 5), type := 3, pos := "machine.go:160", after := #[], guard := none } : Oper)) (v := ?_) rfl (by kernel_rfl) (by kernel_rfl) (by kernel_rfl) (fun _ _ _ h => h) (Or.inl ⟨by rfl, ?_⟩) (by assumption) ?_
    rotate_left
    · (intro w hSw; (try dsimp only at hSw); go_simp; try (with_reducible rfl))
    try simp only [Act.put, List.setIfInBounds_toArray, List.set_cons_succ]
    refine wpAnyH_take (i := 12) (oi := ({ dst := some 74, op := Op.indexAddr 59 (Operand.tmp 72) (Operand.tmp 73), type := 0, pos := "machine.go:160", after := #[{ on := 10, ground := Ground.data }, { on := 11, ground := Ground.data }], guard := none } : Oper)) (v := ?_) rfl (by kernel_rfl) (by kernel_rfl) (by kernel_rfl) (fun _ _ _ h => h) (Or.inl ⟨by rfl, ?_⟩) (by assumption) ?_
    rotate_left
    · (intro w hSw; (try dsimp only at hSw); go_simp; try (with_reducible rfl))
    try simp only [Act.put, List.setIfInBounds_toArray, List.set_cons_succ]
    refine wpAnyH_take (i := 13) (oi := ({ dst := some 75, op := Op.load 94 (Operand.tmp 74), type := 94, pos := "machine.go:160", after := #[{ on := 12, ground := Ground.data }], guard := none } : Oper)) (v := ?_) rfl (by kernel_rfl) (by kernel_rfl) (by kernel_rfl) (fun _ _ _ h => h) (Or.inl ⟨by rfl, ?_⟩) (by assumption) ?_
    rotate_left
    · (intro w hSw; (try dsimp only at hSw); go_simp; try (with_reducible rfl))
    try simp only [Act.put, List.setIfInBounds_toArray, List.set_cons_succ]
    refine wpAnyH_take (i := 14) (oi := ({ dst := some 76, op := Op.nilCheck (Operand.tmp 75), type := 0, pos := "machine.go:160", after := #[{ on := 13, ground := Ground.data }], guard := none } : Oper)) (v := ?_) rfl (by kernel_rfl) (by kernel_rfl) (by kernel_rfl) (fun _ _ _ h => h) (Or.inl ⟨by rfl, ?_⟩) (by assumption) ?_
    rotate_left
    · (intro w hSw; (try dsimp only at hSw); go_simp; try (with_reducible rfl))
    try simp only [Act.put, List.setIfInBounds_toArray, List.set_cons_succ]
    refine wpAnyH_take (i := 15) (oi := ({ dst := some 77, op := Op.fieldAddr 93 (Operand.tmp 76) 0, type := 0, pos := "machine.go:160", after := #[{ on := 14, ground := Ground.data }], guard := none } : Oper)) (v := ?_) rfl (by kernel_rfl) (by kernel_rfl) (by kernel_rfl) (fun _ _ _ h => h) (Or.inl ⟨by rfl, ?_⟩) (by assumption) ?_
    rotate_left
    · (intro w hSw; (try dsimp only at hSw); go_simp; try (with_reducible rfl))
    try simp only [Act.put, List.setIfInBounds_toArray, List.set_cons_succ]
    refine wpAnyH_ready (rs := [16, 17]) (by kernel_rfl) (by simp) ?_
    refine AllReadyH.cons rfl (fun K hK => ?_) ?_
    · go_simp
      refine hK.out _ _ ?_ (fun hHeld => ?_)
      · (try dsimp only); go_keep
      clear hK K
      refine wpAnyH_ready (rs := [17]) (by kernel_rfl) (by simp) ?_
      refine AllReadyH.cons rfl (fun K hK => ?_) ?_
      · go_simp
        refine hK.out _ _ ?_ (fun hHeld => ?_)
        · (try dsimp only); go_keep
        clear hK K
        refine wpAnyH_ready (rs := [18]) (by kernel_rfl) (by simp) ?_
        refine AllReadyH.cons rfl (fun K hK => ?_) ?_
        · go_simp
          refine hK.out _ _ ?_ (fun hHeld => ?_)
          · (try dsimp only); go_keep
          clear hK K
          refine wpAnyH_ready (rs := [19]) (by kernel_rfl) (by simp) ?_
          refine AllReadyH.cons rfl (fun K hK => ?_) ?_
          · (refine step_appN rfl (.tmp 78) (.tmp 80) 90 rfl 127 i0 (.agg #[.string ⟨#[]⟩, .int .i64 0, .bool false, .int .i64 0, .bool false, .int .i64 0, .bool false, .int .i64 0, .int .i64 0]) 9 80 (by decide) Tryz.underlying90 hi hz0 hz1 hz2 rfl (.slice ca tl ck) tl ((ts[k]'(by omega)).code.flatMap insCells) rfl ?own ⟨W1.heap.size + 1, 0, none⟩ (insCells ic) rfl rfl ?cel (insCells_one ic) hm1 hm2 ?_; (case own => exact HO1.out); (case cel => exact insW_cells W1 ic); intro q cp w3 ho hch hg; have hcb := HCB.out w3 hch; have hfb := HFB.out w3 hch; have hbb := HBM.out w3 hch; have htt := HTG.out w3 hch; have HO := hid ho; have HC := hid hch; have HG := hid hg; clear ho hch hg)
            refine hK.out _ _ ?_ (fun hHeld => ?_)
            · (try dsimp only); go_keep
            clear hK K
            refine wpAnyH_take (i := 20) (oi := ({ dst := some 82, op := Op.nilCheck (Operand.tmp 68), type := 0, pos := "machine.go:160", after := #[{ on := 6, ground := Ground.data }, { on := 0, ground := Ground.phase }, { on := 1, ground := Ground.phase }, { on := 2, ground := Ground.phase }, { on := 3, ground := Ground.phase }, { on := 4, ground := Ground.phase }, { on := 5, ground := Ground.phase }, { on := 6, ground := Ground.phase }, { on := 7, ground := Ground.phase }, { on := 8, ground := Ground.phase }, { on := 9, ground := Ground.phase }, { on := 10, ground := Ground.phase }, { on := 11, ground := Ground.phase }, { on := 12, ground := Ground.phase }, { on := 13, ground := Ground.phase }, { on := 14, ground := Ground.phase }, { on := 15, ground := Ground.phase }, { on := 16, ground := Ground.phase }, { on := 17, ground := Ground.phase }, { on := 18, ground := Ground.phase }, { on := 19, ground := Ground.phase }], guard := none } : Oper)) (v := ?_) rfl (by kernel_rfl) (by kernel_rfl) (by kernel_rfl) (fun _ _ _ h => h) (Or.inl ⟨by rfl, ?_⟩) (by assumption) ?_
            rotate_left
            · (intro w hSw; (try dsimp only at hSw); go_simp; try (with_reducible rfl))
            try simp only [Act.put, List.setIfInBounds_toArray]
            refine wpAnyH_take (i := 21) (oi := ({ dst := some 83, op := Op.fieldAddr 93 (Operand.tmp 82) 0, type := 0, pos := "machine.go:160", after := #[{ on := 20, ground := Ground.data }, { on := 0, ground := Ground.phase }, { on := 1, ground := Ground.phase }, { on := 2, ground := Ground.phase }, { on := 3, ground := Ground.phase }, { on := 4, ground := Ground.phase }, { on := 5, ground := Ground.phase }, { on := 6, ground := Ground.phase }, { on := 7, ground := Ground.phase }, { on := 8, ground := Ground.phase }, { on := 9, ground := Ground.phase }, { on := 10, ground := Ground.phase }, { on := 11, ground := Ground.phase }, { on := 12, ground := Ground.phase }, { on := 13, ground := Ground.phase }, { on := 14, ground := Ground.phase }, { on := 15, ground := Ground.phase }, { on := 16, ground := Ground.phase }, { on := 17, ground := Ground.phase }, { on := 18, ground := Ground.phase }, { on := 19, ground := Ground.phase }], guard := none } : Oper)) (v := ?_) rfl (by kernel_rfl) (by kernel_rfl) (by kernel_rfl) (fun _ _ _ h => h) (Or.inl ⟨by rfl, ?_⟩) (by assumption) ?_
            rotate_left
            · (intro w hSw; (try dsimp only at hSw); go_simp; try (with_reducible rfl))
            try simp only [Act.put]
            refine wpAnyH_ready (rs := [22]) (by kernel_rfl) (by simp) ?_
            refine AllReadyH.cons rfl (fun K hK => ?_) ?_
            · go_simp
              refine hK.out _ _ ?_ (fun hHeld => ?_)
              · (try dsimp only); go_keep
              clear hK K
              refine wpAnyH_done (by kernel_rfl) ?_ _
              go_wp2
              go_ret
              subst hTb
              subst hTl
              rw [← HCV.out] at HC HG
              obtain ⟨lab', r1, r2⟩ := cmach_ins (insW_mach HH1.out ic) (fun j hj => hD j (by rw [insW_size] at hj; have := B1.out.size; omega)) hkl HO.out HC.out HG.out
              exact ⟨rfl, ⟨lab', _, r1⟩, ((Chg.of_below B1.out).trans ((insW_chg W1 ic).mono (fun _ _ _ e => e.elim))).trans r2⟩
            exact AllReadyH.nil
          exact AllReadyH.nil
        exact AllReadyH.nil
      exact AllReadyH.nil
    refine AllReadyH.cons rfl (fun K hK => ?_) ?_
    · go_simp
      refine hK.out _ _ ?_ (fun hHeld => ?_)
      · (try dsimp only); go_keep
      clear hK K
      refine wpAnyH_ready (rs := [16, 18]) (by kernel_rfl) (by simp) ?_
      refine AllReadyH.cons rfl (fun K hK => ?_) ?_
      · go_simp
        refine hK.out _ _ ?_ (fun hHeld => ?_)
        · (try dsimp only); go_keep
        clear hK K
        refine wpAnyH_ready (rs := [18]) (by kernel_rfl) (by simp) ?_
        refine AllReadyH.cons rfl (fun K hK => ?_) ?_
        · go_simp
          refine hK.out _ _ ?_ (fun hHeld => ?_)
          · (try dsimp only); go_keep
          clear hK K
          refine wpAnyH_ready (rs := [19]) (by kernel_rfl) (by simp) ?_
          refine AllReadyH.cons rfl (fun K hK => ?_) ?_
          · (refine step_appN rfl (.tmp 78) (.tmp 80) 90 rfl 127 i0 (.agg #[.string ⟨#[]⟩, .int .i64 0, .bool false, .int .i64 0, .bool false, .int .i64 0, .bool false, .int .i64 0, .int .i64 0]) 9 80 (by decide) Tryz.underlying90 hi hz0 hz1 hz2 rfl (.slice ca tl ck) tl ((ts[k]'(by omega)).code.flatMap insCells) rfl ?own ⟨W1.heap.size + 1, 0, none⟩ (insCells ic) rfl rfl ?cel (insCells_one ic) hm1 hm2 ?_; (case own => exact HO1.out); (case cel => exact insW_cells W1 ic); intro q cp w3 ho hch hg; have hcb := HCB.out w3 hch; have hfb := HFB.out w3 hch; have hbb := HBM.out w3 hch; have htt := HTG.out w3 hch; have HO := hid ho; have HC := hid hch; have HG := hid hg; clear ho hch hg)
            refine hK.out _ _ ?_ (fun hHeld => ?_)
            · (try dsimp only); go_keep
            clear hK K
            refine wpAnyH_take (i := 20) (oi := ({ dst := some 82, op := Op.nilCheck (Operand.tmp 68), type := 0, pos := "machine.go:160", after := #[{ on := 6, ground := Ground.data }, { on := 0, ground := Ground.phase }, { on := 1, ground := Ground.phase }, { on := 2, ground := Ground.phase }, { on := 3, ground := Ground.phase }, { on := 4, ground := Ground.phase }, { on := 5, ground := Ground.phase }, { on := 6, ground := Ground.phase }, { on := 7, ground := Ground.phase }, { on := 8, ground := Ground.phase }, { on := 9, ground := Ground.phase }, { on := 10, ground := Ground.phase }, { on := 11, ground := Ground.phase }, { on := 12, ground := Ground.phase }, { on := 13, ground := Ground.phase }, { on := 14, ground := Ground.phase }, { on := 15, ground := Ground.phase }, { on := 16, ground := Ground.phase }, { on := 17, ground := Ground.phase }, { on := 18, ground := Ground.phase }, { on := 19, ground := Ground.phase }], guard := none } : Oper)) (v := ?_) rfl (by kernel_rfl) (by kernel_rfl) (by kernel_rfl) (fun _ _ _ h => h) (Or.inl ⟨by rfl, ?_⟩) (by assumption) ?_
            rotate_left
            · (intro w hSw; (try dsimp only at hSw); go_simp; try (with_reducible rfl))
            try simp only [Act.put, List.setIfInBounds_toArray]
            refine wpAnyH_take (i := 21) (oi := ({ dst := some 83, op := Op.fieldAddr 93 (Operand.tmp 82) 0, type := 0, pos := "machine.go:160", after := #[{ on := 20, ground := Ground.data }, { on := 0, ground := Ground.phase }, { on := 1, ground := Ground.phase }, { on := 2, ground := Ground.phase }, { on := 3, ground := Ground.phase }, { on := 4, ground := Ground.phase }, { on := 5, ground := Ground.phase }, { on := 6, ground := Ground.phase }, { on := 7, ground := Ground.phase }, { on := 8, ground := Ground.phase }, { on := 9, ground := Ground.phase }, { on := 10, ground := Ground.phase }, { on := 11, ground := Ground.phase }, { on := 12, ground := Ground.phase }, { on := 13, ground := Ground.phase }, { on := 14, ground := Ground.phase }, { on := 15, ground := Ground.phase }, { on := 16, ground := Ground.phase }, { on := 17, ground := Ground.phase }, { on := 18, ground := Ground.phase }, { on := 19, ground := Ground.phase }], guard := none } : Oper)) (v := ?_) rfl (by kernel_rfl) (by kernel_rfl) (by kernel_rfl) (fun _ _ _ h => h) (Or.inl ⟨by rfl, ?_⟩) (by assumption) ?_
            rotate_left
            · (intro w hSw; (try dsimp only at hSw); go_simp; try (with_reducible rfl))
            try simp only [Act.put]
            refine wpAnyH_ready (rs := [22]) (by kernel_rfl) (by simp) ?_
            refine AllReadyH.cons rfl (fun K hK => ?_) ?_
            · go_simp
              refine hK.out _ _ ?_ (fun hHeld => ?_)
              · (try dsimp only); go_keep
              clear hK K
              refine wpAnyH_done (by kernel_rfl) ?_ _
              go_wp2
              go_ret
              subst hTb
              subst hTl
              rw [← HCV.out] at HC HG
              obtain ⟨lab', r1, r2⟩ := cmach_ins (insW_mach HH1.out ic) (fun j hj => hD j (by rw [insW_size] at hj; have := B1.out.size; omega)) hkl HO.out HC.out HG.out
              exact ⟨rfl, ⟨lab', _, r1⟩, ((Chg.of_below B1.out).trans ((insW_chg W1 ic).mono (fun _ _ _ e => e.elim))).trans r2⟩
            exact AllReadyH.nil
          exact AllReadyH.nil
        exact AllReadyH.nil
      refine AllReadyH.cons rfl (fun K hK => ?_) ?_
      · go_simp
        refine hK.out _ _ ?_ (fun hHeld => ?_)
        · (try dsimp only); go_keep
        clear hK K
        refine wpAnyH_ready (rs := [16]) (by kernel_rfl) (by simp) ?_
        refine AllReadyH.cons rfl (fun K hK => ?_) ?_
        · go_simp
          refine hK.out _ _ ?_ (fun hHeld => ?_)
          · (try dsimp only); go_keep
          clear hK K
          refine wpAnyH_ready (rs := [19]) (by kernel_rfl) (by simp) ?_
          refine AllReadyH.cons rfl (fun K hK => ?_) ?_
          · (refine step_appN rfl (.tmp 78) (.tmp 80) 90 rfl 127 i0 (.agg #[.string ⟨#[]⟩, .int .i64 0, .bool false, .int .i64 0, .bool false, .int .i64 0, .bool false, .int .i64 0, .int .i64 0]) 9 80 (by decide) Tryz.underlying90 hi hz0 hz1 hz2 rfl (.slice ca tl ck) tl ((ts[k]'(by omega)).code.flatMap insCells) rfl ?own ⟨W1.heap.size + 1, 0, none⟩ (insCells ic) rfl rfl ?cel (insCells_one ic) hm1 hm2 ?_; (case own => exact HO1.out); (case cel => exact insW_cells W1 ic); intro q cp w3 ho hch hg; have hcb := HCB.out w3 hch; have hfb := HFB.out w3 hch; have hbb := HBM.out w3 hch; have htt := HTG.out w3 hch; have HO := hid ho; have HC := hid hch; have HG := hid hg; clear ho hch hg)
            refine hK.out _ _ ?_ (fun hHeld => ?_)
            · (try dsimp only); go_keep
            clear hK K
            refine wpAnyH_take (i := 20) (oi := ({ dst := some 82, op := Op.nilCheck (Operand.tmp 68), type := 0, pos := "machine.go:160", after := #[{ on := 6, ground := Ground.data }, { on := 0, ground := Ground.phase }, { on := 1, ground := Ground.phase }, { on := 2, ground := Ground.phase }, { on := 3, ground := Ground.phase }, { on := 4, ground := Ground.phase }, { on := 5, ground := Ground.phase }, { on := 6, ground := Ground.phase }, { on := 7, ground := Ground.phase }, { on := 8, ground := Ground.phase }, { on := 9, ground := Ground.phase }, { on := 10, ground := Ground.phase }, { on := 11, ground := Ground.phase }, { on := 12, ground := Ground.phase }, { on := 13, ground := Ground.phase }, { on := 14, ground := Ground.phase }, { on := 15, ground := Ground.phase }, { on := 16, ground := Ground.phase }, { on := 17, ground := Ground.phase }, { on := 18, ground := Ground.phase }, { on := 19, ground := Ground.phase }], guard := none } : Oper)) (v := ?_) rfl (by kernel_rfl) (by kernel_rfl) (by kernel_rfl) (fun _ _ _ h => h) (Or.inl ⟨by rfl, ?_⟩) (by assumption) ?_
            rotate_left
            · (intro w hSw; (try dsimp only at hSw); go_simp; try (with_reducible rfl))
            try simp only [Act.put, List.setIfInBounds_toArray]
            refine wpAnyH_take (i := 21) (oi := ({ dst := some 83, op := Op.fieldAddr 93 (Operand.tmp 82) 0, type := 0, pos := "machine.go:160", after := #[{ on := 20, ground := Ground.data }, { on := 0, ground := Ground.phase }, { on := 1, ground := Ground.phase }, { on := 2, ground := Ground.phase }, { on := 3, ground := Ground.phase }, { on := 4, ground := Ground.phase }, { on := 5, ground := Ground.phase }, { on := 6, ground := Ground.phase }, { on := 7, ground := Ground.phase }, { on := 8, ground := Ground.phase }, { on := 9, ground := Ground.phase }, { on := 10, ground := Ground.phase }, { on := 11, ground := Ground.phase }, { on := 12, ground := Ground.phase }, { on := 13, ground := Ground.phase }, { on := 14, ground := Ground.phase }, { on := 15, ground := Ground.phase }, { on := 16, ground := Ground.phase }, { on := 17, ground := Ground.phase }, { on := 18, ground := Ground.phase }, { on := 19, ground := Ground.phase }], guard := none } : Oper)) (v := ?_) rfl (by kernel_rfl) (by kernel_rfl) (by kernel_rfl) (fun _ _ _ h => h) (Or.inl ⟨by rfl, ?_⟩) (by assumption) ?_
            rotate_left
            · (intro w hSw; (try dsimp only at hSw); go_simp; try (with_reducible rfl))
            try simp only [Act.put]
            refine wpAnyH_ready (rs := [22]) (by kernel_rfl) (by simp) ?_
            refine AllReadyH.cons rfl (fun K hK => ?_) ?_
            · go_simp
              refine hK.out _ _ ?_ (fun hHeld => ?_)
              · (try dsimp only); go_keep
              clear hK K
              refine wpAnyH_done (by kernel_rfl) ?_ _
              go_wp2
              go_ret
              subst hTb
              subst hTl
              rw [← HCV.out] at HC HG
              obtain ⟨lab', r1, r2⟩ := cmach_ins (insW_mach HH1.out ic) (fun j hj => hD j (by rw [insW_size] at hj; have := B1.out.size; omega)) hkl HO.out HC.out HG.out
              exact ⟨rfl, ⟨lab', _, r1⟩, ((Chg.of_below B1.out).trans ((insW_chg W1 ic).mono (fun _ _ _ e => e.elim))).trans r2⟩
            exact AllReadyH.nil
          exact AllReadyH.nil
        exact AllReadyH.nil
      exact AllReadyH.nil
    exact AllReadyH.nil
end
end Go.Proofs.YtfhkfnoajbbfdaaGreatDoor
