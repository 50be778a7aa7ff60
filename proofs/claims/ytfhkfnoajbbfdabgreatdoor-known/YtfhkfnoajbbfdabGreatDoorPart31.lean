import Derived.Test.YtfhkfnoajbbfdabGreatDoorPart30
import Derived.Test.YtfhkfnoajbbfdabGreatDoorShelf2
import Derived.Test.YtfhkfnoajbbfdabGreatDoorPart28
import Derived.Test.YtfhkfnoajbbfdabGreatDoorPart17
import Derived.WalkKit
import Derived.Test.YtfhkfnoajbbfdabGreatDoorProg
import Derived.Test.YtfhkfnoajbbfdabGreatDoorPart01
import Derived.Test.YtfhkfnoajbbfdabGreatDoorPart04
import Derived.Test.YtfhkfnoajbbfdabGreatDoorPart14
/- tooMuch: its loop (written by gen-pr39.py). -/
namespace Go.Proofs.YtfhkfnoajbbfdabGreatDoor
open Go.RowKit Go.Shelf

attribute [local go_sem] Oper.semAt_some ta_qSet_pAtomic ta_qOperate_pAtomic ta_qGet_pAtomic ta_qPut_pAtomic ta_qOut_pAtomic ta_pAtomic_pAtomic ta_pIf_pAtomic ta_pLoop_pAtomic

section
variable {D : Nat → Prop} {lab : Nat → Nat × Nat} {w : World} {br sb bs : Nat} {tv ov : Value} {st : RS} {ms : List HM} {kk : Nat}

set_option maxRecDepth 100000 in
set_option maxHeartbeats 4000000 in
theorem much_loop (n : Nat) (hn : 6 ≤ n) (h : RMach D lab w br sb bs tv ov st ms) (hok : st.Ok kk) (hdp : st.Deep) (hc : ¬ 6 < st.cells) (ht : st.threads.length ≤ 3) :
    CallsIn Fence.wide n Tryz.prog 65 #[ptr br] w fun e w' => e = .returned (.bool (st.threads.any st.thrMuch)) ∧ Below w.heap.size w w' := by
  have lb := lt_of_shape h.sh
  have c2 : (w.alloc (.cells #[.bool false] 4)).cell? ⟨br, 2, none⟩ = some (.int .i64 st.cells) := (World.cell?_alloc_past _ _ _ lb).trans h.c2
  obtain ⟨ta, tk, htv⟩ := h.threadS
  have c1 : (w.alloc (.cells #[.bool false] 4)).cell? ⟨br, 1, none⟩ = some (.slice ta st.threads.length tk) := by rw [← htv]; exact (World.cell?_alloc_past _ _ _ lb).trans h.c1
  have ht' : ¬ 3 < (st.threads.length : Int) := by omega
  have hw : ∀ f, Fence.wide.fn f := fun _ => trivial
  have H := hid h
  have HTV := hid htv
  clear h htv
  refine callsIn_of_wp_marks Tryz.func65 rfl trivial ?_ rfl
  simp only [Tryz.ntmps65, List.size_toArray, List.length_cons, List.length_nil, Nat.reduceAdd, Nat.reduceSub, Array.replicate_succ, Array.replicate_zero, List.push_toArray, List.append_toArray, List.nil_append, List.cons_append]
  gi_wp2
  refine wpIn_loop (fun a W => ∃ k u4 u29 u30 u31 u32 u33 u34 u35 u36 u37 u38 u39 u40 u41 u42 u43 u44 u61 Ds, k ≤ st.threads.length ∧ a = muchA br w.heap.size st.cells (.slice ta st.threads.length tk) st.threads.length k u4 u29 u30 u31 u32 u33 u34 u35 u36 u37 u38 u39 u40 u41 u42 u43 u44 u61 Ds ∧ MuchI w st k Ds W) (fun a _ => st.threads.length - (intOf (a.tmps[28]?.getD undef)).toNat) ?_ ?_
  · refine ⟨0, undef, undef, undef, undef, undef, undef, undef, undef, undef, undef, undef, undef, undef, undef, undef, undef, undef, undef, [], Nat.zero_le _, rfl, ⟨(Below.refl _ w).alloc (Nat.le_refl _) _, Boxed.new w 4 _, List.nodup_nil, fun D hD => by simp at hD, fun j _ hj => by omega⟩⟩
  · rintro a W ⟨k, u4, u29, u30, u31, u32, u33, u34, u35, u36, u37, u38, u39, u40, u41, u42, u43, u44, u61, Ds, hk, rfl, hI⟩
    have HI := hid hI
    clear hI
    by_cases hlt : k < st.threads.length
    · have hlt' : (k : Int) < (st.threads.length : Int) := by omega
      obtain ⟨g, cp, htv, hcp, hg, htl, q1, q2, q3, ⟨ra, rc, hrv⟩, hrow, h14⟩ := (H.out.below HI.out.low).thread_at hok k hlt
      rw [HTV.out] at htv
      obtain ⟨rfl, rfl⟩ : ta = some ⟨g, 0, none⟩ ∧ tk = cp := by simpa using htv
      have KB := hid ((callsIn_wide (n := n - 1)).2 (thread_blocks H.out hok hdp k hlt htl HI.out.low))
      rw [hrv] at q3 hrow KB
      have HROW := hid hrow
      have h1n : 1 ≤ n := by omega
      have cb := HI.out.box.cell
      have fb := HI.out.box.frozen
      generalize hM : ((st.ents st.threads[k]).map (cntE st.hs (kdA st.hs) 3)).sum = Mb at *
      generalize ms[st.threads[k]].b = tb at *
      clear htv hrow
      gi_wp2_with (gi_at_call 99; refine KB.out.mono ?_; clear KB; rintro e W1 ⟨rfl, b1⟩; have cb1 := (b1.cell (p := ⟨w.heap.size, 0, none⟩) (World.block_lt_of_cell? _ _ cb)).trans cb; have fb1 := (b1.frozen (p := ⟨w.heap.size, 0, none⟩) (World.block_lt_of_cell? _ _ cb)).trans fb; have q31 := (b1.cell (p := ⟨tb, 0, none⟩) q2).trans q3; have B1 := hid b1; clear b1)
      · have h3 : 3 < Mb := by assumption
        refine much_leave rfl ((HI.out.low.trans (B1.out.mono HI.out.low.size)).setCell (p := ⟨w.heap.size, 0, none⟩) (Nat.le_refl _) _) (cell_set_eq cb1 rfl) HI.out.nd (fun D hD => ⟨(HI.out.ds D hD).1, (KeepsOthers.setCell W1 ⟨w.heap.size, 0, none⟩ (.bool true)).same D _ ((B1.out.block D (HI.out.ds D hD).2.1).trans (HI.out.ds D hD).2.2) rfl⟩) _ ?_
        rw [List.any_eq_true]
        exact ⟨st.threads[k], List.getElem_mem hlt, by simp [RS.thrMuch, hM, h3]⟩
      · have h3 : ¬ 3 < Mb := by first | assumption | omega
        refine ((callsIn_wide (n := n - 1)).2 (all_any ra _ rc W1)).mono ?_
        rintro e w' ⟨rfl, rfl⟩
        gi_wp2
        have hBB := B1.out
        obtain ⟨W2, hW2⟩ : ∃ W2, W1.alloc (.cells #[.slice ra (st.ents st.threads[k]).length rc] 154) = W2 := ⟨_, rfl⟩
        have hB2 : Below W1.heap.size W1 W2 := by rw [← hW2]; exact (Below.refl _ W1).alloc (Nat.le_refl _) _
        have hBt : W2.cell? ⟨W1.heap.size, 0, none⟩ = some (.slice ra (st.ents st.threads[k]).length rc) := by rw [← hW2]; exact World.cell?_alloc_new _ _ _ 0
        have hsz2 : W2.heap.size = W1.heap.size + 1 := by rw [← hW2]; simp
        rw [hW2]
        clear hW2
        have hWW : Below W.heap.size W W2 := hBB.trans (hB2.mono hBB.size)
        have low2 : Below w.heap.size w W2 := HI.out.low.trans (hWW.mono HI.out.low.size)
        have hR2 := hid (H.out.below low2)
        have hrow2 := ownsRow_chg HROW.out (Chg.of_below (M := fun _ _ => False) hWW) (fun _ _ _ e => e)
        have hl2 : w.heap.size < W2.heap.size := by have := World.block_lt_of_cell? _ _ cb1; simp at this; omega
        have bx2 : Boxed W2 w.heap.size 4 (.bool false) := (hWW.block w.heap.size (World.block_lt_of_cell? _ _ cb)).trans HI.out.box
        have hds2 : ∀ D ∈ Ds, w.heap.size + 1 ≤ D ∧ D < W2.heap.size ∧ W2.heap[D]? = some (.deferred (some [])) := fun D hD => ⟨(HI.out.ds D hD).1, Nat.lt_of_lt_of_le (HI.out.ds D hD).2.1 hWW.size, (hWW.block D (HI.out.ds D hD).2.1).trans (HI.out.ds D hD).2.2⟩
        refine wpIn_rangeFunc_ownH rfl h1n (gf := 142) (lb := #[.pointer (some ⟨W1.heap.size, 0, none⟩)]) rfl trivial (enters_of Tryz.func142 (by kernel_rfl) rfl)
          (all_stops (n - 1) W1.heap.size W2 hR2.out.ar hrow2 h14 (ents_G hdp hok _) hBt) belowK_t (belowK_b (Nat.le_refl _)) (Below.refl _ _) (fun _ => rfl)
          (fun pre W' => (∀ x ∈ pre, enMuch st.hs x.1 = false) ∧ Below W2.heap.size W2 W')
          (fun c' pre W' => ((c' = .ret ∧ ∃ x ∈ pre, enMuch st.hs x.1 = true) ∧ (Boxed W' w.heap.size 4 (.bool true) ∧ (∀ D ∈ Ds, W'.heap[D]? = some (.deferred (some []))))) ∧ Below w.heap.size w W')
          (OwnFrom.and (fun _ _ _ _ hs _ _ => hs) (ownFrom_below (Nat.le_refl _) (Nat.le_refl _)))
          (fun c' => OwnFrom.and (OwnFrom.and (fun _ _ _ _ hs _ _ => hs) (OwnFrom.and (Own.from (boxed_own _ _ _) _) (fun pre X Y row hs hg hr => ?own))) (ownFrom_below (Nat.le_refl _) (by omega)))
          ⟨fun x hx => by simp at hx, Below.refl _ _⟩
          (fun x a' _ => a' = { tmps := #[ptr br, undef, .pointer (some ⟨w.heap.size, 0, none⟩), undef, ptr tb, enV (idsOf ms) x.1, undef, undef, ptr br, .pointer (some ⟨br, 0, none⟩), .pointer (some ⟨br, 2, none⟩), .int .i64 st.cells, .bool false, .bool false, ptr br, .pointer (some ⟨br, 0, none⟩), .pointer (some ⟨br, 0, none⟩), .pointer (some ⟨br, 1, none⟩), .slice (some ⟨g, 0, none⟩) st.threads.length tk, .int .i64 (st.threads.length : Int), .bool false, .bool false, ptr br, .pointer (some ⟨br, 0, none⟩), .pointer (some ⟨br, 0, none⟩), .pointer (some ⟨br, 1, none⟩), .slice (some ⟨g, 0, none⟩) st.threads.length tk, .int .i64 (st.threads.length : Int), .int .i64 (k : Int), .bool true, .pointer (some ⟨g, k, none⟩), ptr tb, ptr tb, .pointer (some ⟨tb, 0, none⟩), .pointer (some ⟨tb, 0, none⟩), .pointer (some ⟨tb, 0, none⟩), .slice ra (st.ents st.threads[k]).length rc, .int .i64 Mb, .bool (decide (3 < Mb)), ptr tb, .pointer (some ⟨tb, 0, none⟩), .pointer (some ⟨tb, 0, none⟩), .pointer (some ⟨tb, 0, none⟩), .slice ra (st.ents st.threads[k]).length rc, .func (.func 142) #[] #[.pointer (some ⟨W1.heap.size, 0, none⟩)], enV (idsOf ms) x.1, undef, undef, undef, undef, undef, undef, undef, undef, undef, undef, undef, undef, undef, undef, undef, u61], defers := [] })
          (fun x a' _ X Y row hs _ _ => hs)
          ?assign ?body ?done ?stop
        case own =>
          intro D hD
          exact (hg.block D (Array.getElem?_eq_some_iff.1 (hs D hD)).1 (fun e => by have := (hr D e.symm).1; have := (hds2 D hD).2.1; omega)).trans (hs D hD)
        case assign =>
          rintro l pre x W' K hI hK
          gi_wp2
          exact hK _ _ (KeepsFrom.refl _ _) (Below.refl _ _) hI rfl
        case done =>
          rintro D' ys W' hD hS ⟨hno, hb⟩ hK
          gi_wp2
          refine ⟨⟨k + 1, _, _, _, _, _, _, _, _, _, _, _, _, _, _, _, _, _, _, D' :: Ds, by omega, rfl, ⟨low2.trans (hb.mono (by omega)), (hb.block w.heap.size hl2).trans bx2, List.nodup_cons.2 ⟨fun e => by have := (hds2 D' e).2.1; omega, HI.out.nd⟩, fun E hE => ?_, fun j hj hjk => ?_⟩⟩, ?_⟩
          · rcases List.mem_cons.1 hE with rfl | hE
            · exact ⟨by omega, (Array.getElem?_eq_some_iff.1 hK).1, hK⟩
            · exact ⟨(hds2 E hE).1, Nat.lt_of_lt_of_le (hds2 E hE).2.1 hb.size, (hb.block E (hds2 E hE).2.1).trans (hds2 E hE).2.2⟩
          · by_cases e : j = k
            · subst e
              have : (walkL st.hs 3 (st.ents st.threads[j])).any (enMuch st.hs) = false := by
                rw [List.any_eq_false]
                intro y hy
                rw [← hS] at hy
                obtain ⟨x, hx, rfl⟩ := List.mem_map.1 hy
                simp [hno x hx]
              simp [RS.thrMuch, hM, h3, this]
            · exact HI.out.no j hj (by omega)
          · simp [intOf]; omega
        case stop =>
          rintro D' c' pre W' hD hSp ⟨⟨⟨rfl, x, hx, hm⟩, bx, hds⟩, hb⟩ hK
          gi_wp2
          refine much_leave (Ds := D' :: Ds) rfl hb bx.cell (List.nodup_cons.2 ⟨fun e => by have := (hds2 D' e).2.1; omega, HI.out.nd⟩) (fun E hE => ?_) _ ?_
          · rcases List.mem_cons.1 hE with rfl | hE
            · exact ⟨by omega, hK⟩
            · exact ⟨(hds2 E hE).1, hds E hE⟩
          · rw [List.any_eq_true]
            refine ⟨st.threads[k], List.getElem_mem hlt, ?_⟩
            have : (walkL st.hs 3 (st.ents st.threads[k])).any (enMuch st.hs) = true := List.any_eq_true.2 ⟨x.1, hSp.subset (List.mem_map.2 ⟨x, hx, rfl⟩), hm⟩
            simp [RS.thrMuch, this]
        case body =>
          rintro l pre ⟨e, he⟩ a' W' hl _ ⟨hno, hb⟩ rfl hlt
          have hsn : enMuch st.hs e = false → ∀ x ∈ pre ++ [(⟨e, he⟩ : EnIn st.hs)], enMuch st.hs x.1 = false := fun hm x hx => (List.mem_append.1 hx).elim (hno x) (fun h => by simp at h; subst h; exact hm)
          have he0 := he
          rcases he0 with ⟨s, rfl, hh⟩ | ⟨j, y, s, rfl, hj, hky, hh, ht, hl14, hsub⟩
          · have hm : enMuch st.hs (.inl s) = false := rfl
            have HS := hid (hsn hm)
            have hv : enV (idsOf ms) (.inl s) = stV s := rfl
            rw [hv]
            clear hsn hv
            rcases s with ⟨to, a⟩ | ⟨to, k, a, c⟩ | ⟨to, f, a⟩ | ⟨f, a, c⟩ | a | ⟨⟩ | a | n
            · simp only [stV]
              gi_wp2
              exact ⟨KeepsFrom.refl _ _, Below.refl _ _, HS.out, hb⟩
            · simp only [stV]
              gi_wp2
              exact ⟨KeepsFrom.refl _ _, Below.refl _ _, HS.out, hb⟩
            · simp only [stV]
              gi_wp2
              exact ⟨KeepsFrom.refl _ _, Below.refl _ _, HS.out, hb⟩
            · simp only [stV]
              gi_wp2
              exact ⟨KeepsFrom.refl _ _, Below.refl _ _, HS.out, hb⟩
            · simp only [stV]
              gi_wp2
              exact ⟨KeepsFrom.refl _ _, Below.refl _ _, HS.out, hb⟩
            · simp [stHolds] at hh
            · simp [stHolds] at hh
            · simp [stHolds] at hh
          · obtain ⟨hl5, e1, e2⟩ := enV_sub (hR2.out.ar.below hb) hj
            have HAW := hid (hR2.out.ar.below hb)
            have hrowW := (HAW.out.hd j hl5).row
            rw [e1] at hrowW
            have hcW := (HAW.out.hd j hl5).rc
            obtain ⟨ya, yc, hyr⟩ : ∃ a c, ms[j].rv = .slice a y.ents.length c := by
              rcases hrowW.2 with ⟨q1, q2⟩ | ⟨g', cap', cur, q1, _⟩
              · exact ⟨none, 0, by rw [q1, q2]⟩
              · exact ⟨_, _, q1⟩
            rw [hyr] at hrowW hcW
            have hen : enMuch st.hs (.inr j) = (HK.isAtomic (.st s) && decide (8 < (y.ents.map (cntE st.hs kdO 3)).sum)) := by simp only [enMuch, kdA, enEnts, hj, hky]
            rw [e2, hky]
            have KO := hid (CallsIn.inRound l ((callsIn_wide (n := n - 1 - 1 - 1)).2 (outs_is (f := 3) (by omega) HAW.out hrowW hl14 (fun e' he' => enG_mono 2 e' (hsub e' he')))))
            generalize ms[j].b = jb at *
            generalize (y.ents.map (cntE st.hs kdO 3)).sum = So at *
            have HSN := hid hsn
            have cbW := (hb.cell (p := ⟨w.heap.size, 0, none⟩) hl2).trans bx2.cell
            have fbW := (hb.frozen (p := ⟨w.heap.size, 0, none⟩) hl2).trans bx2.frozen
            have h1r : 1 ≤ n - 1 - 1 := by omega
            clear hsn hrowW
            rcases s with ⟨to, a⟩ | ⟨to, k, a, c⟩ | ⟨to, f, a⟩ | ⟨f, a, c⟩ | a | ⟨⟩ | a | nn
            · simp [stHolds] at hh
            · simp [stHolds] at hh
            · simp [stHolds] at hh
            · simp [stHolds] at hh
            · simp [stHolds] at hh
            · simp only [hkT]
              gi_wp2_with (gi_at_call 101; refine KO.out.mono ?_; clear KO; rintro e W3 ⟨rfl, b3⟩; have cb3 := (b3.cell (p := ⟨w.heap.size, 0, none⟩) (World.block_lt_of_cell? _ _ cbW)).trans cbW; have fb3 := (b3.frozen (p := ⟨w.heap.size, 0, none⟩) (World.block_lt_of_cell? _ _ cbW)).trans fbW; have B3 := hid b3; clear b3)
              · have h8 : 8 < So := by assumption
                have KF : KeepsFrom W2.heap.size W' W3 := KeepsFrom.of_grownBy (row := none) ⟨B3.out.os, B3.out.tape, B3.out.output, B3.out.size, fun q hq _ => B3.out.block q hq⟩ (fun q e => by cases e)
                have bx3 : Boxed W3 w.heap.size 4 (.bool false) := (B3.out.block w.heap.size (World.block_lt_of_cell? _ _ cbW)).trans ((hb.block w.heap.size hl2).trans bx2)
                have low3 : Below w.heap.size w W3 := (low2.trans (hb.mono (by omega))).trans (B3.out.mono (by have := hb.size; omega))
                refine ⟨KF.trans ((KeepsOthers.setCell W3 ⟨w.heap.size, 0, none⟩ (.bool true)).from _), ⟨⟨rfl, ⟨.inr j, he⟩, by simp, ?_⟩, bx3.set _, fun D hD => ?_⟩, low3.setCell (p := ⟨w.heap.size, 0, none⟩) (Nat.le_refl _) _⟩
                · rw [hen]; simp [HK.isAtomic, h8]
                · exact (KeepsOthers.setCell W3 ⟨w.heap.size, 0, none⟩ (.bool true)).same D _ ((B3.out.block D (Nat.lt_of_lt_of_le (hds2 D hD).2.1 hb.size)).trans ((hb.block D (hds2 D hD).2.1).trans (hds2 D hD).2.2)) rfl
              · have h8 : ¬ 8 < So := by first | assumption | omega
                have KF : KeepsFrom W2.heap.size W' W3 := KeepsFrom.of_grownBy (row := none) ⟨B3.out.os, B3.out.tape, B3.out.output, B3.out.size, fun q hq _ => B3.out.block q hq⟩ (fun q e => by cases e)
                exact ⟨KF, B3.out.mono hb.size, HSN.out (by rw [hen]; simp [h8]), hb.trans (B3.out.mono hb.size)⟩
            · simp only [hkT]
              gi_wp2
              exact ⟨KeepsFrom.refl _ _, Below.refl _ _, fun a b hx => HSN.out (by rw [hen]; rfl) ⟨a, b⟩ hx, hsz2 ▸ hb⟩
            · simp only [hkT]
              gi_wp2
              exact ⟨KeepsFrom.refl _ _, Below.refl _ _, fun a b hx => HSN.out (by rw [hen]; rfl) ⟨a, b⟩ hx, hsz2 ▸ hb⟩
    · have hlt' : ¬ (k : Int) < (st.threads.length : Int) := by omega
      have cb := HI.out.box.cell
      have fb := HI.out.box.frozen
      gi_wp2
      refine much_leave rfl (HI.out.low.setCell (p := ⟨w.heap.size, 0, none⟩) (Nat.le_refl _) _) (cell_set_eq cb rfl) HI.out.nd (fun D hD => ⟨(HI.out.ds D hD).1, (KeepsOthers.setCell W ⟨w.heap.size, 0, none⟩ (.bool false)).same D _ (HI.out.ds D hD).2.2 rfl⟩) _ ?_
      rw [List.any_eq_false]
      intro t ht
      obtain ⟨i, hi, rfl⟩ := List.getElem_of_mem ht
      have := HI.out.no i hi (by omega)
      simp [this]
end
end Go.Proofs.YtfhkfnoajbbfdabGreatDoor

/- tooMuch, whatever was read. -/
namespace Go.Proofs.YtfhkfnoajbbfdabGreatDoor
open Go.RowKit Go.Shelf

theorem much_is (W : World) (st : RS) : MuchIs W st (gMuch st) := by
  intro w br h
  obtain ⟨E, lab, sb, bs, tv, ov, ms, _, hm⟩ := h.m
  unfold gMuch
  by_cases h1 : 6 < st.cells
  · rw [decide_eq_true h1]
    exact (callsIn_wide (n := 6)).1 (much_cells 6 hm h1)
  · rw [decide_eq_false h1]
    by_cases h2 : 3 < st.threads.length
    · rw [decide_eq_true h2]
      exact (callsIn_wide (n := 6)).1 (much_threads 6 hm h1 h2)
    · rw [decide_eq_false h2]
      exact (callsIn_wide (n := 6)).1 (much_loop 6 (by omega) hm h.ok h.deep h1 (by omega))
end Go.Proofs.YtfhkfnoajbbfdabGreatDoor

/- program.Read at any text. -/
namespace Go.Proofs.YtfhkfnoajbbfdabGreatDoor
open Go.RowKit

theorem count_lines (s : ByteArray) : CountIs s (s.data.toList.count 10) := by
  intro w _
  refine (Tryz.strings_Count_one s 10 w).mono ?_
  rintro e w' ⟨rfl, rfl⟩
  exact ⟨rfl, Below.refl _ _⟩

/-- What a program's text comes to: what was read, or the fault and its line. -/
def gProg (s : ByteArray) : Except (Int × Int) RS :=
  match gLines s with
  | .error e => .error e
  | .ok st => if st.opn.length ≠ 1 then .error (3, (s.data.toList.count 10 : Int) + 1) else if gMuch st = true then .error (5, 0) else .ok st

theorem gLines_small {s : ByteArray} {st : RS} (h : gLines s = .ok st) : s.size ≤ 2000 := by
  unfold gLines at h
  by_cases hs : 2000 < s.size
  · rw [if_pos hs] at h; cases h
  · omega

/-- What program.Read answers. -/
def ProgTo (W : World) (r : Except (Int × Int) RS) (e : Ending) (w' : World) : Prop :=
  match r with
  | .error (er, ln) => ∃ bf, e = .returned (.tuple #[.pointer none, .iface 89 (ptr bf)]) ∧ W.heap.size ≤ bf ∧ FaultAt w' bf er ln ∧ Below W.heap.size W w'
  | .ok st => ∃ br, e = .returned (.tuple #[ptr br, .nilIface]) ∧ Has W w' br st

theorem read_any {W : World} (hE : Env W) (s : ByteArray) : Calls Tryz.prog 41 #[.string s] W fun e w' => ProgTo W (gProg s) e w' := by
  unfold gProg
  cases hg : gLines s with
  | error p =>
    obtain ⟨er, ln⟩ := p
    exact read_fault hE s hg
  | ok st =>
    have hs := gLines_small hg
    have hc : s.data.toList.count 10 ≤ s.data.toList.length := List.count_le_length
    have hl : s.data.toList.length = s.size := Array.length_toList
    dsimp only
    by_cases ho : st.opn.length = 1
    · rw [if_neg (by simpa using ho)]
      cases hm : gMuch st with
      | true =>
        rw [if_pos rfl]
        exact read_much hE s hg ho (hid (hm ▸ much_is W st))
      | false =>
        rw [if_neg (by simp)]
        exact read_fine hE s hg ho (hid (hm ▸ much_is W st))
    · rw [if_pos ho]
      exact read_open hE s hg ho (by omega) (hid (count_lines s))
end Go.Proofs.YtfhkfnoajbbfdabGreatDoor

/- coder.Code: what a program's code is. -/
namespace Go.Proofs.YtfhkfnoajbbfdabGreatDoor
open Go.RowKit

theorem bldAt_below {T e : TypeId} {B b : Nat} {p : Value} {bs : List Value} {W W' : World} (h : Lib.BuilderAtF T e B b p bs W) (hb : Below W.heap.size W W') : Lib.BuilderAtF T e B b p bs W' := by
  have hlt := h.lt
  obtain ⟨hB, v, hv, hown, hne⟩ := h
  exact ⟨hB, v, (hb.block b hlt).trans hv, hown.kept (row := none) ⟨hb.os, hb.tape, hb.output, hb.size, fun k hk _ => hb.block k hk⟩ (Classical.em _), hne⟩
theorem bld_below {T e : TypeId} {B b : Nat} {bs : List Value} {W W' : World} (h : Lib.IsBuilderF T e B b bs W) (hb : Below W.heap.size W W') : Lib.IsBuilderF T e B b bs W' :=
  h.elim (fun x => .inl (bldAt_below x hb)) (fun x => .inr (bldAt_below x hb))

/-- The table of strconv stays what it is. -/
def TabAt (W : World) : Prop := ∀ w, Below W.heap.size W w → Lib.TabIs Tryz.prog w "internal/strconv.uint64pow10" .u64 Lib.pow10Tab

theorem TabAt.below {W W' : World} (h : TabAt W) (hb : Below W.heap.size W W') : TabAt W' := fun w hw => h w (hb.trans (hw.mono hb.size))

def RS.locs (st : RS) (t : Nat) : List ByteArray := match st.hk t with
  | some (.inl (l, _)) => l
  | _ => []
def RS.thr (st : RS) (i : Nat) : Nat := (st.threads[i]?).getD 0
def cxAt (st : RS) (i sb lb : Nat) : Cx := ⟨st.shared, st.locs (st.thr i), i, sb, lb⟩

theorem fold_at (hs : List Hd) (x y : Cx) (f : Nat) (h : ∀ e s, cEn hs x f e s = cEn hs y f e s) : ∀ (es : List En) (s : Ck), es.foldl (fun s e => cEn hs x f e s) s = es.foldl (fun s e => cEn hs y f e s) s
  | [], _ => rfl
  | e :: r, s => by
    simp only [List.foldl_cons]
    rw [h e s]
    exact fold_at hs x y f h r _

/-- The code knows nothing of where the maps lie. -/
theorem cEn_at (hs : List Hd) (sh : List (ByteArray × Int × Int)) (loc : List ByteArray) (th sb lb sb' lb' : Nat) : ∀ (f : Nat) (e : En) (s : Ck), cEn hs ⟨sh, loc, th, sb, lb⟩ f e s = cEn hs ⟨sh, loc, th, sb', lb'⟩ f e s
  | 0, .inl _, _ => rfl
  | 0, .inr _, _ => rfl
  | f + 1, .inl _, _ => rfl
  | f + 1, .inr j, s => by
    have ih := fold_at hs ⟨sh, loc, th, sb, lb⟩ ⟨sh, loc, th, sb', lb'⟩ f (cEn_at hs sh loc th sb lb sb' lb' f)
    simp only [cEn]
    cases hs[j]? with
    | none => rfl
    | some y =>
      obtain ⟨k, es⟩ := y
      cases k with
      | inl p => rfl
      | inr st =>
        simp only
        rw [show (fun s => es.foldl (fun s e => cEn hs ⟨sh, loc, th, sb, lb⟩ f e s) s) = fun s => es.foldl (fun s e => cEn hs ⟨sh, loc, th, sb', lb'⟩ f e s) s from funext fun s => ih es s]
        rfl

/-- A thread's text; the texts of the first threads; the program's. -/
def thrText (st : RS) (i : Nat) : ByteArray := threadText st.hs (cxAt st i 0 0) (st.ents (st.thr i))
def progL (st : RS) : Nat → List UInt8
  | 0 => []
  | i + 1 => progL st i ++ (thrText st i).data.toList
def progText (st : RS) : ByteArray := ⟨(progL st st.threads.length).toArray⟩

section
variable {D : Nat → Prop} {lab : Nat → Nat × Nat} {W : World} {br sb bs : Nat} {tv ov : Value} {st : RS} {ms : List HM} {k : Nat}

def mAt (ms : List HM) (st : RS) (i : Nat) : HM := (ms[st.thr i]?).getD ⟨0, .nilIface, 0, ⟨.st .atomic, []⟩⟩

structure ThrIs (W : World) (st : RS) (ms : List HM) (tv : Value) (i : Nat) : Prop where
  row : ∃ g cp, tv = .slice (some ⟨g, 0, none⟩) st.threads.length cp ∧ W.cell? ⟨g, i, none⟩ = some (ptr (mAt ms st i).b)
  c0 : W.cell? ⟨(mAt ms st i).b, 0, none⟩ = some (mAt ms st i).rv
  c1 : W.cell? ⟨(mAt ms st i).b, 1, none⟩ = some (.map (some (mAt ms st i).mb))
  own : W.ownsRow 0 222 1 (mAt ms st i).rv (st.ents (st.thr i)).length ((st.ents (st.thr i)).map (enV (idsOf ms)))
  mp : MapIs W (mAt ms st i).mb (locF (st.locs (st.thr i))) (st.locs (st.thr i)).length
  ln : (st.locs (st.thr i)).length ≤ 4
  mem : st.thr i ∈ st.threads

theorem thr_is (h : RMach D lab W br sb bs tv ov st ms) (hok : st.Ok k) (i : Nat) (hi : i < st.threads.length) : ThrIs W st ms tv i := by
  have ht : st.thr i = st.threads[i] := by unfold RS.thr; rw [List.getElem?_eq_getElem hi]; rfl
  obtain ⟨g, cp, e1, _, _, hlt, e2, _, e3, _, e4, _⟩ := h.thread_at hok i hi
  have hm : mAt ms st i = ms[st.threads[i]] := by unfold mAt; rw [ht, List.getElem?_eq_getElem hlt]; rfl
  have hmem : st.threads[i] ∈ st.threads := List.getElem_mem hi
  obtain ⟨l, c, q1, q2, q3⟩ := hok.thr _ hmem
  obtain ⟨y, hy, hyk⟩ := hk_some q1
  have hx := h.hsAt _ hlt
  have hyy : y = ms[st.threads[i]].h := by rw [hx] at hy; simpa using hy.symm
  have hkd := (h.hd _ hlt).kind
  rw [← hyy, hyk] at hkd
  obtain ⟨k1, k2, k3⟩ := hkd
  have hl : st.locs (st.thr i) = l := by unfold RS.locs; rw [ht, q1]
  exact { row := ⟨g, cp, e1, by rw [hm]; exact e2⟩, c0 := by rw [hm]; exact e3, c1 := by rw [hm]; exact k1, own := by rw [hm, ht]; exact e4, mp := by rw [hm, hl]; exact k3, ln := by rw [hl]; exact q3, mem := by rw [ht]; exact hmem }
end

/-- What the coder of a thread has come to. -/
abbrev thrCk (st : RS) (i : Nat) : Ck := (st.ents (st.thr i)).foldl (fun s e => cEn st.hs (cxAt st i 0 0) 3 e s) Ck.none'

theorem endC_g (s : Ck) : s.endC.g ≤ s.g + s.T.length + 2 := by
  unfold Ck.endC
  split
  · show s.g + 1 ≤ _; omega
  · show (((s.add [yHalt]).lands s.T).g + 1) ≤ _
    rw [lands_g]
    show s.g + 1 + s.T.length + 1 ≤ _
    omega

theorem endC_ne (s : Ck) : s.endC.L ≠ [] := by
  unfold Ck.endC
  split
  · show s.L ++ [_] ≠ []; simp
  · show ((s.add [yHalt]).lands s.T).L ++ [_] ≠ []; simp

theorem text_len {s : Ck} (h : s.Ok) (hG : s.g ≤ 20000) : s.text.size ≤ 20000000000 := by
  have h1 := join10_len (200 + 30 * s.g) s.L h.z
  have h2 := h.l
  have h3 : (200 + 30 * s.g + 1) * s.L.length ≤ (200 + 30 * s.g + 1) * 20000 := Nat.mul_le_mul_left _ (by omega)
  unfold Ck.text joinW
  rw [ByteArray.size_append]
  have e1 : (ByteArray.mk #[10]).size = 1 := rfl
  have e2 : (ByteArray.mk (Lib.join (s.L.map (·.data.toList)) [10]).toArray).size = (Lib.join (s.L.map (·.data.toList)) [10]).length := by simp [ByteArray.size]
  omega
end Go.Proofs.YtfhkfnoajbbfdabGreatDoor

/- strconv's table, out of a row's first world. -/
namespace Go.Proofs.YtfhkfnoajbbfdabGreatDoor
open Go.ChangeShapes Go.WideShapes Go.ChangeAt Go.WideMaps Go.WideElems Go.RowKit

theorem gTab : Tryz.prog.globalNamed "internal/strconv.uint64pow10" = some 3 := by kernel_rfl

theorem tab_of {W : World} {l : List (String × DataW Unit)} (hS : 10 ≤ W.heap.size) (hL : laidMetH Tryz.prog l W)
    (f : l.filter (fun x => x.1 == "internal/strconv.uint64pow10") = [("internal/strconv.uint64pow10", Rows.laid_internal_strconv_uint64pow10)]) : TabAt W := by
  have h3 := hL.filter (fun x => x.1 == "internal/strconv.uint64pow10")
  rw [f, MakeChecks.laidMetH_plain _ _ _ (by kernel_rfl)] at h3
  have h4 : laidMet Tryz.prog (("internal/strconv.uint64pow10", Lib.tabData .u64 Lib.pow10Tab) :: []) W := h3
  have h5 := Lib.tabIs_of_head (t := 408) (e := 398) (n := 20) gTab (by kernel_rfl) Tryz.underlying408 Tryz.underlying398 (by kernel_rfl) (by kernel_rfl) h4
  intro w hb
  have hlt : 3 < W.heap.size := Nat.lt_of_lt_of_le (by decide) hS
  have e := hb.block 3 hlt
  unfold Lib.TabIs World.var? at h5 ⊢
  rw [gTab] at h5 ⊢
  simp only [Option.bind_some] at h5 ⊢
  rw [e]
  exact h5
end Go.Proofs.YtfhkfnoajbbfdabGreatDoor

/- Known's texts (written by gen-kn.py). -/
namespace Go.Proofs.YtfhkfnoajbbfdabGreatDoor
open Go.RowKit

def knCodes : List (ByteArray × Int × Int) := [(⟨#[104, 97, 108, 116, 10]⟩, 3, 1),
  (⟨#[116, 104, 114, 101, 97, 100, 10, 109, 111, 118, 32, 114, 56, 32, 49, 10]⟩, 2, 2),
  (⟨#[116, 104, 114, 101, 97, 100, 10, 109, 111, 118, 32, 114, 48, 10]⟩, 2, 2),
  (⟨#[116, 104, 114, 101, 97, 100, 10, 109, 111, 118, 32, 114, 48, 32, 49, 32, 50, 10]⟩, 2, 2),
  (⟨#[116, 104, 114, 101, 97, 100, 10, 97, 100, 100, 32, 114, 48, 32, 114, 49, 10]⟩, 2, 2),
  (⟨#[116, 104, 114, 101, 97, 100, 10, 108, 111, 97, 100, 32, 114, 48, 32, 49, 10]⟩, 2, 2),
  (⟨#[116, 104, 114, 101, 97, 100, 10, 106, 109, 112, 32, 45, 49, 10]⟩, 2, 2),
  (⟨#[116, 104, 114, 101, 97, 100, 10, 106, 109, 112, 32, 52, 48, 48, 49, 10]⟩, 2, 2),
  (⟨#[116, 104, 114, 101, 97, 100, 10, 116, 114, 97, 112, 32, 48, 10]⟩, 2, 2),
  (⟨#[116, 104, 114, 101, 97, 100, 10, 116, 114, 97, 112, 32, 49, 48, 10]⟩, 2, 2),
  (⟨#[116, 104, 114, 101, 97, 100, 10, 109, 111, 118, 32, 114, 48, 32, 57, 50, 50, 51, 51, 55, 50, 48, 51, 54, 56, 53, 52, 55, 55, 53, 56, 48, 56, 10]⟩, 2, 2),
  (⟨#[116, 104, 114, 101, 97, 100, 10, 116, 104, 114, 101, 97, 100, 10, 116, 104, 114, 101, 97, 100, 10, 116, 104, 114, 101, 97, 100, 10]⟩, 5, 4),
  (⟨#[116, 104, 114, 101, 97, 100, 10, 104, 97, 108, 116]⟩, 2, 2)]
def knWrongs : List (ByteArray × Int × Int) := [(⟨#[]⟩, 2, 1),
  (⟨#[116, 104, 114, 101, 97, 100]⟩, 2, 1),
  (⟨#[116, 104, 114, 101, 97, 100, 10, 10]⟩, 2, 2),
  (⟨#[115, 104, 97, 114, 101, 100, 32, 120, 32, 55, 10, 116, 104, 114, 101, 97, 100, 10]⟩, 2, 1),
  (⟨#[116, 104, 114, 101, 97, 100, 10, 115, 101, 116, 32, 97, 10]⟩, 2, 2),
  (⟨#[116, 104, 114, 101, 97, 100, 10, 115, 101, 116, 32, 97, 32, 49, 32, 43, 43, 32, 50, 10]⟩, 2, 2),
  (⟨#[116, 104, 114, 101, 97, 100, 10, 115, 101, 116, 32, 97, 32, 48, 49, 10]⟩, 2, 2),
  (⟨#[116, 104, 114, 101, 97, 100, 10, 115, 101, 116, 32, 65, 32, 49, 10]⟩, 2, 2),
  (⟨#[116, 104, 114, 101, 97, 100, 10, 108, 111, 111, 112, 32, 53, 10, 101, 110, 100, 10]⟩, 2, 2),
  (⟨#[115, 104, 97, 114, 101, 100, 32, 120, 10]⟩, 3, 2),
  (⟨#[111, 117, 116, 32, 49, 10, 116, 104, 114, 101, 97, 100, 10]⟩, 3, 1),
  (⟨#[116, 104, 114, 101, 97, 100, 10, 101, 110, 100, 10]⟩, 3, 2),
  (⟨#[116, 104, 114, 101, 97, 100, 10, 97, 116, 111, 109, 105, 99, 10]⟩, 3, 3),
  (⟨#[115, 104, 97, 114, 101, 100, 32, 120, 10, 116, 104, 114, 101, 97, 100, 10, 103, 101, 116, 32, 118, 32, 120, 10]⟩, 3, 3),
  (⟨#[116, 104, 114, 101, 97, 100, 10, 97, 116, 111, 109, 105, 99, 10, 97, 116, 111, 109, 105, 99, 10, 101, 110, 100, 10, 101, 110, 100, 10]⟩, 3, 3),
  (⟨#[116, 104, 114, 101, 97, 100, 10, 115, 104, 97, 114, 101, 100, 32, 120, 10]⟩, 3, 2),
  (⟨#[115, 104, 97, 114, 101, 100, 32, 120, 10, 115, 104, 97, 114, 101, 100, 32, 120, 10, 116, 104, 114, 101, 97, 100, 10]⟩, 4, 2),
  (⟨#[116, 104, 114, 101, 97, 100, 10, 111, 117, 116, 32, 97, 10]⟩, 4, 2),
  (⟨#[116, 104, 114, 101, 97, 100, 10, 115, 101, 116, 32, 97, 32, 97, 10]⟩, 4, 2),
  (⟨#[115, 104, 97, 114, 101, 100, 32, 120, 10, 116, 104, 114, 101, 97, 100, 10, 115, 101, 116, 32, 120, 32, 49, 10]⟩, 4, 3),
  (⟨#[116, 104, 114, 101, 97, 100, 10, 97, 116, 111, 109, 105, 99, 10, 103, 101, 116, 32, 118, 32, 120, 10, 101, 110, 100, 10]⟩, 4, 3),
  (⟨#[116, 104, 114, 101, 97, 100, 10, 115, 101, 116, 32, 97, 32, 49, 10, 115, 101, 116, 32, 98, 32, 49, 10, 115, 101, 116, 32, 99, 32, 49, 10, 115, 101, 116, 32, 100, 32, 49, 10, 115, 101, 116, 32, 101, 32, 49, 10]⟩, 5, 6),
  (⟨#[116, 104, 114, 101, 97, 100, 10, 105, 102, 32, 49, 10, 105, 102, 32, 49, 10, 105, 102, 32, 49, 10, 105, 102, 32, 49, 10, 101, 110, 100, 10, 101, 110, 100, 10, 101, 110, 100, 10, 101, 110, 100, 10]⟩, 5, 5),
  (⟨#[116, 104, 114, 101, 97, 100, 10, 116, 104, 114, 101, 97, 100, 10, 116, 104, 114, 101, 97, 100, 10, 116, 104, 114, 101, 97, 100, 10]⟩, 5, 0),
  (⟨#[115, 104, 97, 114, 101, 100, 32, 120, 32, 52, 10, 115, 104, 97, 114, 101, 100, 32, 121, 32, 51, 10, 116, 104, 114, 101, 97, 100, 10]⟩, 5, 0),
  (⟨#[116, 104, 114, 101, 97, 100, 10, 108, 111, 111, 112, 32, 52, 10, 97, 116, 111, 109, 105, 99, 10, 101, 110, 100, 10, 101, 110, 100, 10]⟩, 5, 0),
  (⟨#[116, 104, 114, 101, 97, 100, 10, 97, 116, 111, 109, 105, 99, 10, 108, 111, 111, 112, 32, 51, 10, 108, 111, 111, 112, 32, 51, 10, 111, 117, 116, 32, 49, 10, 101, 110, 100, 10, 101, 110, 100, 10, 101, 110, 100, 10]⟩, 5, 0)]
/-- A program; of each thread what it gives out, its state. -/
def knRans : List (ByteArray × List (List Int × Int)) := [(⟨#[116, 104, 114, 101, 97, 100, 10]⟩, [([], 10)]),
  (⟨#[116, 104, 114, 101, 97, 100, 10, 111, 117, 116, 32, 53, 10, 111, 117, 116, 32, 45, 55, 10]⟩, [([5, (-7)], 10)]),
  (⟨#[116, 104, 114, 101, 97, 100, 10, 115, 101, 116, 32, 97, 32, 55, 32, 47, 32, 50, 10, 115, 101, 116, 32, 98, 32, 45, 55, 32, 47, 32, 50, 10, 115, 101, 116, 32, 99, 32, 45, 55, 32, 37, 32, 50, 10, 115, 101, 116, 32, 100, 32, 55, 32, 37, 32, 45, 50, 10, 111, 117, 116, 32, 97, 10, 111, 117, 116, 32, 98, 10, 111, 117, 116, 32, 99, 10, 111, 117, 116, 32, 100, 10]⟩, [([3, (-3), (-1), 1], 10)]),
  (⟨#[116, 104, 114, 101, 97, 100, 10, 115, 101, 116, 32, 97, 32, 45, 57, 50, 50, 51, 51, 55, 50, 48, 51, 54, 56, 53, 52, 55, 55, 53, 56, 48, 56, 32, 47, 32, 45, 49, 10, 111, 117, 116, 32, 97, 10, 115, 101, 116, 32, 97, 32, 45, 57, 50, 50, 51, 51, 55, 50, 48, 51, 54, 56, 53, 52, 55, 55, 53, 56, 48, 56, 32, 37, 32, 45, 49, 10, 111, 117, 116, 32, 97, 10, 115, 101, 116, 32, 97, 32, 45, 57, 50, 50, 51, 51, 55, 50, 48, 51, 54, 56, 53, 52, 55, 55, 53, 56, 48, 56, 32, 45, 32, 49, 10, 111, 117, 116, 32, 97, 10]⟩, [([(-9223372036854775808), 0, 9223372036854775807], 10)]),
  (⟨#[116, 104, 114, 101, 97, 100, 10, 115, 101, 116, 32, 97, 32, 49, 32, 60, 60, 32, 54, 53, 10, 111, 117, 116, 32, 97, 10, 115, 101, 116, 32, 97, 32, 45, 57, 32, 62, 62, 32, 49, 10, 111, 117, 116, 32, 97, 10, 115, 101, 116, 32, 97, 32, 49, 32, 60, 60, 32, 45, 49, 10, 111, 117, 116, 32, 97, 10, 115, 101, 116, 32, 97, 32, 51, 32, 60, 32, 52, 10, 111, 117, 116, 32, 97, 10, 115, 101, 116, 32, 97, 32, 51, 32, 61, 61, 32, 52, 10, 111, 117, 116, 32, 97, 10]⟩, [([2, (-5), (-9223372036854775808), 1, 0], 10)]),
  (⟨#[116, 104, 114, 101, 97, 100, 10, 115, 101, 116, 32, 97, 32, 54, 32, 38, 32, 51, 10, 111, 117, 116, 32, 97, 10, 115, 101, 116, 32, 97, 32, 54, 32, 124, 32, 51, 10, 111, 117, 116, 32, 97, 10, 115, 101, 116, 32, 97, 32, 54, 32, 94, 32, 51, 10, 111, 117, 116, 32, 97, 10, 115, 101, 116, 32, 97, 32, 51, 32, 42, 32, 45, 52, 10, 111, 117, 116, 32, 97, 10]⟩, [([2, 7, 5, (-12)], 10)]),
  (⟨#[116, 104, 114, 101, 97, 100, 10, 111, 117, 116, 32, 49, 10, 115, 101, 116, 32, 97, 32, 48, 10, 115, 101, 116, 32, 97, 32, 53, 32, 47, 32, 97, 10, 111, 117, 116, 32, 50, 10]⟩, [([1], 1)]),
  (⟨#[116, 104, 114, 101, 97, 100, 10, 115, 101, 116, 32, 97, 32, 48, 10, 115, 101, 116, 32, 97, 32, 53, 32, 37, 32, 97, 10]⟩, [([], 1)]),
  (⟨#[115, 104, 97, 114, 101, 100, 32, 116, 32, 50, 10, 116, 104, 114, 101, 97, 100, 10, 111, 117, 116, 32, 49, 10, 97, 116, 111, 109, 105, 99, 10, 112, 117, 116, 32, 116, 32, 53, 10, 111, 117, 116, 32, 50, 10, 103, 101, 116, 32, 118, 32, 116, 32, 97, 116, 32, 50, 10, 101, 110, 100, 10, 111, 117, 116, 32, 51, 10, 116, 104, 114, 101, 97, 100, 10, 97, 116, 111, 109, 105, 99, 10, 103, 101, 116, 32, 118, 32, 116, 10, 111, 117, 116, 32, 118, 10, 101, 110, 100, 10]⟩, [([1], 2), ([0], 10)]),
  (⟨#[115, 104, 97, 114, 101, 100, 32, 116, 32, 50, 10, 116, 104, 114, 101, 97, 100, 10, 97, 116, 111, 109, 105, 99, 10, 112, 117, 116, 32, 116, 32, 49, 32, 97, 116, 32, 45, 49, 10, 101, 110, 100, 10]⟩, [([], 2)]),
  (⟨#[115, 104, 97, 114, 101, 100, 32, 120, 10, 116, 104, 114, 101, 97, 100, 10, 108, 111, 111, 112, 32, 51, 10, 115, 101, 116, 32, 97, 32, 49, 10, 97, 116, 111, 109, 105, 99, 10, 103, 101, 116, 32, 118, 32, 120, 10, 115, 101, 116, 32, 118, 32, 118, 32, 43, 32, 50, 10, 112, 117, 116, 32, 120, 32, 118, 10, 103, 101, 116, 32, 119, 32, 120, 10, 111, 117, 116, 32, 119, 10, 101, 110, 100, 10, 101, 110, 100, 10, 116, 104, 114, 101, 97, 100, 10, 97, 116, 111, 109, 105, 99, 10, 103, 101, 116, 32, 118, 32, 120, 10, 101, 110, 100, 10, 111, 117, 116, 32, 118, 10]⟩, [([2, 4, 6], 10), ([6], 10)]),
  (⟨#[116, 104, 114, 101, 97, 100, 10, 108, 111, 111, 112, 32, 50, 10, 108, 111, 111, 112, 32, 51, 10, 111, 117, 116, 32, 49, 10, 101, 110, 100, 10, 111, 117, 116, 32, 50, 10, 101, 110, 100, 10]⟩, [([1, 1, 1, 2, 1, 1, 1, 2], 10)]),
  (⟨#[116, 104, 114, 101, 97, 100, 10, 115, 101, 116, 32, 97, 32, 48, 10, 105, 102, 32, 97, 10, 111, 117, 116, 32, 49, 10, 101, 110, 100, 10, 105, 102, 32, 53, 10, 111, 117, 116, 32, 50, 10, 101, 110, 100, 10]⟩, [([2], 10)])]

def knArr (l : List (ByteArray × Int × Int)) : Array Value := (l.flatMap fun p => [Value.string p.1, .int .i64 p.2.1, .int .i64 p.2.2]).toArray

/-- The blocks that hold them, behind n others. -/
def ransOs (n : Nat) : List Obj := [.cells #[.slice none 0 0] 31,
  .cells #[.int .i64 10] 3,
  .cells #[.int .i64 5, .int .i64 (-7)] 2,
  .cells #[.slice (some ⟨n + 2, 0, none⟩) 2 2] 31,
  .cells #[.int .i64 10] 3,
  .cells #[.int .i64 3, .int .i64 (-3), .int .i64 (-1), .int .i64 1] 2,
  .cells #[.slice (some ⟨n + 5, 0, none⟩) 4 4] 31,
  .cells #[.int .i64 10] 3,
  .cells #[.int .i64 (-9223372036854775808), .int .i64 0, .int .i64 9223372036854775807] 2,
  .cells #[.slice (some ⟨n + 8, 0, none⟩) 3 3] 31,
  .cells #[.int .i64 10] 3,
  .cells #[.int .i64 2, .int .i64 (-5), .int .i64 (-9223372036854775808), .int .i64 1, .int .i64 0] 2,
  .cells #[.slice (some ⟨n + 11, 0, none⟩) 5 5] 31,
  .cells #[.int .i64 10] 3,
  .cells #[.int .i64 2, .int .i64 7, .int .i64 5, .int .i64 (-12)] 2,
  .cells #[.slice (some ⟨n + 14, 0, none⟩) 4 4] 31,
  .cells #[.int .i64 10] 3,
  .cells #[.int .i64 1] 2,
  .cells #[.slice (some ⟨n + 17, 0, none⟩) 1 1] 31,
  .cells #[.int .i64 1] 3,
  .cells #[.slice none 0 0] 31,
  .cells #[.int .i64 1] 3,
  .cells #[.int .i64 1] 2,
  .cells #[.int .i64 0] 2,
  .cells #[.slice (some ⟨n + 22, 0, none⟩) 1 1, .slice (some ⟨n + 23, 0, none⟩) 1 1] 31,
  .cells #[.int .i64 2, .int .i64 10] 3,
  .cells #[.slice none 0 0] 31,
  .cells #[.int .i64 2] 3,
  .cells #[.int .i64 2, .int .i64 4, .int .i64 6] 2,
  .cells #[.int .i64 6] 2,
  .cells #[.slice (some ⟨n + 28, 0, none⟩) 3 3, .slice (some ⟨n + 29, 0, none⟩) 1 1] 31,
  .cells #[.int .i64 10, .int .i64 10] 3,
  .cells #[.int .i64 1, .int .i64 1, .int .i64 1, .int .i64 2, .int .i64 1, .int .i64 1, .int .i64 1, .int .i64 2] 2,
  .cells #[.slice (some ⟨n + 32, 0, none⟩) 8 8] 31,
  .cells #[.int .i64 10] 3,
  .cells #[.int .i64 2] 2,
  .cells #[.slice (some ⟨n + 35, 0, none⟩) 1 1] 31,
  .cells #[.int .i64 10] 3,
  .cells #[.string ⟨#[116, 104, 114, 101, 97, 100, 10]⟩, .slice (some ⟨n + 0, 0, none⟩) 1 1, .slice (some ⟨n + 1, 0, none⟩) 1 1,
    .string ⟨#[116, 104, 114, 101, 97, 100, 10, 111, 117, 116, 32, 53, 10, 111, 117, 116, 32, 45, 55, 10]⟩, .slice (some ⟨n + 3, 0, none⟩) 1 1, .slice (some ⟨n + 4, 0, none⟩) 1 1,
    .string ⟨#[116, 104, 114, 101, 97, 100, 10, 115, 101, 116, 32, 97, 32, 55, 32, 47, 32, 50, 10, 115, 101, 116, 32, 98, 32, 45, 55, 32, 47, 32, 50, 10, 115, 101, 116, 32, 99, 32, 45, 55, 32, 37, 32, 50, 10, 115, 101, 116, 32, 100, 32, 55, 32, 37, 32, 45, 50, 10, 111, 117, 116, 32, 97, 10, 111, 117, 116, 32, 98, 10, 111, 117, 116, 32, 99, 10, 111, 117, 116, 32, 100, 10]⟩, .slice (some ⟨n + 6, 0, none⟩) 1 1, .slice (some ⟨n + 7, 0, none⟩) 1 1,
    .string ⟨#[116, 104, 114, 101, 97, 100, 10, 115, 101, 116, 32, 97, 32, 45, 57, 50, 50, 51, 51, 55, 50, 48, 51, 54, 56, 53, 52, 55, 55, 53, 56, 48, 56, 32, 47, 32, 45, 49, 10, 111, 117, 116, 32, 97, 10, 115, 101, 116, 32, 97, 32, 45, 57, 50, 50, 51, 51, 55, 50, 48, 51, 54, 56, 53, 52, 55, 55, 53, 56, 48, 56, 32, 37, 32, 45, 49, 10, 111, 117, 116, 32, 97, 10, 115, 101, 116, 32, 97, 32, 45, 57, 50, 50, 51, 51, 55, 50, 48, 51, 54, 56, 53, 52, 55, 55, 53, 56, 48, 56, 32, 45, 32, 49, 10, 111, 117, 116, 32, 97, 10]⟩, .slice (some ⟨n + 9, 0, none⟩) 1 1, .slice (some ⟨n + 10, 0, none⟩) 1 1,
    .string ⟨#[116, 104, 114, 101, 97, 100, 10, 115, 101, 116, 32, 97, 32, 49, 32, 60, 60, 32, 54, 53, 10, 111, 117, 116, 32, 97, 10, 115, 101, 116, 32, 97, 32, 45, 57, 32, 62, 62, 32, 49, 10, 111, 117, 116, 32, 97, 10, 115, 101, 116, 32, 97, 32, 49, 32, 60, 60, 32, 45, 49, 10, 111, 117, 116, 32, 97, 10, 115, 101, 116, 32, 97, 32, 51, 32, 60, 32, 52, 10, 111, 117, 116, 32, 97, 10, 115, 101, 116, 32, 97, 32, 51, 32, 61, 61, 32, 52, 10, 111, 117, 116, 32, 97, 10]⟩, .slice (some ⟨n + 12, 0, none⟩) 1 1, .slice (some ⟨n + 13, 0, none⟩) 1 1,
    .string ⟨#[116, 104, 114, 101, 97, 100, 10, 115, 101, 116, 32, 97, 32, 54, 32, 38, 32, 51, 10, 111, 117, 116, 32, 97, 10, 115, 101, 116, 32, 97, 32, 54, 32, 124, 32, 51, 10, 111, 117, 116, 32, 97, 10, 115, 101, 116, 32, 97, 32, 54, 32, 94, 32, 51, 10, 111, 117, 116, 32, 97, 10, 115, 101, 116, 32, 97, 32, 51, 32, 42, 32, 45, 52, 10, 111, 117, 116, 32, 97, 10]⟩, .slice (some ⟨n + 15, 0, none⟩) 1 1, .slice (some ⟨n + 16, 0, none⟩) 1 1,
    .string ⟨#[116, 104, 114, 101, 97, 100, 10, 111, 117, 116, 32, 49, 10, 115, 101, 116, 32, 97, 32, 48, 10, 115, 101, 116, 32, 97, 32, 53, 32, 47, 32, 97, 10, 111, 117, 116, 32, 50, 10]⟩, .slice (some ⟨n + 18, 0, none⟩) 1 1, .slice (some ⟨n + 19, 0, none⟩) 1 1,
    .string ⟨#[116, 104, 114, 101, 97, 100, 10, 115, 101, 116, 32, 97, 32, 48, 10, 115, 101, 116, 32, 97, 32, 53, 32, 37, 32, 97, 10]⟩, .slice (some ⟨n + 20, 0, none⟩) 1 1, .slice (some ⟨n + 21, 0, none⟩) 1 1,
    .string ⟨#[115, 104, 97, 114, 101, 100, 32, 116, 32, 50, 10, 116, 104, 114, 101, 97, 100, 10, 111, 117, 116, 32, 49, 10, 97, 116, 111, 109, 105, 99, 10, 112, 117, 116, 32, 116, 32, 53, 10, 111, 117, 116, 32, 50, 10, 103, 101, 116, 32, 118, 32, 116, 32, 97, 116, 32, 50, 10, 101, 110, 100, 10, 111, 117, 116, 32, 51, 10, 116, 104, 114, 101, 97, 100, 10, 97, 116, 111, 109, 105, 99, 10, 103, 101, 116, 32, 118, 32, 116, 10, 111, 117, 116, 32, 118, 10, 101, 110, 100, 10]⟩, .slice (some ⟨n + 24, 0, none⟩) 2 2, .slice (some ⟨n + 25, 0, none⟩) 2 2,
    .string ⟨#[115, 104, 97, 114, 101, 100, 32, 116, 32, 50, 10, 116, 104, 114, 101, 97, 100, 10, 97, 116, 111, 109, 105, 99, 10, 112, 117, 116, 32, 116, 32, 49, 32, 97, 116, 32, 45, 49, 10, 101, 110, 100, 10]⟩, .slice (some ⟨n + 26, 0, none⟩) 1 1, .slice (some ⟨n + 27, 0, none⟩) 1 1,
    .string ⟨#[115, 104, 97, 114, 101, 100, 32, 120, 10, 116, 104, 114, 101, 97, 100, 10, 108, 111, 111, 112, 32, 51, 10, 115, 101, 116, 32, 97, 32, 49, 10, 97, 116, 111, 109, 105, 99, 10, 103, 101, 116, 32, 118, 32, 120, 10, 115, 101, 116, 32, 118, 32, 118, 32, 43, 32, 50, 10, 112, 117, 116, 32, 120, 32, 118, 10, 103, 101, 116, 32, 119, 32, 120, 10, 111, 117, 116, 32, 119, 10, 101, 110, 100, 10, 101, 110, 100, 10, 116, 104, 114, 101, 97, 100, 10, 97, 116, 111, 109, 105, 99, 10, 103, 101, 116, 32, 118, 32, 120, 10, 101, 110, 100, 10, 111, 117, 116, 32, 118, 10]⟩, .slice (some ⟨n + 30, 0, none⟩) 2 2, .slice (some ⟨n + 31, 0, none⟩) 2 2,
    .string ⟨#[116, 104, 114, 101, 97, 100, 10, 108, 111, 111, 112, 32, 50, 10, 108, 111, 111, 112, 32, 51, 10, 111, 117, 116, 32, 49, 10, 101, 110, 100, 10, 111, 117, 116, 32, 50, 10, 101, 110, 100, 10]⟩, .slice (some ⟨n + 33, 0, none⟩) 1 1, .slice (some ⟨n + 34, 0, none⟩) 1 1,
    .string ⟨#[116, 104, 114, 101, 97, 100, 10, 115, 101, 116, 32, 97, 32, 48, 10, 105, 102, 32, 97, 10, 111, 117, 116, 32, 49, 10, 101, 110, 100, 10, 105, 102, 32, 53, 10, 111, 117, 116, 32, 50, 10, 101, 110, 100, 10]⟩, .slice (some ⟨n + 36, 0, none⟩) 1 1, .slice (some ⟨n + 37, 0, none⟩) 1 1] 48]

def ransN : Nat := 38
end Go.Proofs.YtfhkfnoajbbfdabGreatDoor

/- Known's texts, as they are laid: codes. -/
namespace Go.Proofs.YtfhkfnoajbbfdabGreatDoor
open Go.RowKit

set_option maxRecDepth 100000 in
set_option maxHeartbeats 4000000 in
theorem codes_c (w : World) : Calls Tryz.prog 18 #[] w fun e w' => e = .returned (.slice (some ⟨w.heap.size, 0, none⟩) 13 13) ∧ w' = w.alloc (.cells (knArr knCodes) 41) := by
  go_enter Tryz.func18, Tryz.ntmps18
  go_wp2
  go_ret
  exact ⟨rfl, rfl⟩
end Go.Proofs.YtfhkfnoajbbfdabGreatDoor

/- Known's texts, as they are laid: wrongs. -/
namespace Go.Proofs.YtfhkfnoajbbfdabGreatDoor
open Go.RowKit

set_option maxRecDepth 100000 in
set_option maxHeartbeats 8000000 in
theorem wrongs_c (w : World) : Calls Tryz.prog 17 #[] w fun e w' => e = .returned (.slice (some ⟨w.heap.size, 0, none⟩) 27 27) ∧ w' = w.alloc (.cells (knArr knWrongs) 41) := by
  go_enter Tryz.func17, Tryz.ntmps17
  go_wp2
  go_ret
  exact ⟨rfl, rfl⟩
end Go.Proofs.YtfhkfnoajbbfdabGreatDoor

/- Known's texts, as they are laid: rans. -/
namespace Go.Proofs.YtfhkfnoajbbfdabGreatDoor
open Go.RowKit

def allocL (w : World) (os : List Obj) : World := os.foldl World.alloc w

set_option maxRecDepth 100000 in
set_option maxHeartbeats 8000000 in
theorem rans_c (w : World) : Calls Tryz.prog 16 #[] w fun e w' => e = .returned (.slice (some ⟨w.heap.size + ransN, 0, none⟩) 13 13) ∧ w' = allocL w (ransOs w.heap.size) := by
  go_enter Tryz.func16, Tryz.ntmps16
  go_wp2
  go_ret
  exact ⟨rfl, rfl⟩
end Go.Proofs.YtfhkfnoajbbfdabGreatDoor

/- Where Known's programs lie (written by gen-kn.py). -/
namespace Go.Proofs.YtfhkfnoajbbfdabGreatDoor
open Go.RowKit

theorem allocL_below : ∀ (os : List Obj) (w : World), Below w.heap.size w (allocL w os)
  | [], w => Below.refl _ w
  | o :: r, w => by
    have h := allocL_below r (w.alloc o)
    exact ((Below.refl _ w).alloc (Nat.le_refl _) o).trans (h.mono (by simp))

theorem cell_allocL : ∀ (os : List Obj) (w : World) (j i : Nat) (cs : Array Value) (t : TypeId), os[j]? = some (.cells cs t) → (allocL w os).cell? ⟨w.heap.size + j, i, none⟩ = cs[i]?
  | [], _, _, _, _, _, h => by simp at h
  | o :: r, w, 0, i, cs, t, h => by
    have : o = .cells cs t := by simpa using h
    subst this
    have hb := allocL_below r (w.alloc (.cells cs t))
    exact (hb.cell (p := ⟨w.heap.size, i, none⟩) (by simp)).trans (World.cell?_alloc_new _ _ _ i)
  | o :: r, w, j + 1, i, cs, t, h => by
    have := cell_allocL r (w.alloc o) j i cs t (by simpa using h)
    have e : (w.alloc o).heap.size = w.heap.size + 1 := by simp
    rw [e, show w.heap.size + 1 + j = w.heap.size + (j + 1) by omega] at this
    exact this

/-- What a thread shows, as it lies. -/
structure ShowAt (W : World) (go gs t : Nat) (o : List Int) (s : Int) : Prop where
  st : W.cell? ⟨gs, t, none⟩ = some (.int .i64 s)
  out : ∃ a c, W.cell? ⟨go, t, none⟩ = some (.slice a o.length c) ∧ ∀ i v, o[i]? = some v → ∃ ga, a = some ⟨ga, 0, none⟩ ∧ o.length ≤ c ∧ W.cell? ⟨ga, i, none⟩ = some (.int .i64 v)

/-- A program and what its threads show, as it lies. -/
structure RanAt (W : World) (g k : Nat) (s : ByteArray) (rs : List (List Int × Int)) : Prop where
  s : W.cell? ⟨g, k * 3, none⟩ = some (.string s)
  r : ∃ go gs, W.cell? ⟨g, k * 3 + 1, none⟩ = some (.slice (some ⟨go, 0, none⟩) rs.length rs.length) ∧ W.cell? ⟨g, k * 3 + 2, none⟩ = some (.slice (some ⟨gs, 0, none⟩) rs.length rs.length) ∧ ∀ t o s', rs[t]? = some (o, s') → ShowAt W go gs t o s'

theorem show_nil {W : World} {go gs t : Nat} {s : Int} (h1 : W.cell? ⟨gs, t, none⟩ = some (.int .i64 s)) (h2 : W.cell? ⟨go, t, none⟩ = some (.slice none 0 0)) : ShowAt W go gs t [] s := ⟨h1, none, 0, h2, fun i v h => by simp at h⟩

theorem show_some {w : World} {os : List Obj} {go gs t j : Nat} {o : List Int} {s : Int} {ty : TypeId} (h1 : (allocL w os).cell? ⟨gs, t, none⟩ = some (.int .i64 s)) (h2 : (allocL w os).cell? ⟨go, t, none⟩ = some (.slice (some ⟨w.heap.size + j, 0, none⟩) o.length o.length)) (h3 : os[j]? = some (.cells (o.map (Value.int .i64)).toArray ty)) : ShowAt (allocL w os) go gs t o s :=
  ⟨h1, _, _, h2, fun i v h => ⟨_, rfl, Nat.le_refl _, (cell_allocL os w j i _ ty h3).trans (by simp [h])⟩⟩

theorem rans_at (w : World) : ∀ k s rs, knRans[k]? = some (s, rs) → RanAt (allocL w (ransOs w.heap.size)) (w.heap.size + ransN) k s rs
  | 0, s, rs, h => by
    cases h
    refine ⟨(cell_allocL (ransOs w.heap.size) w ransN 0 _ _ rfl), w.heap.size + 0, w.heap.size + 1, (cell_allocL (ransOs w.heap.size) w ransN 1 _ _ rfl), (cell_allocL (ransOs w.heap.size) w ransN 2 _ _ rfl), fun t o s' ht => ?_⟩
    match t, ht with
    | 0, ht => cases ht; exact show_nil (cell_allocL (ransOs w.heap.size) w 1 0 _ _ rfl) (cell_allocL (ransOs w.heap.size) w 0 0 _ _ rfl)
    | t + 1, ht => simp at ht
  | 1, s, rs, h => by
    cases h
    refine ⟨(cell_allocL (ransOs w.heap.size) w ransN 3 _ _ rfl), w.heap.size + 3, w.heap.size + 4, (cell_allocL (ransOs w.heap.size) w ransN 4 _ _ rfl), (cell_allocL (ransOs w.heap.size) w ransN 5 _ _ rfl), fun t o s' ht => ?_⟩
    match t, ht with
    | 0, ht => cases ht; exact show_some (j := 2) (cell_allocL (ransOs w.heap.size) w 4 0 _ _ rfl) (cell_allocL (ransOs w.heap.size) w 3 0 _ _ rfl) rfl
    | t + 1, ht => simp at ht
  | 2, s, rs, h => by
    cases h
    refine ⟨(cell_allocL (ransOs w.heap.size) w ransN 6 _ _ rfl), w.heap.size + 6, w.heap.size + 7, (cell_allocL (ransOs w.heap.size) w ransN 7 _ _ rfl), (cell_allocL (ransOs w.heap.size) w ransN 8 _ _ rfl), fun t o s' ht => ?_⟩
    match t, ht with
    | 0, ht => cases ht; exact show_some (j := 5) (cell_allocL (ransOs w.heap.size) w 7 0 _ _ rfl) (cell_allocL (ransOs w.heap.size) w 6 0 _ _ rfl) rfl
    | t + 1, ht => simp at ht
  | 3, s, rs, h => by
    cases h
    refine ⟨(cell_allocL (ransOs w.heap.size) w ransN 9 _ _ rfl), w.heap.size + 9, w.heap.size + 10, (cell_allocL (ransOs w.heap.size) w ransN 10 _ _ rfl), (cell_allocL (ransOs w.heap.size) w ransN 11 _ _ rfl), fun t o s' ht => ?_⟩
    match t, ht with
    | 0, ht => cases ht; exact show_some (j := 8) (cell_allocL (ransOs w.heap.size) w 10 0 _ _ rfl) (cell_allocL (ransOs w.heap.size) w 9 0 _ _ rfl) rfl
    | t + 1, ht => simp at ht
  | 4, s, rs, h => by
    cases h
    refine ⟨(cell_allocL (ransOs w.heap.size) w ransN 12 _ _ rfl), w.heap.size + 12, w.heap.size + 13, (cell_allocL (ransOs w.heap.size) w ransN 13 _ _ rfl), (cell_allocL (ransOs w.heap.size) w ransN 14 _ _ rfl), fun t o s' ht => ?_⟩
    match t, ht with
    | 0, ht => cases ht; exact show_some (j := 11) (cell_allocL (ransOs w.heap.size) w 13 0 _ _ rfl) (cell_allocL (ransOs w.heap.size) w 12 0 _ _ rfl) rfl
    | t + 1, ht => simp at ht
  | 5, s, rs, h => by
    cases h
    refine ⟨(cell_allocL (ransOs w.heap.size) w ransN 15 _ _ rfl), w.heap.size + 15, w.heap.size + 16, (cell_allocL (ransOs w.heap.size) w ransN 16 _ _ rfl), (cell_allocL (ransOs w.heap.size) w ransN 17 _ _ rfl), fun t o s' ht => ?_⟩
    match t, ht with
    | 0, ht => cases ht; exact show_some (j := 14) (cell_allocL (ransOs w.heap.size) w 16 0 _ _ rfl) (cell_allocL (ransOs w.heap.size) w 15 0 _ _ rfl) rfl
    | t + 1, ht => simp at ht
  | 6, s, rs, h => by
    cases h
    refine ⟨(cell_allocL (ransOs w.heap.size) w ransN 18 _ _ rfl), w.heap.size + 18, w.heap.size + 19, (cell_allocL (ransOs w.heap.size) w ransN 19 _ _ rfl), (cell_allocL (ransOs w.heap.size) w ransN 20 _ _ rfl), fun t o s' ht => ?_⟩
    match t, ht with
    | 0, ht => cases ht; exact show_some (j := 17) (cell_allocL (ransOs w.heap.size) w 19 0 _ _ rfl) (cell_allocL (ransOs w.heap.size) w 18 0 _ _ rfl) rfl
    | t + 1, ht => simp at ht
  | 7, s, rs, h => by
    cases h
    refine ⟨(cell_allocL (ransOs w.heap.size) w ransN 21 _ _ rfl), w.heap.size + 20, w.heap.size + 21, (cell_allocL (ransOs w.heap.size) w ransN 22 _ _ rfl), (cell_allocL (ransOs w.heap.size) w ransN 23 _ _ rfl), fun t o s' ht => ?_⟩
    match t, ht with
    | 0, ht => cases ht; exact show_nil (cell_allocL (ransOs w.heap.size) w 21 0 _ _ rfl) (cell_allocL (ransOs w.heap.size) w 20 0 _ _ rfl)
    | t + 1, ht => simp at ht
  | 8, s, rs, h => by
    cases h
    refine ⟨(cell_allocL (ransOs w.heap.size) w ransN 24 _ _ rfl), w.heap.size + 24, w.heap.size + 25, (cell_allocL (ransOs w.heap.size) w ransN 25 _ _ rfl), (cell_allocL (ransOs w.heap.size) w ransN 26 _ _ rfl), fun t o s' ht => ?_⟩
    match t, ht with
    | 0, ht => cases ht; exact show_some (j := 22) (cell_allocL (ransOs w.heap.size) w 25 0 _ _ rfl) (cell_allocL (ransOs w.heap.size) w 24 0 _ _ rfl) rfl
    | 1, ht => cases ht; exact show_some (j := 23) (cell_allocL (ransOs w.heap.size) w 25 1 _ _ rfl) (cell_allocL (ransOs w.heap.size) w 24 1 _ _ rfl) rfl
    | t + 2, ht => simp at ht
  | 9, s, rs, h => by
    cases h
    refine ⟨(cell_allocL (ransOs w.heap.size) w ransN 27 _ _ rfl), w.heap.size + 26, w.heap.size + 27, (cell_allocL (ransOs w.heap.size) w ransN 28 _ _ rfl), (cell_allocL (ransOs w.heap.size) w ransN 29 _ _ rfl), fun t o s' ht => ?_⟩
    match t, ht with
    | 0, ht => cases ht; exact show_nil (cell_allocL (ransOs w.heap.size) w 27 0 _ _ rfl) (cell_allocL (ransOs w.heap.size) w 26 0 _ _ rfl)
    | t + 1, ht => simp at ht
  | 10, s, rs, h => by
    cases h
    refine ⟨(cell_allocL (ransOs w.heap.size) w ransN 30 _ _ rfl), w.heap.size + 30, w.heap.size + 31, (cell_allocL (ransOs w.heap.size) w ransN 31 _ _ rfl), (cell_allocL (ransOs w.heap.size) w ransN 32 _ _ rfl), fun t o s' ht => ?_⟩
    match t, ht with
    | 0, ht => cases ht; exact show_some (j := 28) (cell_allocL (ransOs w.heap.size) w 31 0 _ _ rfl) (cell_allocL (ransOs w.heap.size) w 30 0 _ _ rfl) rfl
    | 1, ht => cases ht; exact show_some (j := 29) (cell_allocL (ransOs w.heap.size) w 31 1 _ _ rfl) (cell_allocL (ransOs w.heap.size) w 30 1 _ _ rfl) rfl
    | t + 2, ht => simp at ht
  | 11, s, rs, h => by
    cases h
    refine ⟨(cell_allocL (ransOs w.heap.size) w ransN 33 _ _ rfl), w.heap.size + 33, w.heap.size + 34, (cell_allocL (ransOs w.heap.size) w ransN 34 _ _ rfl), (cell_allocL (ransOs w.heap.size) w ransN 35 _ _ rfl), fun t o s' ht => ?_⟩
    match t, ht with
    | 0, ht => cases ht; exact show_some (j := 32) (cell_allocL (ransOs w.heap.size) w 34 0 _ _ rfl) (cell_allocL (ransOs w.heap.size) w 33 0 _ _ rfl) rfl
    | t + 1, ht => simp at ht
  | 12, s, rs, h => by
    cases h
    refine ⟨(cell_allocL (ransOs w.heap.size) w ransN 36 _ _ rfl), w.heap.size + 36, w.heap.size + 37, (cell_allocL (ransOs w.heap.size) w ransN 37 _ _ rfl), (cell_allocL (ransOs w.heap.size) w ransN 38 _ _ rfl), fun t o s' ht => ?_⟩
    match t, ht with
    | 0, ht => cases ht; exact show_some (j := 35) (cell_allocL (ransOs w.heap.size) w 37 0 _ _ rfl) (cell_allocL (ransOs w.heap.size) w 36 0 _ _ rfl) rfl
    | t + 1, ht => simp at ht
  | k + 13, s, rs, h => by simp [knRans] at h
end Go.Proofs.YtfhkfnoajbbfdabGreatDoor

/- Known, at a code that is none. -/
namespace Go.Proofs.YtfhkfnoajbbfdabGreatDoor
open Go.RowKit

theorem knArr_at : ∀ (l : List (ByteArray × Int × Int)) (j : Nat) (p : ByteArray × Int × Int), l[j]? = some p → (knArr l)[j * 3]? = some (.string p.1) ∧ (knArr l)[j * 3 + 1]? = some (.int .i64 p.2.1) ∧ (knArr l)[j * 3 + 2]? = some (.int .i64 p.2.2)
  | [], _, _, h => by simp at h
  | q :: r, 0, p, h => by
    have : q = p := by simpa using h
    subst this
    simp [knArr]
  | q :: r, j + 1, p, h => by
    have ih := knArr_at r j p (by simpa using h)
    have e : ∀ i, (knArr (q :: r))[i + 3]? = (knArr r)[i]? := fun i => by simp [knArr]
    rw [show (j + 1) * 3 = j * 3 + 3 by omega, show j * 3 + 3 + 1 = j * 3 + 1 + 3 by omega, show j * 3 + 3 + 2 = j * 3 + 2 + 3 by omega, e, e, e]
    exact ih

theorem arr_cell (w : World) (l : List (ByteArray × Int × Int)) (t : TypeId) {j : Nat} {p : ByteArray × Int × Int} (h : l[j]? = some p) :
    (w.alloc (.cells (knArr l) t)).cell? ⟨w.heap.size, j * 3, none⟩ = some (.string p.1) ∧ (w.alloc (.cells (knArr l) t)).cell? ⟨w.heap.size, j * 3 + 1, none⟩ = some (.int .i64 p.2.1) ∧ (w.alloc (.cells (knArr l) t)).cell? ⟨w.heap.size, j * 3 + 2, none⟩ = some (.int .i64 p.2.2) := by
  obtain ⟨h1, h2, h3⟩ := knArr_at l j p h
  exact ⟨(World.cell?_alloc_new _ _ _ _).trans h1, (World.cell?_alloc_new _ _ _ _).trans h2, (World.cell?_alloc_new _ _ _ _).trans h3⟩

/-- The three lists, one behind the other. -/
def knW1 (W : World) : World := allocL W (ransOs W.heap.size)
def knW2 (W : World) : World := (knW1 W).alloc (.cells (knArr knWrongs) 41)
def knW3 (W : World) : World := (knW2 W).alloc (.cells (knArr knCodes) 41)

theorem knW1_below (W : World) : Below W.heap.size W (knW1 W) := allocL_below _ W
theorem knW3_up (W : World) : Below (knW1 W).heap.size (knW1 W) (knW3 W) := ((Below.refl _ _).alloc (Nat.le_refl _) _).alloc (by simp) _
theorem knW3_below (W : World) : Below W.heap.size W (knW3 W) := (knW1_below W).trans ((knW3_up W).mono (knW1_below W).size)

/-- What Known finds: r, v, c: where its lists lie, behind W. -/
structure Lists (W W3 : World) (r v c : Nat) : Prop where
  low : Below W.heap.size W W3
  run : ∃ W1 W2, (Calls Tryz.prog 16 #[] W fun e w' => e = .returned (.slice (some ⟨r, 0, none⟩) 13 13) ∧ w' = W1) ∧ (Calls Tryz.prog 17 #[] W1 fun e w' => e = .returned (.slice (some ⟨v, 0, none⟩) 27 27) ∧ w' = W2) ∧ (Calls Tryz.prog 18 #[] W2 fun e w' => e = .returned (.slice (some ⟨c, 0, none⟩) 13 13) ∧ w' = W3)
  rans : ∀ k s rs, knRans[k]? = some (s, rs) → RanAt W3 r k s rs
  wrongs : ∀ (j : Nat) s er ln, knWrongs[j]? = some (s, er, ln) → W3.cell? ⟨v, j * 3, none⟩ = some (.string s) ∧ W3.cell? ⟨v, j * 3 + 1, none⟩ = some (.int .i64 er) ∧ W3.cell? ⟨v, j * 3 + 2, none⟩ = some (.int .i64 ln)
  codes : ∀ (j : Nat) s er ln, knCodes[j]? = some (s, er, ln) → W3.cell? ⟨c, j * 3, none⟩ = some (.string s) ∧ W3.cell? ⟨c, j * 3 + 1, none⟩ = some (.int .i64 er) ∧ W3.cell? ⟨c, j * 3 + 2, none⟩ = some (.int .i64 ln)

theorem ShowAt.below {X Y : World} {go gs t : Nat} {o : List Int} {s : Int} (h : ShowAt X go gs t o s) (hb : Below X.heap.size X Y) : ShowAt Y go gs t o s := by
  have k : ∀ b i v, X.cell? ⟨b, i, none⟩ = some v → Y.cell? ⟨b, i, none⟩ = some v := fun b i v hv => (hb.cell (p := ⟨b, i, none⟩) (World.block_lt_of_cell? _ _ hv)).trans hv
  obtain ⟨a, c, h1, h2⟩ := h.out
  exact ⟨k _ _ _ h.st, a, c, k _ _ _ h1, fun i v hv => by
    obtain ⟨ga, q1, q2, q3⟩ := h2 i v hv
    exact ⟨ga, q1, q2, k _ _ _ q3⟩⟩

theorem RanAt.below {X Y : World} {g k : Nat} {s : ByteArray} {rs : List (List Int × Int)} (h : RanAt X g k s rs) (hb : Below X.heap.size X Y) : RanAt Y g k s rs := by
  have q : ∀ b i v, X.cell? ⟨b, i, none⟩ = some v → Y.cell? ⟨b, i, none⟩ = some v := fun b i v hv => (hb.cell (p := ⟨b, i, none⟩) (World.block_lt_of_cell? _ _ hv)).trans hv
  obtain ⟨go, gs, h1, h2, h3⟩ := h.r
  exact ⟨q _ _ _ h.s, go, gs, q _ _ _ h1, q _ _ _ h2, fun t o s' ht => (h3 t o s' ht).below hb⟩

theorem lists_are (W : World) : Lists W (knW3 W) (W.heap.size + ransN) (knW1 W).heap.size (knW2 W).heap.size where
  low := knW3_below W
  run := ⟨knW1 W, knW2 W, rans_c W, wrongs_c _, codes_c _⟩
  rans := fun k s rs h => (rans_at W k s rs h).below (knW3_up W)
  wrongs := fun j s er ln h => by
    obtain ⟨h1, h2, h3⟩ := arr_cell (knW1 W) knWrongs 41 h
    have lt : (knW1 W).heap.size < (knW2 W).heap.size := by unfold knW2; simp
    have e : ∀ i, (knW3 W).cell? ⟨(knW1 W).heap.size, i, none⟩ = (knW2 W).cell? ⟨(knW1 W).heap.size, i, none⟩ := fun i => World.cell?_alloc_past _ _ _ lt
    rw [e, e, e]
    exact ⟨h1, h2, h3⟩
  codes := fun j s er ln h => arr_cell (knW2 W) knCodes 41 h

section
variable {W W3 : World} {r v c : Nat} {a : Int}

set_option maxRecDepth 100000 in
set_option maxHeartbeats 4000000 in
theorem known_code (h : Lists W W3 r v c) (j : Nat) (hj : j < 13) {s : ByteArray} {er ln : Int} (hp : knCodes[j]? = some (s, er, ln))
    (KP : Hid (∀ w, Calls Tryz.prog 13 #[.int .i64 a, .int .i64 53] w fun e w' => e = .returned (.int .i64 (40 + (j : Int))) ∧ w' = w))
    (KL : Hid (∀ w, Below W.heap.size W w → Calls Tryz.prog 19 #[.string s] w fun e w' => e = .returned (.tuple #[.pointer none, .int .i64 er, .int .i64 ln]) ∧ Below w.heap.size w w')) :
    Calls Tryz.prog 6 #[.int .i64 a] W fun e w' => e = .returned (.bool true) ∧ Below W.heap.size W w' := by
  obtain ⟨c1, c2, c3⟩ := h.codes j s er ln hp
  obtain ⟨W1, W2, k1, k2, k3⟩ := h.run
  have hlow := hid h.low
  have lc := World.block_lt_of_cell? _ _ c1
  rw [show j = 40 + j - 13 - 27 by omega] at c1 c2 c3
  have h40 : ¬ 40 + (j : Int) < 40 := by omega
  have h40' : (40 : Int) ≤ 40 + (j : Int) := by omega
  have w1 : wrap64 (40 + (j : Int) - 13) = 27 + (j : Int) := by unfold wrap64; omega
  have w2 : wrap64 (27 + (j : Int) - 27) = (j : Int) := by unfold wrap64; omega
  have j0 : (0 : Int) ≤ (j : Int) := by omega
  have j13 : (j : Int) < 13 := by omega
  have K1 := hid k1
  have K2 := hid k2
  have K3 := hid k3
  clear h k1 k2 k3
  go_enter Tryz.func6, Tryz.ntmps6
  go_wp2_with fail
  refine K1.out.mono ?_
  rintro e w' ⟨rfl, rfl⟩
  go_wp2_with fail
  refine K2.out.mono ?_
  rintro e w' ⟨rfl, rfl⟩
  go_wp2_with fail
  refine K3.out.mono ?_
  rintro e w' ⟨rfl, hw3⟩
  subst hw3
  go_wp2_with fail
  refine (KP.out _).mono ?_
  rintro e w' ⟨rfl, hw4⟩
  subst hw4
  go_wp2_with fail
  refine (KL.out _ (hlow.out.trans ((Below.refl _ _).alloc hlow.out.size _))).mono ?_
  rintro e w4 ⟨rfl, hb⟩
  have d1 := (hb.cell (p := ⟨w'.heap.size, 1, none⟩) (by simp)).trans (World.cell?_alloc_new _ _ _ 1)
  have d2 := (hb.cell (p := ⟨w'.heap.size, 2, none⟩) (by simp)).trans (World.cell?_alloc_new _ _ _ 2)
  have HB := hid hb
  clear hb
  go_wp2
  go_ret
  exact ⟨rfl, (hlow.out.trans ((Below.refl _ _).alloc hlow.out.size _)).trans (HB.out.mono (Nat.le_trans hlow.out.size (by simp)))⟩

set_option maxRecDepth 100000 in
set_option maxHeartbeats 4000000 in
theorem known_wrong (h : Lists W W3 r v c) (j : Nat) (hj : j < 27) {s : ByteArray} {er ln : Int} (hp : knWrongs[j]? = some (s, er, ln))
    (KP : Hid (∀ w, Calls Tryz.prog 13 #[.int .i64 a, .int .i64 53] w fun e w' => e = .returned (.int .i64 (13 + (j : Int))) ∧ w' = w))
    (KL : Hid (∀ w, Below W.heap.size W w → Calls Tryz.prog 20 #[.string s] w fun e w' => e = .returned (.tuple #[.string ⟨#[]⟩, .int .i64 er, .int .i64 ln]) ∧ Below w.heap.size w w')) :
    Calls Tryz.prog 6 #[.int .i64 a] W fun e w' => e = .returned (.bool true) ∧ Below W.heap.size W w' := by
  obtain ⟨c1, c2, c3⟩ := h.wrongs j s er ln hp
  obtain ⟨W1, W2, k1, k2, k3⟩ := h.run
  have hlow := hid h.low
  have lc := World.block_lt_of_cell? _ _ c1
  have h40 : ¬ 40 ≤ 13 + (j : Int) := by omega
  have h13 : (13 : Int) ≤ 13 + (j : Int) := by omega
  have j0 : (0 : Int) ≤ (j : Int) := by omega
  have j27 : (j : Int) < 27 := by omega
  have K1 := hid k1
  have K2 := hid k2
  have K3 := hid k3
  clear h k1 k2 k3
  go_enter Tryz.func6, Tryz.ntmps6
  go_wp2_with fail
  refine K1.out.mono ?_
  rintro e w' ⟨rfl, rfl⟩
  go_wp2_with fail
  refine K2.out.mono ?_
  rintro e w' ⟨rfl, rfl⟩
  go_wp2_with fail
  refine K3.out.mono ?_
  rintro e w' ⟨rfl, hw3⟩
  subst hw3
  go_wp2_with fail
  refine (KP.out _).mono ?_
  rintro e w' ⟨rfl, hw4⟩
  subst hw4
  go_wp2_with fail
  refine (KL.out _ (hlow.out.trans ((Below.refl _ _).alloc hlow.out.size _))).mono ?_
  rintro e w4 ⟨rfl, hb⟩
  have d1 := (hb.cell (p := ⟨w'.heap.size, 1, none⟩) (by simp)).trans (World.cell?_alloc_new _ _ _ 1)
  have d2 := (hb.cell (p := ⟨w'.heap.size, 2, none⟩) (by simp)).trans (World.cell?_alloc_new _ _ _ 2)
  have HB := hid hb
  clear hb
  go_wp2
  go_ret
  exact ⟨rfl, (hlow.out.trans ((Below.refl _ _).alloc hlow.out.size _)).trans (HB.out.mono (Nat.le_trans hlow.out.size (by simp)))⟩
end
end Go.Proofs.YtfhkfnoajbbfdabGreatDoor

/- One pick, whatever machine it is made on. -/
namespace Go.Proofs.YtfhkfnoajbbfdabGreatDoor
open Go.RowKit

section
variable {D : Nat → Prop} {w : World} {bm : Nat} {A : List (Th × List Ic)} {m : Nat → Int}

theorem stepA_none {i : Nat} (hi : A.length ≤ i) : stepA A m i = (A, m) := by unfold stepA; rw [List.getElem?_eq_none hi]
theorem flushA_none {i : Nat} (hi : A.length ≤ i) : flushA A m i = (A, m) := by unfold flushA; rw [List.getElem?_eq_none hi]
set_option maxRecDepth 100000 in
set_option maxHeartbeats 1000000 in
theorem m_flush_no {ts : List Tr} (h : MAt D w bm m ts) (i : Nat) (hi : ts.length ≤ i) :
    Calls Tryz.prog 33 #[ptr bm, .int .i64 i] w fun e w' => e = .returned (.tuple #[]) ∧ w' = w := by
  obtain ⟨bt, cap, h1, h3⟩ := h.slot
  clear h h3
  go_enter Tryz.func33, Tryz.ntmps33
  go_wp2_with fail
  refine (has_no bm bt _ cap i h1 hi).mono ?_
  rintro e w' ⟨rfl, rfl⟩
  go_wp2
  go_end0
  exact ⟨rfl, rfl⟩

theorem m_step_all (h : MRep D w bm A m) (hD : ∀ k, w.heap.size ≤ k → D k) (hok : okA A) (i : Nat) :
    Calls Tryz.prog 34 #[ptr bm, .int .i64 i] w fun e w' => e = .returned (.tuple #[]) ∧ (MRep D w' bm (stepA A m i).1 (stepA A m i).2 ∧ Chg (fun k _ => D k) w w') := by
  by_cases hi : i < A.length
  · exact m_step h hD hok i hi
  · rw [stepA_none (Nat.le_of_not_lt hi)]
    obtain ⟨ts, h1, h2⟩ := h
    have hl : ts.length = A.length := by rw [← h2]; simp
    refine (m_step_no h1 i (by omega)).mono ?_
    rintro e w' ⟨rfl, rfl⟩
    exact ⟨rfl, ⟨ts, h1, h2⟩, Chg.refl _ _⟩

theorem m_flush_all (h : MRep D w bm A m) (hD : ∀ k, w.heap.size ≤ k → D k) (i : Nat) :
    Calls Tryz.prog 33 #[ptr bm, .int .i64 i] w fun e w' => e = .returned (.tuple #[]) ∧ (MRep D w' bm (flushA A m i).1 (flushA A m i).2 ∧ Chg (fun k _ => D k) w w') := by
  by_cases hi : i < A.length
  · exact m_flush h hD i hi
  · rw [flushA_none (Nat.le_of_not_lt hi)]
    obtain ⟨ts, h1, h2⟩ := h
    have hl : ts.length = A.length := by rw [← h2]; simp
    refine (m_flush_no h1 i (by omega)).mono ?_
    rintro e w' ⟨rfl, rfl⟩
    exact ⟨rfl, ⟨ts, h1, h2⟩, Chg.refl _ _⟩

set_option maxRecDepth 100000 in
set_option maxHeartbeats 1000000 in
theorem p_step_all (h : MRep D w bm A m) (hD : ∀ k, w.heap.size ≤ k → D k) (i : Nat) (n : Nat) (hn : (n : Int) ≤ 1000000) (hok : ∀ k, k < n → okA (stepsA A m i k).1) :
    Calls Tryz.prog 25 #[ptr bm, .int .i64 i, .int .i64 n] w fun e w' => e = .returned (.tuple #[]) ∧ MRep D w' bm (stepsA A m i n).1 (stepsA A m i n).2 ∧ Chg (fun k _ => D k) w w' := by
  have HK := hid hok
  have HD := hid hD
  have H := hid h
  clear hok hD h
  go_enter Tryz.func25, Tryz.ntmps25
  go_wp2
  go_loopw [7] (fun v wr => ∃ k : Nat, k ≤ n ∧ v = .int .i64 k ∧ Hid (MRep D wr bm (stepsA A m i k).1 (stepsA A m i k).2 ∧ Chg (fun k _ => D k) w wr)) (fun v _ => n - (intOf v).toNat)
  case atStart => exact ⟨0, Nat.zero_le _, rfl, H.out, Chg.refl _ _⟩
  case round =>
    obtain ⟨k, hk, rfl, hr⟩ := hrel
    by_cases hlt : k < n
    · have hlt' : (k : Int) < (n : Int) := by omega
      go_wp2_with fail
      refine (m_step_all hr.out.1 (fun j hj => HD.out j (Nat.le_trans hr.out.2.size hj)) (HK.out k hlt) i).mono ?_
      rintro e w1 ⟨rfl, h1⟩
      have H1 := hid h1
      clear h1
      go_wp2
      go_roundw
      case rel => exact ⟨k + 1, by omega, by go_num, H1.out.1, hr.out.2.trans H1.out.2⟩
      case measure => simp [intOf]; omega
    · have hk' : k = n := by omega
      subst hk'
      have hlt' : ¬ (k : Int) < (k : Int) := by omega
      go_wp2
      go_end0
      exact ⟨rfl, hr.out⟩

set_option maxRecDepth 100000 in
set_option maxHeartbeats 1000000 in
theorem p_flush_all (h : MRep D w bm A m) (hD : ∀ k, w.heap.size ≤ k → D k) (i : Nat) :
    Calls Tryz.prog 24 #[ptr bm, .int .i64 i] w fun e w' => e = .returned (.tuple #[]) ∧ MRep D w' bm (flushA A m i).1 (flushA A m i).2 ∧ Chg (fun k _ => D k) w w' := by
  have HS := hid (m_flush_all h hD i)
  clear h hD
  go_enter Tryz.func24, Tryz.ntmps24
  go_wp2_with fail
  refine HS.out.mono ?_
  rintro e w1 ⟨rfl, hr⟩
  have HR := hid hr
  clear hr HS
  go_wp2
  go_end0
  exact ⟨rfl, HR.out⟩

/-- The number that a raw one picks. -/
def pickV (c n : Int) : Int := if c < 0 then (wrap64 (-wrap64 (c + 1))).tmod n else c % n

theorem pickV_in (c n : Int) (hc : -9223372036854775808 ≤ c) (hn : 0 < n) : 0 ≤ pickV c n ∧ pickV c n < n := by
  unfold pickV
  split
  · rename_i hlt
    have h0 := wrap_neg_bound c hc hlt
    refine ⟨Int.tmod_nonneg n h0, ?_⟩
    rw [Int.tmod_eq_emod_of_nonneg h0]
    exact Int.emod_lt_of_pos _ hn
  · exact ⟨Int.emod_nonneg _ (by omega), Int.emod_lt_of_pos _ hn⟩

set_option maxRecDepth 100000 in
set_option maxHeartbeats 1000000 in
theorem pick_is (c n : Int) (w : World) (hn : 0 < n) :
    Calls Tryz.prog 13 #[.int .i64 c, .int .i64 n] w fun e w' => e = .returned (.int .i64 (pickV c n)) ∧ w' = w := by
  have hn0 : ¬ n = 0 := by omega
  have HN := hid hn
  clear hn
  by_cases hlt : c < 0
  · rw [show pickV c n = (wrap64 (-wrap64 (c + 1))).tmod n from if_pos hlt]
    go_enter Tryz.func13, Tryz.ntmps13
    go_wp2
    go_ret
    exact ⟨rfl, rfl⟩
  · rw [show pickV c n = c % n from if_neg hlt]
    go_enter Tryz.func13, Tryz.ntmps13
    go_wp2
    go_ret
    exact ⟨rfl, rfl⟩

end
end Go.Proofs.YtfhkfnoajbbfdabGreatDoor

/- Machines whose threads keep to their bounds. -/
namespace Go.Proofs.YtfhkfnoajbbfdabGreatDoor
open Go.RowKit

def okL (i : Ic) : Prop := i.k = 8 ∨ i.k = 9 → 0 ≤ i.n

theorem gIn_low {lo hi v : Int} {ws ws1 : List ByteArray} (h : gIn lo hi ws = some (v, ws1)) : lo ≤ v := by
  unfold gIn at h
  cases h1 : gNum ws with
  | none => simp [h1] at h
  | some q =>
    simp [h1] at h
    obtain ⟨⟨a, _⟩, rfl⟩ := h
    exact a

theorem gIns_okL {u : ByteArray} {ws ws1 : List ByteArray} {ic : Ic} (h : gIns u ws = some (ic, ws1)) : okL ic := by
  unfold gIns at h
  split at h
  · unfold gop at h
    cases h1 : gReg ws with
    | none => simp [h1] at h
    | some p1 =>
      cases h2 : gVal p1.2 with
      | none => simp [h1, h2] at h
      | some p2 =>
        cases h3 : gVal p2.2 with
        | none => simp [h1, h2, h3] at h
        | some p3 =>
          simp [h1, h2, h3] at h
          obtain ⟨rfl, _⟩ := h
          intro hk; simp at hk
  · split at h
    · unfold gmov at h
      cases h1 : gReg ws with
      | none => simp [h1] at h
      | some p1 =>
        cases h2 : gVal p1.2 with
        | none => simp [h1, h2] at h
        | some p2 =>
          simp [h1, h2] at h
          obtain ⟨rfl, _⟩ := h
          intro hk; simp at hk
    split at h
    · unfold gload at h
      cases h1 : gReg ws with
      | none => simp [h1] at h
      | some p1 =>
        cases h2 : gCell p1.2 with
        | none => simp [h1, h2] at h
        | some p2 =>
          simp [h1, h2] at h
          obtain ⟨rfl, _⟩ := h
          intro hk; simp at hk
    split at h
    · unfold gstore at h
      cases h1 : gCell ws with
      | none => simp [h1] at h
      | some p1 =>
        cases h2 : gVal p1.2 with
        | none => simp [h1, h2] at h
        | some p2 =>
          simp [h1, h2] at h
          obtain ⟨rfl, _⟩ := h
          intro hk; simp at hk
    split at h
    · unfold gcas at h
      cases h1 : gReg ws with
      | none => simp [h1] at h
      | some p1 =>
        cases h2 : gCell p1.2 with
        | none => simp [h1, h2] at h
        | some p2 =>
          cases h3 : gVal p2.2 with
          | none => simp [h1, h2, h3] at h
          | some p3 =>
            cases h4 : gVal p3.2 with
            | none => simp [h1, h2, h3, h4] at h
            | some p4 =>
              simp [h1, h2, h3, h4] at h
              obtain ⟨rfl, _⟩ := h
              intro hk; simp at hk
    split at h
    · unfold gxadd at h
      cases h1 : gReg ws with
      | none => simp [h1] at h
      | some p1 =>
        cases h2 : gCell p1.2 with
        | none => simp [h1, h2] at h
        | some p2 =>
          cases h3 : gVal p2.2 with
          | none => simp [h1, h2, h3] at h
          | some p3 =>
            simp [h1, h2, h3] at h
            obtain ⟨rfl, _⟩ := h
            intro hk; simp at hk
    split at h
    · simp [gfence] at h
      obtain ⟨rfl, _⟩ := h
      intro hk; simp at hk
    split at h
    · unfold gout at h
      cases h1 : gVal ws with
      | none => simp [h1] at h
      | some p1 =>
        simp [h1] at h
        obtain ⟨rfl, _⟩ := h
        intro hk; simp at hk
    split at h
    · unfold gjmp at h
      cases h1 : gIn 0 4000 ws with
      | none => simp [h1] at h
      | some p1 =>
        simp [h1] at h
        obtain ⟨rfl, _⟩ := h
        intro _; exact gIn_low (ws1 := p1.2) h1
    split at h
    · unfold gjz at h
      cases h1 : gVal ws with
      | none => simp [h1] at h
      | some p1 =>
        cases h2 : gIn 0 4000 p1.2 with
        | none => simp [h1, h2] at h
        | some p2 =>
          simp [h1, h2] at h
          obtain ⟨rfl, _⟩ := h
          intro _; exact gIn_low (ws1 := p2.2) h2
    split at h
    · unfold gtrap at h
      cases h1 : gIn 1 9 ws with
      | none => simp [h1] at h
      | some p1 =>
        simp [h1] at h
        obtain ⟨rfl, _⟩ := h
        intro hk; simp at hk
    split at h
    · simp [ghalt] at h
      obtain ⟨rfl, _⟩ := h
      intro hk; simp at hk
    · simp at h

def AccL (acc : List (List Ic)) : Prop := ∀ c ∈ acc, ∀ i ∈ c, okL i

theorem gLine_okL {ws : List ByteArray} {acc acc' : List (List Ic)} (h : gLine ws acc = .ok acc') (ha : AccL acc) : AccL acc' := by
  unfold gLine at h
  split at h
  · simp at h
  · split at h
    · split at h
      · split at h
        · simp at h
        · simp at h
          subst h
          intro c hc
          simp at hc
          rcases hc with hc | rfl
          · exact ha c hc
          · intro i hi; simp at hi
      · simp at h
    · split at h
      · simp at h
      · simp at h
      · rename_i ic hi
        split at h
        · simp at h
        · rename_i c hc
          split at h
          · simp at h
          · simp at h
            subst h
            have hm : c ∈ acc := List.mem_of_getLast? hc
            intro d hd
            simp at hd
            rcases hd with hd | rfl
            · exact ha d ((List.dropLast_sublist acc).subset hd)
            · intro i hi'
              simp at hi'
              rcases hi' with hi' | rfl
              · exact ha c hm i hi'
              · exact gIns_okL hi

theorem gText_okL : ∀ (f : Nat) (r : List UInt8) (j : Nat) (acc cs : List (List Ic)), gText f r j acc = .ok cs → AccL acc → AccL cs
  | 0, r, j, acc, cs, h, ha => by simp [gText] at h; exact h ▸ ha
  | f + 1, r, j, acc, cs, h, ha => by
    unfold gText at h
    split at h
    · simp at h; exact h ▸ ha
    · split at h
      · simp at h
      · split at h
        · rename_i acc' hg
          exact gText_okL f _ _ acc' cs h (gLine_okL hg ha)
        · simp at h

theorem gCode_okL {s : ByteArray} {cs : List (List Ic)} (h : gCode s = .ok cs) : AccL cs := by
  unfold gCode at h
  split at h
  · simp at h
  · exact gText_okL _ _ _ _ _ h (fun c hc => by simp at hc)

/-- Threads that keep to their bounds, and have not given out more than N times. -/
def Fine (N : Nat) (A : List (Th × List Ic)) : Prop := ∀ p ∈ A, 0 ≤ p.1.pl ∧ p.2.length ≤ 4000 ∧ (∀ i ∈ p.2, okI i ∧ okL i) ∧ p.1.out.length ≤ N

theorem Fine.ok {N : Nat} {A : List (Th × List Ic)} (h : Fine N A) (hN : N < 1099511627776) : okA A := fun p hp =>
  ⟨(h p hp).1, (h p hp).2.1, fun i hi => ((h p hp).2.2.1 i hi).1, by have := (h p hp).2.2.2; omega⟩

/-- What a step leaves of a thread's place and of what it has given out. -/
def PlOut (T : Th) (R : Th × (Nat → Int)) : Prop := 0 ≤ R.1.pl ∧ R.1.out.length ≤ T.out.length + 1

theorem iteP {T : Th} {c : Prop} [Decidable c] {a b : Th × (Nat → Int)} (ha : c → PlOut T a) (hb : ¬ c → PlOut T b) : PlOut T (if c then a else b) := by
  by_cases h : c
  · rw [if_pos h]; exact ha h
  · rw [if_neg h]; exact hb h

theorem doI_fine (i : Ic) (T : Th) (m : Nat → Int) (hp : 0 ≤ T.pl) (hl : okL i) : 0 ≤ (doI i T m).1.pl ∧ (doI i T m).1.out.length ≤ T.out.length + 1 := by
  show PlOut T (doI i T m)
  have z : ∀ (r : Nat → Int) (q : List (Int × Int)) (s : Int) (m' : Nat → Int), PlOut T (⟨r, T.pl, q, T.out, s⟩, m') := fun _ _ _ _ => ⟨hp, Nat.le_succ _⟩
  unfold doI
  refine iteP (fun _ => iteP (fun _ => z _ _ _ _) (fun _ => z _ _ _ _)) (fun _ => ?_)
  refine iteP (fun _ => iteP (fun _ => z _ _ _ _) (fun _ => z _ _ _ _)) (fun _ => ?_)
  refine iteP (fun _ => iteP (fun _ => iteP (fun _ => z _ _ _ _) (fun _ => z _ _ _ _)) (fun _ => z _ _ _ _)) (fun _ => ?_)
  refine iteP (fun _ => iteP (fun _ => z _ _ _ _) (fun _ => z _ _ _ _)) (fun _ => ?_)
  refine iteP (fun _ => z _ _ _ _) (fun _ => ?_)
  refine iteP (fun _ => ⟨hp, by simp⟩) (fun _ => ?_)
  refine iteP (fun h => ⟨hl (.inl h), Nat.le_succ _⟩) (fun _ => ?_)
  refine iteP (fun _ => z _ _ _ _) (fun _ => ?_)
  refine iteP (fun _ => ?_) (fun _ => ?_)
  · cases opV i.op (i.a.of T) (i.b.of T) with
    | some v => exact z _ _ _ _
    | none => exact z _ _ _ _
  refine iteP (fun h => iteP (fun _ => ⟨hl (.inr h), Nat.le_succ _⟩) (fun _ => ⟨hp, Nat.le_succ _⟩)) (fun _ => z _ _ _ _)

theorem stepT_fine (T : Th) (m : Nat → Int) (c : List Ic) (hp : 0 ≤ T.pl) (hl : ∀ i ∈ c, okL i) : 0 ≤ (stepT T m c).1.pl ∧ (stepT T m c).1.out.length ≤ T.out.length + 1 := by
  unfold stepT
  split
  · split
    · rename_i i hi
      have := doI_fine i { T with pl := T.pl + 1 } m (by show 0 ≤ T.pl + 1; omega) (hl i (List.mem_of_getElem? hi))
      exact this
    · exact ⟨hp, by simp⟩
  · exact ⟨hp, by simp⟩

theorem Fine.step {N : Nat} {A : List (Th × List Ic)} (h : Fine N A) (m : Nat → Int) (i : Nat) : Fine (N + 1) (stepA A m i).1 := by
  unfold stepA
  split
  · exact fun p hp => ⟨(h p hp).1, (h p hp).2.1, (h p hp).2.2.1, by have := (h p hp).2.2.2; omega⟩
  · rename_i q hq
    have hqm : q ∈ A := List.mem_of_getElem? hq
    intro p hp
    rcases List.mem_or_eq_of_mem_set hp with hp | rfl
    · exact ⟨(h p hp).1, (h p hp).2.1, (h p hp).2.2.1, by have := (h p hp).2.2.2; omega⟩
    · have hs := stepT_fine q.1 m q.2 (h q hqm).1 (fun i hi => ((h q hqm).2.2.1 i hi).2)
      exact ⟨hs.1, (h q hqm).2.1, (h q hqm).2.2.1, by have := (h q hqm).2.2.2; have := hs.2; show (stepT q.1 m q.2).1.out.length ≤ _; omega⟩

theorem Fine.flush {N : Nat} {A : List (Th × List Ic)} (h : Fine N A) (m : Nat → Int) (i : Nat) : Fine N (flushA A m i).1 := by
  unfold flushA
  split
  · exact h
  · rename_i q hq
    have hqm : q ∈ A := List.mem_of_getElem? hq
    intro p hp
    rcases List.mem_or_eq_of_mem_set hp with hp | rfl
    · exact h p hp
    · have e1 : (flushT q.1 m).1.pl = q.1.pl ∧ (flushT q.1 m).1.out = q.1.out := by unfold flushT; split <;> exact ⟨rfl, rfl⟩
      exact ⟨by show 0 ≤ (flushT q.1 m).1.pl; rw [e1.1]; exact (h q hqm).1, (h q hqm).2.1, (h q hqm).2.2.1, by show (flushT q.1 m).1.out.length ≤ N; rw [e1.2]; exact (h q hqm).2.2.2⟩

theorem Fine.mono {N M : Nat} {A : List (Th × List Ic)} (h : Fine N A) (hNM : N ≤ M) : Fine M A := fun p hp => ⟨(h p hp).1, (h p hp).2.1, (h p hp).2.2.1, Nat.le_trans (h p hp).2.2.2 hNM⟩

theorem fine_init {cs : List (List Ic)} (h : AccOk cs) (hl : AccL cs) : Fine 0 (cs.map fun c => (Th.init, c)) := by
  intro p hp
  simp at hp
  obtain ⟨c, hc, rfl⟩ := hp
  exact ⟨by simp [Th.init], (h.2 c hc).1, fun i hi => ⟨(h.2 c hc).2 i hi, hl c hc i hi⟩, by simp [Th.init]⟩

/-- One machine plays, with others beside it. -/
theorem part {D Dx : Nat → Prop} {w w1 : World} {bx : Nat} {Ax : List (Th × List Ic)} {mx : Nat → Int} (h : MRep Dx w bx Ax mx) (hc : Chg (fun k _ => D k ∨ w.heap.size ≤ k) w w1) (hd : ∀ k, Dx k → ¬ D k) (hlt : ∀ k, Dx k → k < w.heap.size) : MRep Dx w1 bx Ax mx :=
  h.keep hc (fun k hk _ i e => e.elim (hd k hk) (fun e => by have := hlt k hk; omega))
end Go.Proofs.YtfhkfnoajbbfdabGreatDoor

/- What is asked of any thread of any machine. -/
namespace Go.Proofs.YtfhkfnoajbbfdabGreatDoor
open Go.RowKit

def outsOf (A : List (Th × List Ic)) (t : Nat) : List Int := match A[t]? with | some p => p.1.out | none => []

section
variable {D : Nat → Prop} {w : World} {bm : Nat} {A : List (Th × List Ic)} {m : Nat → Int} {ts : List Tr}

set_option maxRecDepth 100000 in
set_option maxHeartbeats 1000000 in
theorem m_out_no (h : MAt D w bm m ts) (i : Nat) (hi : ts.length ≤ i) :
    Calls Tryz.prog 26 #[ptr bm, .int .i64 i] w fun e w' => e = .returned (.slice none 0 0) ∧ w' = w := by
  obtain ⟨bt, cap, h1, h3⟩ := h.slot
  clear h h3
  go_enter Tryz.func26, Tryz.ntmps26
  go_wp2_with fail
  refine (has_no bm bt _ cap i h1 hi).mono ?_
  rintro e w' ⟨rfl, rfl⟩
  go_wp2
  go_ret
  exact ⟨rfl, rfl⟩

set_option maxRecDepth 100000 in
set_option maxHeartbeats 1000000 in
theorem m_state_no (h : MAt D w bm m ts) (i : Nat) (hi : ts.length ≤ i) :
    Calls Tryz.prog 27 #[ptr bm, .int .i64 i] w fun e w' => e = .returned (.int .i64 10) ∧ w' = w := by
  obtain ⟨bt, cap, h1, h3⟩ := h.slot
  clear h h3
  go_enter Tryz.func27, Tryz.ntmps27
  go_wp2_with fail
  refine (has_no bm bt _ cap i h1 hi).mono ?_
  rintro e w' ⟨rfl, rfl⟩
  go_wp2
  go_ret
  exact ⟨rfl, rfl⟩

set_option maxRecDepth 100000 in
set_option maxHeartbeats 1000000 in
theorem p_state_of (v : Int) (i : Nat) (hs : Hid (Calls Tryz.prog 27 #[ptr bm, .int .i64 i] w fun e w' => e = .returned (.int .i64 v) ∧ w' = w)) :
    Calls Tryz.prog 15 #[ptr bm, .int .i64 i] w fun e w' => e = .returned (.int .i64 v) ∧ w' = w := by
  go_enter Tryz.func15, Tryz.ntmps15
  go_wp2_with fail
  refine hs.out.mono ?_
  rintro e w' ⟨rfl, rfl⟩
  go_wp2
  go_ret
  exact ⟨rfl, rfl⟩

set_option maxRecDepth 100000 in
set_option maxHeartbeats 1000000 in
theorem p_out_of (i : Nat) (hs : Hid (Calls Tryz.prog 26 #[ptr bm, .int .i64 i] w fun e w' => e = .returned (.slice none 0 0) ∧ w' = w)) :
    Calls Tryz.prog 14 #[ptr bm, .int .i64 i] w fun e w' => e = .returned (.slice none 0 0) ∧ w' = w := by
  go_enter Tryz.func14, Tryz.ntmps14
  go_wp2_with fail
  refine hs.out.mono ?_
  rintro e w' ⟨rfl, rfl⟩
  go_wp2
  go_ret
  exact ⟨rfl, rfl⟩

theorem p_stateG (h : MRep D w bm A m) (i : Nat) :
    Calls Tryz.prog 15 #[ptr bm, .int .i64 i] w fun e w' => e = .returned (.int .i64 (stOf A i)) ∧ w' = w := by
  obtain ⟨ts, h1, h2⟩ := h
  have hl : ts.length = A.length := by rw [← h2]; simp
  by_cases hi : i < ts.length
  · have e : stOf A i = ts[i].T.st := by unfold stOf; rw [← h2]; simp [hi]
    rw [e]
    exact p_state_of _ i (m_state_yes h1 i hi)
  · have e : stOf A i = 10 := by unfold stOf; rw [List.getElem?_eq_none (by omega)]; rfl
    rw [e]
    exact p_state_of _ i (m_state_no h1 i (by omega))

theorem p_outG {N : Nat} (h : MRep D w bm A m) (hf : Fine N A) (hN : N < 1099511627776) (i : Nat) :
    Calls Tryz.prog 14 #[ptr bm, .int .i64 i] w fun e w' => ∃ a, e = .returned (.slice a (outsOf A i).length (outsOf A i).length) ∧ Below w.heap.size w w' ∧ (outsOf A i = [] ∨ ∃ g, a = some ⟨g, 0, none⟩ ∧ w.heap.size ≤ g ∧ ∀ j (h : j < (outsOf A i).length), w'.cell? ⟨g, j, none⟩ = some (.int .i64 (outsOf A i)[j])) := by
  by_cases hi : i < A.length
  · have hp := List.getElem?_eq_getElem hi
    have e : outsOf A i = (A[i]).1.out := by unfold outsOf; rw [hp]
    rw [e]
    refine (p_outR h i A[i] hp (by have := (hf _ (List.getElem_mem hi)).2.2.2; omega)).mono ?_
    rintro e w' ⟨rfl, h1, h2, h3⟩
    exact ⟨_, rfl, h1, .inr ⟨w.heap.size, rfl, Nat.le_refl _, h3⟩⟩
  · have e : outsOf A i = [] := by unfold outsOf; rw [List.getElem?_eq_none (by omega)]
    rw [e]
    obtain ⟨ts, h1, h2⟩ := h
    have hl : ts.length = A.length := by rw [← h2]; simp
    refine (p_out_of i (m_out_no h1 i (by omega))).mono ?_
    rintro e w' ⟨rfl, rfl⟩
    exact ⟨none, rfl, Below.refl _ _, .inl rfl⟩
end

end Go.Proofs.YtfhkfnoajbbfdabGreatDoor

/- A thread alone, what it stores goes to the memory at once, until it is at its end. -/
namespace Go.Proofs.YtfhkfnoajbbfdabGreatDoor
open Go.RowKit

/-- A step, and what waits longest goes to the memory; so often. -/
def sfA (t : Nat) (p : List (Th × List Ic) × (Nat → Int)) : List (Th × List Ic) × (Nat → Int) := flushA (stepA p.1 p.2 t).1 (stepA p.1 p.2 t).2 t
def sfN (t : Nat) : Nat → List (Th × List Ic) × (Nat → Int) → List (Th × List Ic) × (Nat → Int)
  | 0, p => p
  | n + 1, p => sfA t (sfN t n p)

section
variable {D : Nat → Prop} {w : World} {bm : Nat} {A : List (Th × List Ic)} {m : Nat → Int}

set_option maxRecDepth 100000 in
set_option maxHeartbeats 4000000 in
theorem end_n (h : MRep D w bm A m) (hD : ∀ k, w.heap.size ≤ k → D k) (t N : Nat) (hN : N < 200000) (hrun : ∀ k, k < N → stOf (sfN t k (A, m)).1 t = 0) (hend : stOf (sfN t N (A, m)).1 t ≠ 0) (hok : ∀ k, k < N → okA (sfN t k (A, m)).1) :
    Calls Tryz.prog 21 #[ptr bm, .int .i64 t] w fun e w' => e = .returned (.bool true) ∧ MRep D w' bm (sfN t N (A, m)).1 (sfN t N (A, m)).2 ∧ Chg (fun k _ => D k) w w' := by
  have H0 : Hid (MRep D w bm (sfN t 0 (A, m)).1 (sfN t 0 (A, m)).2 ∧ Chg (fun k _ => D k) w w) := hid ⟨h, Chg.refl _ _⟩
  have HD := hid hD
  have HR := hid hrun
  have HE := hid hend
  have HO := hid hok
  clear h hD hrun hend hok
  go_enter Tryz.func21, Tryz.ntmps21
  go_wp2
  go_loopw [5] (fun v5 wr => ∃ k : Nat, k ≤ N ∧ v5 = .int .i64 k ∧ Hid (MRep D wr bm (sfN t k (A, m)).1 (sfN t k (A, m)).2 ∧ Chg (fun k _ => D k) w wr)) (fun v5 _ => N + 1 - (intOf v5).toNat)
  case atStart => exact ⟨0, Nat.zero_le _, rfl, H0⟩
  case round =>
    obtain ⟨k, hk, rfl, hB⟩ := hrel
    have hlt : (k : Int) < 200000 := by omega
    have hDw : ∀ j, wr.heap.size ≤ j → D j := fun j hj => HD.out j (Nat.le_trans hB.out.2.size hj)
    by_cases hkN : k < N
    · have hs := HR.out k hkN
      have KS := hid (p_stateG hB.out.1 t)
      rw [hs] at KS
      have hne : ((0 : Int) == 0) = true := rfl
      have KP := hid (p_step_all hB.out.1 hDw t 1 (by decide) (fun j hj => by
        obtain rfl : j = 0 := by omega
        exact HO.out k hkN))
      go_wp2_with fail
      refine KS.out.mono ?_
      rintro e w1 ⟨rfl, rfl⟩
      clear KS
      go_wp2_with fail
      refine KP.out.mono ?_
      rintro e w2 ⟨rfl, h2, c2⟩
      have H2 := hid h2
      have C2 := hid c2
      have KF := hid (p_flush_all h2 (fun j hj => hDw j (Nat.le_trans c2.size hj)) t)
      clear KP h2 c2
      go_wp2_with fail
      refine KF.out.mono ?_
      rintro e w3 ⟨rfl, h3, c3⟩
      have H3 := hid h3
      have C3 := hid c3
      clear KF h3 c3
      go_wp2
      go_roundw
      case rel => exact ⟨k + 1, by omega, by go_num, hid ⟨H3.out, (hB.out.2.trans C2.out).trans C3.out⟩⟩
      case measure => simp [intOf]; omega
    · have hkk : k = N := by omega
      subst hkk
      have KS := hid (p_stateG hB.out.1 t)
      have hs : (stOf (sfN t k (A, m)).1 t == 0) = false := by simpa using HE.out
      have hs2 : ¬ stOf (sfN t k (A, m)).1 t = 0 := HE.out
      clear hkN HE HO HR hDw hN hk
      generalize stOf (sfN t k (A, m)).1 t = sv at *
      go_wp2_with fail
      refine KS.out.mono ?_
      rintro e w1 ⟨rfl, rfl⟩
      clear KS
      clear HD H0 hlt
      go_wp2
      go_ret
      exact ⟨rfl, hB.out⟩
end
end Go.Proofs.YtfhkfnoajbbfdabGreatDoor
