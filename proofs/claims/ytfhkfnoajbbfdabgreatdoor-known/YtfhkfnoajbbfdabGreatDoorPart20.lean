import Derived.Test.YtfhkfnoajbbfdabGreatDoorPart19
import Derived.Deep.RegionHeldLaw
/- The coder: trapIf0, undoIf0. -/
namespace Go.Proofs.YtfhkfnoajbbfdabGreatDoor
open Go.RowKit

section
variable {W w w' : World} {x : Cx} {K : List (Nat × Nat × Value)} {m : Cm} {c : Nat} {s : Ck}

theorem Cd.drew (h : Cd W x K m w c s) : Cd W x K m w.drew c s := h.below (below_drew _ w)
theorem Cd.alloc (h : Cd W x K m w c s) (o : Obj) : Cd W x K m (w.alloc o) c s := h.below ((Below.refl _ w).alloc (Nat.le_refl _) o)

set_option maxRecDepth 100000 in
set_option maxHeartbeats 1000000 in
theorem trapIf_c (h : Cw W x K w c s) (hG : s.g < 10000000) :
    Calls Tryz.prog 212 #[ptr c] w fun e w' => e = .returned (.tuple #[]) ∧ Cw W x K w' c s.trapIf := by
  obtain ⟨i0, hi0, hz0, hz1, hz2⟩ := info_parts infoFn
  obtain ⟨m, hm⟩ := h
  have hc := hm.c6
  have lb := hm.lt
  have hT := hm.ok.t
  have hLg := hm.ok.l
  have hl1 : s.T.length + 1 ≤ maxLen := by unfold maxLen; omega
  have hl2 : (s.T.length + 1) * 8 ≤ 140737488355328 := by omega
  have nc : ¬ m.tv.ownBlock = some c := fun e => by have := hm.ltv _ e; rw [hm.lc] at this; omega
  have NC : Hid (∀ (w1 w3 : World) (o : Obj), w1.cell? ⟨c, 6, none⟩ = some m.tv → c < w1.heap.size → Chg (fun k _ => m.tv.ownBlock = some k) (w1.alloc o) w3 → w3.cell? ⟨c, 6, none⟩ = some m.tv) := hid fun w1 w3 o h1 h2 hch => (hch.cell _ _ (by simp; omega) nc).trans ((World.cell?_alloc_past _ _ _ h2).trans h1)
  have NF : Hid (∀ (w1 w3 : World) (o : Obj), w1.frozen? ⟨c, 6, none⟩ = false → c < w1.heap.size → Chg (fun k _ => m.tv.ownBlock = some k) (w1.alloc o) w3 → w3.frozen? ⟨c, 6, none⟩ = false) := hid fun w1 w3 o h1 h2 hch => (hch.frozen _ _ (by simp; omega)).trans ((World.frozen?_alloc_past _ _ _ h2).trans h1)
  have H := hid hm
  clear hm nc
  go_enter Tryz.func212, Tryz.ntmps212
  go_wp2_with fail
  go_region_law (first
    | (go_simp; go_at_call 152; refine (leap_newd H.out.drew [yJz, yR4] (by simp) ⟨by decide, by decide, trivial⟩ (by omega)).mono ?_; rintro e w1 ⟨bl, ba, rfl, lab1, lv1, h1⟩; have hc1 : w1.cell? ⟨c, 6, none⟩ = some m.tv := h1.c6; have hf1 := h1.free 6; have lb1 := h1.lt; have H1 := hid h1; clear h1 hc)
    | (refine step_appN rfl (.tmp 6) (.tmp 12) 164 rfl 1 i0 .nilFunc 1 8 (by decide) Tryz.underlying164 hi0 hz0 hz1 hz2 rfl m.tv s.T.length m.TV rfl (H1.out.trow.alloc _) ⟨w1.heap.size, 0, none⟩ [leapV bl ba] rfl rfl (cell_one_new _ _ _) (by simp [Value.oneCell', leapV]) hl1 hl2 ?_; intro g cp w3 ho hch hg; have hcb := NC.out w1 w3 _ hc1 lb1 hch; have hfb := NF.out w1 w3 _ hf1 lb1 hch; have HR := hid (((H1.out.alloc _).pushTrap ((H1.out.alloc _).isLeap (bl := bl) (ba := ba) (n := s.L.length) (by simp) (by simp)) (by simp [Ck.add]) (by simp only [Ck.add]; omega) ho hch hg).less (K' := K) (fun p hp => List.mem_cons_of_mem _ (List.mem_cons_of_mem _ hp))); clear ho hch hg hc1 hf1))
  all_goals
    go_wp2
    go_end0
    exact ⟨rfl, HR.out⟩

theorem bk_of {k : Bk} (hk : s.blk = some k) : s.bk = k := by simp [Ck.bk, hk]

set_option maxRecDepth 100000 in
set_option maxHeartbeats 2000000 in
theorem undoIf_c (h : Cw W x K w c s) {k : Bk} (hk : s.blk = some k) (hG : s.g < 10000000) :
    Calls Tryz.prog 237 #[ptr c] w fun e w' => e = .returned (.tuple #[]) ∧ Cw W x K w' c s.undoIf := by
  obtain ⟨i0, hi0, hz0, hz1, hz2⟩ := info_parts infoFn
  obtain ⟨m, hm⟩ := h
  have hb := hm.bk k hk
  have hc5 : w.cell? ⟨c, 5, none⟩ = some (ptr m.b) := by rw [hm.c5]; simp only [blkV, hk]
  have hu := hb.un
  have lb := hm.lt
  have hU := (hm.ok.u k hk).1
  have hLg := hm.ok.l
  have hl1 : k.undo.length + 1 ≤ maxLen := by unfold maxLen; omega
  have hl2 : (k.undo.length + 1) * 8 ≤ 140737488355328 := by omega
  have nc : ¬ m.uv.ownBlock = some m.b := fun e => by have := hb.luv _ e; rw [hb.lbk] at this; omega
  have NC : Hid (∀ (w1 w3 : World) (o : Obj), w1.cell? ⟨m.b, 18, none⟩ = some m.uv → Chg (fun k _ => m.uv.ownBlock = some k) (w1.alloc o) w3 → w3.cell? ⟨m.b, 18, none⟩ = some m.uv) := hid fun w1 w3 o h1 hch => by
    have h2 := World.block_lt_of_cell? _ _ h1
    exact (hch.cell _ _ (by simp at h2 ⊢; omega) nc).trans ((World.cell?_alloc_past _ _ _ h2).trans h1)
  have NF : Hid (∀ (w1 w3 : World) (o : Obj), w1.frozen? ⟨m.b, 18, none⟩ = false → m.b < w1.heap.size → Chg (fun k _ => m.uv.ownBlock = some k) (w1.alloc o) w3 → w3.frozen? ⟨m.b, 18, none⟩ = false) := hid fun w1 w3 o h1 h2 hch => (hch.frozen _ _ (by simp; omega)).trans ((World.frozen?_alloc_past _ _ _ h2).trans h1)
  have nc5 : ¬ m.uv.ownBlock = some c := fun e => by have := hb.luv _ e; rw [hm.lc] at this; omega
  have ncb : c ≠ m.b := fun e => by have := hb.lbk; rw [← e, hm.lc] at this; omega
  have N5 : Hid (∀ (w1 w3 : World) (o : Obj), w1.cell? ⟨c, 5, none⟩ = some (ptr m.b) → Chg (fun k _ => m.uv.ownBlock = some k) (w1.alloc o) w3 → w3.cell? ⟨c, 5, none⟩ = some (ptr m.b)) := hid fun w1 w3 o h1 hch => by
    have h2 := World.block_lt_of_cell? _ _ h1
    exact (hch.cell _ _ (by simp at h2 ⊢; omega) nc5).trans ((World.cell?_alloc_past _ _ _ h2).trans h1)
  have hR : s.undoIf = { s.add [yJz, yR4] with blk := some { k with undo := k.undo ++ [s.L.length] } } := by simp only [Ck.undoIf, bk_of hk]
  rw [hR]
  have lbb := lt_of_shape hb.sh
  have H := hid hm
  clear hm nc hb hR nc5
  generalize hmb : m.b = b at *
  have HD5 : Hid (∀ {w1 : World} (lab1 : Nat → Nat) (lv1 : Value), w1.cell? ⟨c, 5, none⟩ = some (blkV { m with lab := lab1, lv := lv1 } (s.add [yJz, yR4])) → w1.cell? ⟨c, 5, none⟩ = some (ptr b)) := hid fun _ _ e => by
    rw [e]; simp only [blkV, Ck.add, hk, hmb]
  go_enter Tryz.func237, Tryz.ntmps237
  go_wp2_with fail
  refine wp_region_held_drew (S := (fun w' => w'.cell? ⟨c, 5, none⟩ = some (ptr b))) (by kernel_rfl) ?_ (fun hHeld => ?_)
  · (try dsimp only); go_keep
  refine wpAnyH_take (i := 0) (v := ?_) rfl (by kernel_rfl) (by kernel_rfl) (by kernel_rfl) (fun _ _ _ h => h) (Or.inl ⟨by rfl, ?_⟩) (by assumption) ?_
  rotate_left
  · (intro w hSw; (try dsimp only at hSw); go_simp; try (with_reducible rfl))
  try simp only [Act.put, List.setIfInBounds_toArray]
  refine wpAnyH_take (i := 1) (v := ?_) rfl (by kernel_rfl) (by kernel_rfl) (by kernel_rfl) (fun _ _ _ h => h) (Or.inl ⟨by rfl, ?_⟩) (by assumption) ?_
  rotate_left
  · (intro w hSw; (try dsimp only at hSw); go_simp; try (with_reducible rfl))
  try simp only [Act.put]
  refine wpAnyH_take (i := 2) (v := ?_) rfl (by kernel_rfl) (by kernel_rfl) (by kernel_rfl) (fun _ _ _ h => h) (Or.inl ⟨by rfl, ?_⟩) (by assumption) ?_
  rotate_left
  · (intro w hSw; (try dsimp only at hSw); go_simp; try (with_reducible rfl))
  try simp only [Act.put]
  refine wpAnyH_take (i := 3) (v := ?_) rfl (by kernel_rfl) (by kernel_rfl) (by kernel_rfl) (fun _ _ _ h => h) (Or.inl ⟨by rfl, ?_⟩) (by assumption) ?_
  rotate_left
  · (intro w hSw; (try dsimp only at hSw); go_simp; try (with_reducible rfl))
  try simp only [Act.put]
  refine wpAnyH_take (i := 4) (v := ?_) rfl (by kernel_rfl) (by kernel_rfl) (by kernel_rfl) (fun _ _ _ h => h) (Or.inl ⟨by rfl, ?_⟩) (by assumption) ?_
  rotate_left
  · (intro w hSw; (try dsimp only at hSw); go_simp; try (with_reducible rfl))
  try simp only [Act.put]
  refine wpAnyH_take (i := 5) (v := ?_) rfl (by kernel_rfl) (by kernel_rfl) (by kernel_rfl) (fun _ _ _ h => h) (Or.inl ⟨by rfl, ?_⟩) (by assumption) ?_
  rotate_left
  · (intro w hSw; (try dsimp only at hSw); go_simp; try (with_reducible rfl))
  try simp only [Act.put]
  refine wpAnyH_take (i := 6) (v := ?_) rfl (by kernel_rfl) (by kernel_rfl) (by kernel_rfl) (fun _ _ _ h => h) (Or.inl ⟨by rfl, ?_⟩) (by assumption) ?_
  rotate_left
  · (intro w hSw; (try dsimp only at hSw); go_simp; try (with_reducible rfl))
  try simp only [Act.put]
  refine wpAnyH_take (i := 7) (v := ?_) rfl (by kernel_rfl) (by kernel_rfl) (by kernel_rfl) (fun _ _ _ h => h) (Or.inl ⟨by rfl, ?_⟩) (by assumption) ?_
  rotate_left
  · (intro w hSw; (try dsimp only at hSw); go_simp; try (with_reducible rfl))
  try simp only [Act.put]
  refine wpAnyH_take (i := 8) (v := ?_) rfl (by kernel_rfl) (by kernel_rfl) (by kernel_rfl) (fun _ _ _ h => h) (Or.inl ⟨by rfl, ?_⟩) (by assumption) ?_
  rotate_left
  · (intro w hSw; (try dsimp only at hSw); go_simp; try (with_reducible rfl))
  try simp only [Act.put]
  refine wpAnyH_take (i := 9) (v := ?_) rfl (by kernel_rfl) (by kernel_rfl) (by kernel_rfl) (fun _ _ _ h => h) (Or.inl ⟨by rfl, ?_⟩) (by assumption) ?_
  rotate_left
  · (intro w hSw; (try dsimp only at hSw); go_simp; try (with_reducible rfl))
  try simp only [Act.put]
  refine wpAnyH_take (i := 11) (v := ?_) rfl (by kernel_rfl) (by kernel_rfl) (by kernel_rfl) (fun _ _ _ h => h) (Or.inl ⟨by rfl, ?_⟩) (by assumption) ?_
  rotate_left
  · (intro w hSw; (try dsimp only at hSw); go_simp; try (with_reducible rfl))
  try simp only [Act.put]
  refine wpAnyH_take (i := 12) (v := ?_) rfl (by kernel_rfl) (by kernel_rfl) (by kernel_rfl) (fun _ _ _ h => h) (Or.inl ⟨by rfl, ?_⟩) (by assumption) ?_
  rotate_left
  · (intro w hSw; (try dsimp only at hSw); go_simp; try (with_reducible rfl))
  try simp only [Act.put]
  refine wpAnyH_take (i := 13) (v := ?_) rfl (by kernel_rfl) (by kernel_rfl) (by kernel_rfl) (fun _ _ _ h => h) (Or.inl ⟨by rfl, ?_⟩) (by assumption) ?_
  rotate_left
  · (intro w hSw; (try dsimp only at hSw); go_simp; try (with_reducible rfl))
  try simp only [Act.put]
  refine wpAnyH_ready (rs := [10, 14]) (by kernel_rfl) (by simp) ?_
  refine AllReadyH.cons rfl (fun KQ hKQ => ?_) ?_
  · go_simp
    refine hKQ.out _ _ ?_ (fun hHeld => ?_)
    · (try dsimp only); (first | go_keep | exact (cell_set_ne (.inl ncb)).trans (by assumption))
    clear hKQ KQ
    refine wpAnyH_ready (rs := [14]) (by kernel_rfl) (by simp) ?_
    refine AllReadyH.cons rfl (fun KQ hKQ => ?_) ?_
    · go_simp
      refine hKQ.out _ _ ?_ (fun hHeld => ?_)
      · (try dsimp only); (first | go_keep | exact (cell_set_ne (.inl ncb)).trans (by assumption))
      clear hKQ KQ
      refine wpAnyH_ready (rs := [15]) (by kernel_rfl) (by simp) ?_
      refine AllReadyH.cons rfl (fun KQ hKQ => ?_) ?_
      · (go_simp; go_at_call 152; refine (leap_newd H.out.drew [yJz, yR4] (by simp) ⟨by decide, by decide, trivial⟩ (by omega)).mono ?_; rintro e w1 ⟨bl, ba, rfl, lab1, lv1, h1⟩; have h1b := h1.bk k hk; have hd1 : w1.cell? ⟨c, 5, none⟩ = some (ptr b) := HD5.out _ _ h1.c5; have hu1 : w1.cell? ⟨b, 18, none⟩ = some m.uv := hmb ▸ h1b.un; have hf1 : w1.frozen? ⟨b, 18, none⟩ = false := hmb ▸ h1b.free 18; have lb1 := h1.lt; have lbb1 : b < w1.heap.size := World.block_lt_of_cell? _ _ hu1; have HR1 := hid h1b.urow; have H1 := hid h1; clear h1 h1b hc5 hu)
        refine hKQ.out _ _ ?_ (fun hHeld => ?_)
        · (try dsimp only); (first | go_keep | exact (cell_set_ne (.inl ncb)).trans (by assumption))
        clear hKQ KQ
        refine wpAnyH_ready (rs := [16]) (by kernel_rfl) (by simp) ?_
        refine AllReadyH.cons rfl (fun KQ hKQ => ?_) ?_
        · go_simp
          refine hKQ.out _ _ ?_ (fun hHeld => ?_)
          · (try dsimp only); (first | go_keep | exact (cell_set_ne (.inl ncb)).trans (by assumption))
          clear hKQ KQ
          refine wpAnyH_ready (rs := [17]) (by kernel_rfl) (by simp) ?_
          refine AllReadyH.cons rfl (fun KQ hKQ => ?_) ?_
          · (refine step_appN rfl (.tmp 12) (.tmp 18) 164 rfl 1 i0 .nilFunc 1 8 (by decide) Tryz.underlying164 hi0 hz0 hz1 hz2 rfl m.uv k.undo.length m.UV rfl (HR1.out.alloc _) ⟨w1.heap.size, 0, none⟩ [leapV bl ba] rfl rfl (cell_one_new _ _ _) (by simp [Value.oneCell']) hl1 hl2 ?_; intro g cp w3 ho hch hg; have hcb := NC.out w1 w3 _ hu1 hch; have hfb := NF.out w1 w3 _ hf1 lbb1 hch; have hd3 := N5.out w1 w3 _ hd1 hch; have HR := hid (((H1.out.alloc _).pushUndo (k := k) hk ((H1.out.alloc _).isLeap (bl := bl) (ba := ba) (n := s.L.length) (by simp) (by simp)) (by simp [Ck.add]) (by simp only [Ck.add]; omega) ho hch hg).less (K' := K) (fun p hp => List.mem_cons_of_mem _ (List.mem_cons_of_mem _ hp))); clear ho hch hg hu1 hf1 hd1)
            refine hKQ.out _ _ ?_ (fun hHeld => ?_)
            · (try dsimp only); (first | go_keep | exact (cell_set_ne (.inl ncb)).trans (by assumption))
            clear hKQ KQ
            refine wpAnyH_take (i := 18) (v := ?_) rfl (by kernel_rfl) (by kernel_rfl) (by kernel_rfl) (fun _ _ _ h => h) (Or.inl ⟨by rfl, ?_⟩) (by assumption) ?_
            rotate_left
            · (intro w hSw; (try dsimp only at hSw); go_simp; try (with_reducible rfl))
            try simp only [Act.put, List.setIfInBounds_toArray]
            refine wpAnyH_take (i := 19) (v := ?_) rfl (by kernel_rfl) (by kernel_rfl) (by kernel_rfl) (fun _ _ _ h => h) (Or.inl ⟨by rfl, ?_⟩) (by assumption) ?_
            rotate_left
            · (intro w hSw; (try dsimp only at hSw); go_simp; try (with_reducible rfl))
            try simp only [Act.put]
            refine wpAnyH_ready (rs := [20]) (by kernel_rfl) (by simp) ?_
            refine AllReadyH.cons rfl (fun KQ hKQ => ?_) ?_
            · go_simp
              refine hKQ.out _ _ ?_ (fun hHeld => ?_)
              · (try dsimp only); (first | go_keep | exact (cell_set_ne (.inl ncb)).trans (by assumption))
              clear hKQ KQ
              refine wpAnyH_done (by kernel_rfl) ?_ _
              go_end0
              have := HR.out
              simp only [hmb] at this
              exact ⟨rfl, this⟩
            exact AllReadyH.nil
          exact AllReadyH.nil
        exact AllReadyH.nil
      exact AllReadyH.nil
    exact AllReadyH.nil
  refine AllReadyH.cons rfl (fun KQ hKQ => ?_) ?_
  · go_simp
    refine hKQ.out _ _ ?_ (fun hHeld => ?_)
    · (try dsimp only); (first | go_keep | exact (cell_set_ne (.inl ncb)).trans (by assumption))
    clear hKQ KQ
    refine wpAnyH_ready (rs := [10, 15]) (by kernel_rfl) (by simp) ?_
    refine AllReadyH.cons rfl (fun KQ hKQ => ?_) ?_
    · go_simp
      refine hKQ.out _ _ ?_ (fun hHeld => ?_)
      · (try dsimp only); (first | go_keep | exact (cell_set_ne (.inl ncb)).trans (by assumption))
      clear hKQ KQ
      refine wpAnyH_ready (rs := [15]) (by kernel_rfl) (by simp) ?_
      refine AllReadyH.cons rfl (fun KQ hKQ => ?_) ?_
      · (go_simp; go_at_call 152; refine (leap_newd H.out.drew [yJz, yR4] (by simp) ⟨by decide, by decide, trivial⟩ (by omega)).mono ?_; rintro e w1 ⟨bl, ba, rfl, lab1, lv1, h1⟩; have h1b := h1.bk k hk; have hd1 : w1.cell? ⟨c, 5, none⟩ = some (ptr b) := HD5.out _ _ h1.c5; have hu1 : w1.cell? ⟨b, 18, none⟩ = some m.uv := hmb ▸ h1b.un; have hf1 : w1.frozen? ⟨b, 18, none⟩ = false := hmb ▸ h1b.free 18; have lb1 := h1.lt; have lbb1 : b < w1.heap.size := World.block_lt_of_cell? _ _ hu1; have HR1 := hid h1b.urow; have H1 := hid h1; clear h1 h1b hc5 hu)
        refine hKQ.out _ _ ?_ (fun hHeld => ?_)
        · (try dsimp only); (first | go_keep | exact (cell_set_ne (.inl ncb)).trans (by assumption))
        clear hKQ KQ
        refine wpAnyH_ready (rs := [16]) (by kernel_rfl) (by simp) ?_
        refine AllReadyH.cons rfl (fun KQ hKQ => ?_) ?_
        · go_simp
          refine hKQ.out _ _ ?_ (fun hHeld => ?_)
          · (try dsimp only); (first | go_keep | exact (cell_set_ne (.inl ncb)).trans (by assumption))
          clear hKQ KQ
          refine wpAnyH_ready (rs := [17]) (by kernel_rfl) (by simp) ?_
          refine AllReadyH.cons rfl (fun KQ hKQ => ?_) ?_
          · (refine step_appN rfl (.tmp 12) (.tmp 18) 164 rfl 1 i0 .nilFunc 1 8 (by decide) Tryz.underlying164 hi0 hz0 hz1 hz2 rfl m.uv k.undo.length m.UV rfl (HR1.out.alloc _) ⟨w1.heap.size, 0, none⟩ [leapV bl ba] rfl rfl (cell_one_new _ _ _) (by simp [Value.oneCell']) hl1 hl2 ?_; intro g cp w3 ho hch hg; have hcb := NC.out w1 w3 _ hu1 hch; have hfb := NF.out w1 w3 _ hf1 lbb1 hch; have hd3 := N5.out w1 w3 _ hd1 hch; have HR := hid (((H1.out.alloc _).pushUndo (k := k) hk ((H1.out.alloc _).isLeap (bl := bl) (ba := ba) (n := s.L.length) (by simp) (by simp)) (by simp [Ck.add]) (by simp only [Ck.add]; omega) ho hch hg).less (K' := K) (fun p hp => List.mem_cons_of_mem _ (List.mem_cons_of_mem _ hp))); clear ho hch hg hu1 hf1 hd1)
            refine hKQ.out _ _ ?_ (fun hHeld => ?_)
            · (try dsimp only); (first | go_keep | exact (cell_set_ne (.inl ncb)).trans (by assumption))
            clear hKQ KQ
            refine wpAnyH_take (i := 18) (v := ?_) rfl (by kernel_rfl) (by kernel_rfl) (by kernel_rfl) (fun _ _ _ h => h) (Or.inl ⟨by rfl, ?_⟩) (by assumption) ?_
            rotate_left
            · (intro w hSw; (try dsimp only at hSw); go_simp; try (with_reducible rfl))
            try simp only [Act.put, List.setIfInBounds_toArray]
            refine wpAnyH_take (i := 19) (v := ?_) rfl (by kernel_rfl) (by kernel_rfl) (by kernel_rfl) (fun _ _ _ h => h) (Or.inl ⟨by rfl, ?_⟩) (by assumption) ?_
            rotate_left
            · (intro w hSw; (try dsimp only at hSw); go_simp; try (with_reducible rfl))
            try simp only [Act.put]
            refine wpAnyH_ready (rs := [20]) (by kernel_rfl) (by simp) ?_
            refine AllReadyH.cons rfl (fun KQ hKQ => ?_) ?_
            · go_simp
              refine hKQ.out _ _ ?_ (fun hHeld => ?_)
              · (try dsimp only); (first | go_keep | exact (cell_set_ne (.inl ncb)).trans (by assumption))
              clear hKQ KQ
              refine wpAnyH_done (by kernel_rfl) ?_ _
              go_end0
              have := HR.out
              simp only [hmb] at this
              exact ⟨rfl, this⟩
            exact AllReadyH.nil
          exact AllReadyH.nil
        exact AllReadyH.nil
      exact AllReadyH.nil
    refine AllReadyH.cons rfl (fun KQ hKQ => ?_) ?_
    · (go_simp; go_at_call 152; refine (leap_newd H.out.drew [yJz, yR4] (by simp) ⟨by decide, by decide, trivial⟩ (by omega)).mono ?_; rintro e w1 ⟨bl, ba, rfl, lab1, lv1, h1⟩; have h1b := h1.bk k hk; have hd1 : w1.cell? ⟨c, 5, none⟩ = some (ptr b) := HD5.out _ _ h1.c5; have hu1 : w1.cell? ⟨b, 18, none⟩ = some m.uv := hmb ▸ h1b.un; have hf1 : w1.frozen? ⟨b, 18, none⟩ = false := hmb ▸ h1b.free 18; have lb1 := h1.lt; have lbb1 : b < w1.heap.size := World.block_lt_of_cell? _ _ hu1; have HR1 := hid h1b.urow; have H1 := hid h1; clear h1 h1b hc5 hu)
      refine hKQ.out _ _ ?_ (fun hHeld => ?_)
      · (try dsimp only); (first | go_keep | exact (cell_set_ne (.inl ncb)).trans (by assumption))
      clear hKQ KQ
      refine wpAnyH_ready (rs := [10, 16]) (by kernel_rfl) (by simp) ?_
      refine AllReadyH.cons rfl (fun KQ hKQ => ?_) ?_
      · go_simp
        refine hKQ.out _ _ ?_ (fun hHeld => ?_)
        · (try dsimp only); (first | go_keep | exact (cell_set_ne (.inl ncb)).trans (by assumption))
        clear hKQ KQ
        refine wpAnyH_ready (rs := [16]) (by kernel_rfl) (by simp) ?_
        refine AllReadyH.cons rfl (fun KQ hKQ => ?_) ?_
        · go_simp
          refine hKQ.out _ _ ?_ (fun hHeld => ?_)
          · (try dsimp only); (first | go_keep | exact (cell_set_ne (.inl ncb)).trans (by assumption))
          clear hKQ KQ
          refine wpAnyH_ready (rs := [17]) (by kernel_rfl) (by simp) ?_
          refine AllReadyH.cons rfl (fun KQ hKQ => ?_) ?_
          · (refine step_appN rfl (.tmp 12) (.tmp 18) 164 rfl 1 i0 .nilFunc 1 8 (by decide) Tryz.underlying164 hi0 hz0 hz1 hz2 rfl m.uv k.undo.length m.UV rfl (HR1.out.alloc _) ⟨w1.heap.size, 0, none⟩ [leapV bl ba] rfl rfl (cell_one_new _ _ _) (by simp [Value.oneCell']) hl1 hl2 ?_; intro g cp w3 ho hch hg; have hcb := NC.out w1 w3 _ hu1 hch; have hfb := NF.out w1 w3 _ hf1 lbb1 hch; have hd3 := N5.out w1 w3 _ hd1 hch; have HR := hid (((H1.out.alloc _).pushUndo (k := k) hk ((H1.out.alloc _).isLeap (bl := bl) (ba := ba) (n := s.L.length) (by simp) (by simp)) (by simp [Ck.add]) (by simp only [Ck.add]; omega) ho hch hg).less (K' := K) (fun p hp => List.mem_cons_of_mem _ (List.mem_cons_of_mem _ hp))); clear ho hch hg hu1 hf1 hd1)
            refine hKQ.out _ _ ?_ (fun hHeld => ?_)
            · (try dsimp only); (first | go_keep | exact (cell_set_ne (.inl ncb)).trans (by assumption))
            clear hKQ KQ
            refine wpAnyH_take (i := 18) (v := ?_) rfl (by kernel_rfl) (by kernel_rfl) (by kernel_rfl) (fun _ _ _ h => h) (Or.inl ⟨by rfl, ?_⟩) (by assumption) ?_
            rotate_left
            · (intro w hSw; (try dsimp only at hSw); go_simp; try (with_reducible rfl))
            try simp only [Act.put, List.setIfInBounds_toArray]
            refine wpAnyH_take (i := 19) (v := ?_) rfl (by kernel_rfl) (by kernel_rfl) (by kernel_rfl) (fun _ _ _ h => h) (Or.inl ⟨by rfl, ?_⟩) (by assumption) ?_
            rotate_left
            · (intro w hSw; (try dsimp only at hSw); go_simp; try (with_reducible rfl))
            try simp only [Act.put]
            refine wpAnyH_ready (rs := [20]) (by kernel_rfl) (by simp) ?_
            refine AllReadyH.cons rfl (fun KQ hKQ => ?_) ?_
            · go_simp
              refine hKQ.out _ _ ?_ (fun hHeld => ?_)
              · (try dsimp only); (first | go_keep | exact (cell_set_ne (.inl ncb)).trans (by assumption))
              clear hKQ KQ
              refine wpAnyH_done (by kernel_rfl) ?_ _
              go_end0
              have := HR.out
              simp only [hmb] at this
              exact ⟨rfl, this⟩
            exact AllReadyH.nil
          exact AllReadyH.nil
        exact AllReadyH.nil
      refine AllReadyH.cons rfl (fun KQ hKQ => ?_) ?_
      · go_simp
        refine hKQ.out _ _ ?_ (fun hHeld => ?_)
        · (try dsimp only); (first | go_keep | exact (cell_set_ne (.inl ncb)).trans (by assumption))
        clear hKQ KQ
        refine wpAnyH_ready (rs := [10]) (by kernel_rfl) (by simp) ?_
        refine AllReadyH.cons rfl (fun KQ hKQ => ?_) ?_
        · go_simp
          refine hKQ.out _ _ ?_ (fun hHeld => ?_)
          · (try dsimp only); (first | go_keep | exact (cell_set_ne (.inl ncb)).trans (by assumption))
          clear hKQ KQ
          refine wpAnyH_ready (rs := [17]) (by kernel_rfl) (by simp) ?_
          refine AllReadyH.cons rfl (fun KQ hKQ => ?_) ?_
          · (refine step_appN rfl (.tmp 12) (.tmp 18) 164 rfl 1 i0 .nilFunc 1 8 (by decide) Tryz.underlying164 hi0 hz0 hz1 hz2 rfl m.uv k.undo.length m.UV rfl (HR1.out.alloc _) ⟨w1.heap.size, 0, none⟩ [leapV bl ba] rfl rfl (cell_one_new _ _ _) (by simp [Value.oneCell']) hl1 hl2 ?_; intro g cp w3 ho hch hg; have hcb := NC.out w1 w3 _ hu1 hch; have hfb := NF.out w1 w3 _ hf1 lbb1 hch; have hd3 := N5.out w1 w3 _ hd1 hch; have HR := hid (((H1.out.alloc _).pushUndo (k := k) hk ((H1.out.alloc _).isLeap (bl := bl) (ba := ba) (n := s.L.length) (by simp) (by simp)) (by simp [Ck.add]) (by simp only [Ck.add]; omega) ho hch hg).less (K' := K) (fun p hp => List.mem_cons_of_mem _ (List.mem_cons_of_mem _ hp))); clear ho hch hg hu1 hf1 hd1)
            refine hKQ.out _ _ ?_ (fun hHeld => ?_)
            · (try dsimp only); (first | go_keep | exact (cell_set_ne (.inl ncb)).trans (by assumption))
            clear hKQ KQ
            refine wpAnyH_take (i := 18) (v := ?_) rfl (by kernel_rfl) (by kernel_rfl) (by kernel_rfl) (fun _ _ _ h => h) (Or.inl ⟨by rfl, ?_⟩) (by assumption) ?_
            rotate_left
            · (intro w hSw; (try dsimp only at hSw); go_simp; try (with_reducible rfl))
            try simp only [Act.put, List.setIfInBounds_toArray]
            refine wpAnyH_take (i := 19) (v := ?_) rfl (by kernel_rfl) (by kernel_rfl) (by kernel_rfl) (fun _ _ _ h => h) (Or.inl ⟨by rfl, ?_⟩) (by assumption) ?_
            rotate_left
            · (intro w hSw; (try dsimp only at hSw); go_simp; try (with_reducible rfl))
            try simp only [Act.put]
            refine wpAnyH_ready (rs := [20]) (by kernel_rfl) (by simp) ?_
            refine AllReadyH.cons rfl (fun KQ hKQ => ?_) ?_
            · go_simp
              refine hKQ.out _ _ ?_ (fun hHeld => ?_)
              · (try dsimp only); (first | go_keep | exact (cell_set_ne (.inl ncb)).trans (by assumption))
              clear hKQ KQ
              refine wpAnyH_done (by kernel_rfl) ?_ _
              go_end0
              have := HR.out
              simp only [hmb] at this
              exact ⟨rfl, this⟩
            exact AllReadyH.nil
          exact AllReadyH.nil
        exact AllReadyH.nil
      exact AllReadyH.nil
    exact AllReadyH.nil
  exact AllReadyH.nil
end
end Go.Proofs.YtfhkfnoajbbfdabGreatDoor
