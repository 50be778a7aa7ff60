import Derived.Test.YtfhkfnoajbbfdabGreatDoorPart32
import Derived.Test.YtfhkfnoajbbfdabGreatDoorPart28
import Derived.Test.YtfhkfnoajbbfdabGreatDoorPart31
import Derived.Test.YtfhkfnoajbbfdabGreatDoorPart17
/- The coder: newBlock. -/
namespace Go.Proofs.YtfhkfnoajbbfdabGreatDoor
open Go.RowKit Go.Shelf

attribute [local go_sem] Oper.semAt_some ta_qSet_qSet ta_qSet_qOperate ta_qSet_qGet ta_qSet_qPut ta_qSet_qOut ta_qOperate_qSet ta_qOperate_qOperate ta_qOperate_qGet ta_qOperate_qPut ta_qOperate_qOut ta_qGet_qSet ta_qGet_qOperate ta_qGet_qGet ta_qGet_qPut ta_qGet_qOut ta_qPut_qSet ta_qPut_qOperate ta_qPut_qGet ta_qPut_qPut ta_qPut_qOut ta_qOut_qSet ta_qOut_qOperate ta_qOut_qGet ta_qOut_qPut ta_qOut_qOut ta_pAtomic_qSet ta_pAtomic_qOperate ta_pAtomic_qGet ta_pAtomic_qPut ta_pAtomic_qOut ta_pIf_qSet ta_pIf_qOperate ta_pIf_qGet ta_pIf_qPut ta_pIf_qOut ta_pLoop_qSet ta_pLoop_qOperate ta_pLoop_qGet ta_pLoop_qPut ta_pLoop_qOut

section
variable {W w : World} {x : Cx} {K : List (Nat × Nat × Value)} {c : Nat} {s : Ck} {hs : List Hd} {ms : List HM}

abbrev nbO : Obj := .cells #[.bool false, .bool false, .bool false, .bool false, .bool false, .bool false, .bool false, .bool false, .bool false, .bool false, .bool false, .bool false, .bool false, .bool false, .bool false, .bool false, .bool false, .int .i64 0, .slice none 0 0] 375

theorem nb_at : ∀ (i : Nat), i < 17 → (#[.bool false, .bool false, .bool false, .bool false, .bool false, .bool false, .bool false, .bool false, .bool false, .bool false, .bool false, .bool false, .bool false, .bool false, .bool false, .bool false, .bool false, .int .i64 0, .slice none 0 0] : Array Value)[i]? = some (.bool false)
  | 0, _ => rfl
  | 1, _ => rfl
  | 2, _ => rfl
  | 3, _ => rfl
  | 4, _ => rfl
  | 5, _ => rfl
  | 6, _ => rfl
  | 7, _ => rfl
  | 8, _ => rfl
  | 9, _ => rfl
  | 10, _ => rfl
  | 11, _ => rfl
  | 12, _ => rfl
  | 13, _ => rfl
  | 14, _ => rfl
  | 15, _ => rfl
  | 16, _ => rfl
  | n + 17, h => by omega

theorem heap_new (w : World) (o : Obj) : (w.alloc o).heap[w.heap.size]? = some o := by show (w.heap.push _)[w.heap.size]? = _; exact Array.getElem?_push_size

theorem nb_cell (X : World) : ∀ i, i < 17 → (X.alloc nbO).cell? ⟨X.heap.size, i, none⟩ = some (.bool false) := fun i hi => (World.cell?_alloc_new _ _ _ i).trans (nb_at i hi)

theorem nbO_new (X : World) : NewBk (X.alloc nbO) X.heap.size bk0 where
  sh := by unfold World.shape?; rw [heap_new]; rfl
  cs := {
    g := fun i v hv => by
      have hv' : (List.replicate 6 false)[i]? = some v := hv
      rw [List.getElem?_replicate] at hv'
      split at hv'
      · simp at hv'
        subst hv'
        exact nb_cell X i (by omega)
      · simp at hv'
    p := fun i v hv => by
      have hv' : (List.replicate 6 false)[i]? = some v := hv
      rw [List.getElem?_replicate] at hv'
      split at hv'
      · simp at hv'
        subst hv'
        exact nb_cell X (6 + i) (by omega)
      · simp at hv'
    ch := fun i v hv => by
      have hv' : (List.replicate 4 false)[i]? = some v := hv
      rw [List.getElem?_replicate] at hv'
      split at hv'
      · simp at hv'
        subst hv'
        exact nb_cell X (12 + i) (by omega)
      · simp at hv'
    gv := World.cell?_alloc_new _ _ _ 16
    ag := World.cell?_alloc_new _ _ _ 17
    n1 := rfl, n2 := rfl, n3 := rfl }
  un := World.cell?_alloc_new _ _ _ 18
  free := fun j => by unfold World.frozen?; rw [heap_new]; simp
  u := rfl

/-- What holds between two statements; k: what is known of the block. -/
abbrev NbI (w : World) (c : Nat) (k : Bk) (Z : World) : Prop := (NewBk Z (w.heap.size + 1) k ∧ (Boxed Z w.heap.size 153 (ptr c) ∧ Boxed Z (w.heap.size + 1 + 1) 163 (.pointer (some ⟨w.heap.size + 1, 0, none⟩)))) ∧ Below w.heap.size w Z

theorem NbI.step {w W' Y Z : World} {c B : Nat} {k k' : Bk} (h : NbI w c k W') (bY : Below W'.heap.size W' Y) (hc : Chg (fun q _ => q = w.heap.size + 1) Y Z) (hn : NewBk Z (w.heap.size + 1) k') (hB : w.heap.size + 4 ≤ B) : KeepsFrom B W' Z ∧ Below w.heap.size W' Z ∧ NbI w c k' Z := by
  have hall : Chg (fun q _ => q = w.heap.size + 1) W' Z := (Chg.of_below bY).trans hc
  have hbel : Below w.heap.size W' Z := hall.below h.2.size (fun k i e => by omega)
  exact ⟨keeps_chg hall (fun k i e => by omega), hbel, ⟨hn, (hall.block _ h.1.2.1.lt (fun _ e => by omega)).trans h.1.2.1, (hall.block _ h.1.2.2.lt (fun _ e => by omega)).trans h.1.2.2⟩, h.2.trans hbel⟩

theorem NbI.chg {w W' Y : World} {c B : Nat} {k : Bk} (h : NbI w c k W') (bY : Below W'.heap.size W' Y) {i : Nat} (hi : i < 4) (hB : w.heap.size + 4 ≤ B) : KeepsFrom B W' (Y.drew.setCell ⟨w.heap.size + 1, 12 + i, none⟩ (.bool true)) ∧ Below w.heap.size W' (Y.drew.setCell ⟨w.heap.size + 1, 12 + i, none⟩ (.bool true)) ∧ NbI w c { k with chgs := k.chgs.set i true } (Y.drew.setCell ⟨w.heap.size + 1, 12 + i, none⟩ (.bool true)) := by
  have bd : Below W'.heap.size W' Y.drew := bY.trans ⟨rfl, rfl, rfl, Nat.le_refl _, fun _ _ => rfl⟩
  exact h.step bd ((Chg.refl (fun q _ => q = w.heap.size + 1) Y.drew).setCell (b := w.heap.size + 1) (o := 12 + i) (fun _ => rfl) _) ((h.1.1.below bd).chg hi) hB

theorem NbI.give {w W' Y : World} {c B : Nat} {k : Bk} (h : NbI w c k W') (bY : Below W'.heap.size W' Y) (hB : w.heap.size + 4 ≤ B) : KeepsFrom B W' (Y.setCell ⟨w.heap.size + 1, 16, none⟩ (.bool true)) ∧ Below w.heap.size W' (Y.setCell ⟨w.heap.size + 1, 16, none⟩ (.bool true)) ∧ NbI w c { k with gives := true } (Y.setCell ⟨w.heap.size + 1, 16, none⟩ (.bool true)) :=
  h.step bY ((Chg.refl (fun q _ => q = w.heap.size + 1) Y).setCell (b := w.heap.size + 1) (o := 16) (fun _ => rfl) _) (h.1.1.below bY).give hB

set_option maxRecDepth 100000 in
set_option maxHeartbeats 4000000 in
theorem new_in (n : Nat) (hn : 6 ≤ n) (hA : Ar hs ms W) (h : Cw W x K w c s) {j : Nat} {es : List En} (hl : j < ms.length) (hj : hs[j]? = some ⟨.st .atomic, es⟩) (h14 : es.length ≤ 14) {f0 : Nat} (hf0 : f0 ≤ 2) (hes : ∀ e ∈ es, enW hs x f0 true e) :
    CallsIn Fence.wide n Tryz.prog 189 #[ptr c, ptr ms[j].b] w fun e w' => ∃ b, e = .returned (ptr b) ∧ w.heap.size ≤ b ∧ NewBk w' b ((walkL hs 3 es).foldl x.seen bk0) ∧ Below w.heap.size w w' := by
  have hAw : Ar hs ms w := hA.below h.low
  have hd := hAw.hd j hl
  have hhd : ms[j].h = ⟨.st .atomic, es⟩ := by
    obtain ⟨_, e⟩ := hAw.at hj
    exact e
  have hrow := hd.row
  rw [hhd] at hrow
  have hrc := hd.rc
  obtain ⟨ya, yc, hyr⟩ : ∃ a c, ms[j].rv = .slice a es.length c := by
    rcases hrow.2 with ⟨q1, q2⟩ | ⟨g', cap', cur, q1, _⟩
    · exact ⟨none, 0, by rw [q1]; simp at q2; simp [q2]⟩
    · exact ⟨_, _, q1⟩
  rw [hyr] at hrow hrc
  have hG3 : ∀ e ∈ es, inBk hs x e := fun e he => ⟨enG_3 (by omega) (enW_G hs x f0 true e (hes e he)), f0, hes e he⟩
  have hw : ∀ f, Fence.wide.fn f := fun _ => trivial
  have h1n : 1 ≤ n := by omega
  have HC := hid h
  have HROW := hid hrow
  generalize ms[j].b = mb at *
  have lmb : mb < w.heap.size := World.block_lt_of_cell? _ _ hrc
  clear h hd hrow
  have hc3 : (((w.alloc (.cells #[ptr c] 153)).alloc (.cells #[.bool false, .bool false, .bool false, .bool false, .bool false, .bool false, .bool false, .bool false, .bool false, .bool false, .bool false, .bool false, .bool false, .bool false, .bool false, .bool false, .bool false, .int .i64 0, .slice none 0 0] 375)).alloc (.cells #[.pointer (some ⟨w.heap.size + 1, 0, none⟩)] 163)).cell? ⟨mb, 0, none⟩ = some (.slice ya es.length yc) := by
    rw [World.cell?_alloc_past _ _ _ (by simp; omega), World.cell?_alloc_past _ _ _ (by simp; omega), World.cell?_alloc_past _ _ _ lmb]
    exact hrc
  refine callsIn_of_wp_marks Tryz.func189 rfl trivial ?_ rfl
  simp only [Tryz.ntmps189, List.size_toArray, List.length_cons, List.length_nil, Nat.reduceAdd, Nat.reduceSub, Array.replicate_succ, Array.replicate_zero, List.push_toArray, List.append_toArray, List.nil_append, List.cons_append]
  gi_wp2_with fail
  refine ((callsIn_wide (n := n - 1)).2 (all_any ya _ yc _)).mono ?_
  rintro e w' ⟨rfl, rfl⟩
  gi_wp2
  obtain ⟨W1, hW1⟩ : ∃ W1, ((w.alloc (.cells #[ptr c] 153)).alloc (.cells #[.bool false, .bool false, .bool false, .bool false, .bool false, .bool false, .bool false, .bool false, .bool false, .bool false, .bool false, .bool false, .bool false, .bool false, .bool false, .bool false, .bool false, .int .i64 0, .slice none 0 0] 375)).alloc (.cells #[.pointer (some ⟨w.heap.size + 1, 0, none⟩)] 163) = W1 := ⟨_, rfl⟩
  have hs1 : W1.heap.size = w.heap.size + 1 + 1 + 1 := by rw [← hW1]; simp
  have hb1 : Below w.heap.size w W1 := by rw [← hW1]; exact (((Below.refl _ w).alloc (Nat.le_refl _) _).alloc (by simp) _).alloc (by simp; omega) _
  have hnb1 : NewBk W1 (w.heap.size + 1) bk0 := by
    rw [← hW1]
    exact (show NewBk ((w.alloc (.cells #[ptr c] 153)).alloc nbO) (w.heap.size + 1) bk0 by have := nbO_new (w.alloc (.cells #[ptr c] 153)); simpa using this).below ((Below.refl _ _).alloc (Nat.le_refl _) _)
  have hbc1 : Boxed W1 w.heap.size 153 (ptr c) := by
    rw [← hW1]
    exact ((Boxed.new w _ _).alloc _).alloc _
  have hbb1 : Boxed W1 (w.heap.size + 1 + 1) 163 (.pointer (some ⟨w.heap.size + 1, 0, none⟩)) := by
    rw [← hW1]
    have e3 : ((w.alloc (.cells #[ptr c] 153)).alloc nbO).heap.size = w.heap.size + 1 + 1 := by simp
    rw [← e3]
    exact Boxed.new _ _ _
  rw [hW1]
  clear hW1 hc3
  obtain ⟨W2, hW2⟩ : ∃ W2, W1.alloc (.cells #[.slice ya es.length yc] 154) = W2 := ⟨_, rfl⟩
  have hB2 : Below W1.heap.size W1 W2 := by rw [← hW2]; exact (Below.refl _ W1).alloc (Nat.le_refl _) _
  have hBt : W2.cell? ⟨w.heap.size + 1 + 1 + 1, 0, none⟩ = some (.slice ya es.length yc) := by rw [← hW2, ← hs1]; exact World.cell?_alloc_new _ _ _ 0
  have hsz2 : w.heap.size + 4 ≤ W2.heap.size := by rw [← hW2]; simp; omega
  rw [hW2]
  clear hW2
  have low2 : Below w.heap.size w W2 := hb1.trans (hB2.mono hb1.size)
  have hnb2 := hnb1.below hB2
  have hbc2 : Boxed W2 w.heap.size 153 (ptr c) := (hB2.block w.heap.size (by omega)).trans hbc1
  have hbb2 : Boxed W2 (w.heap.size + 1 + 1) 163 (.pointer (some ⟨w.heap.size + 1, 0, none⟩)) := (hB2.block _ (by omega)).trans hbb1
  refine wpIn_rangeFunc_ownH rfl h1n (gf := 142) (lb := #[.pointer (some ⟨w.heap.size + 1 + 1 + 1, 0, none⟩)]) rfl trivial (enters_of Tryz.func142 (by kernel_rfl) rfl)
    (all_stopsP (P := inBk hs x) (fun e h => h.1) (fun j y h hj => inBk_sub h hj) (n - 1) (w.heap.size + 1 + 1 + 1) w W2 hAw HROW.out h14 hG3 low2 hBt) belowK_t (belowK_b (w := W2) (by omega)) (Below.refl _ _) (fun _ => rfl)
    (fun pre W' => (NewBk W' (w.heap.size + 1) ((pre.map (·.1)).foldl x.seen bk0) ∧ (Boxed W' w.heap.size 153 (ptr c) ∧ Boxed W' (w.heap.size + 1 + 1) 163 (.pointer (some ⟨w.heap.size + 1, 0, none⟩)))) ∧ Below w.heap.size w W')
    (fun c' pre W' => False)
    (OwnFrom.and (OwnFrom.and (fun pre X Y row hs hg hr => ?own) (OwnFrom.and (Own.from (boxed_own _ _ _) _) (Own.from (boxed_own _ _ _) _))) (ownFrom_below (Nat.le_refl _) (by omega)))
    (fun c' _ _ _ _ hs _ _ => hs)
    ⟨⟨hnb2, hbc2, hbb2⟩, low2⟩
    (fun y a' _ => a' = { tmps := #[ptr c, ptr mb, .pointer (some ⟨w.heap.size, 0, none⟩), undef, .pointer none, .pointer (some ⟨w.heap.size + 1 + 1, 0, none⟩), enV (idsOf ms) y.1, undef, undef, undef, undef, undef, .agg #[.bool false, .bool false, .bool false, .bool false, .bool false, .bool false, .bool false, .bool false, .bool false, .bool false, .bool false, .bool false, .bool false, .bool false, .bool false, .bool false, .bool false, .int .i64 0, .slice none 0 0], .pointer (some ⟨w.heap.size + 1, 0, none⟩), ptr mb, .pointer (some ⟨mb, 0, none⟩), .pointer (some ⟨mb, 0, none⟩), .pointer (some ⟨mb, 0, none⟩), .slice ya es.length yc, .func (.func 142) #[] #[.pointer (some ⟨w.heap.size + 1 + 1 + 1, 0, none⟩)], enV (idsOf ms) y.1, undef, undef, undef, undef, undef, undef, undef, undef, undef, undef, undef, undef, undef, undef, undef, undef, undef, undef, undef, undef, undef, undef, undef, undef, undef, undef, undef, undef, undef, undef, undef, undef, undef, undef, undef, undef, undef, undef, undef, undef, undef, undef, undef, undef, undef, undef, undef, undef, undef, undef, undef, undef, undef, undef, undef, undef, undef, undef, undef, undef, undef, undef, undef, undef, undef, undef, undef, undef, undef, undef, undef, undef, undef, undef, undef, undef, undef], defers := [] })
    (fun y a' _ X Y row hs _ _ => hs)
    ?assign ?body ?done ?stop
  case own =>
    have hlt := hs.lt
    exact hs.heap (hg.block _ hlt (fun e => by have := (hr _ e.symm).1; omega))
  case assign =>
    rintro l pre y W' K' hI hK
    gi_wp2
    exact hK _ _ (KeepsFrom.refl _ _) (Below.refl _ _) hI rfl
  case stop =>
    rintro D' c' pre W' hD hSp hF
    exact hF.elim
  case done =>
    rintro D' ys W' hD hS ⟨⟨hnb, hbc, hbb⟩, hlow⟩ hK
    have cb := hbb.cell
    gi_wp2
    refine leaves_marks w [D'] W' (by simp) (fun D hD => by
      simp at hD
      subst hD
      exact ⟨by omega, hK⟩) (fun W'' hW'' hk => ?_)
    rw [hS] at hnb
    refine ⟨.pointer (some ⟨w.heap.size + 1, 0, none⟩), by simp [results, Tryz.f189, go_sem], w.heap.size + 1, rfl, by omega, hnb.heap (hk _ (by simp; omega)), hlow.trans hW''⟩
  case body =>
    rintro l pre ⟨e, he⟩ a' W' hl' _ ⟨⟨hnb, hbc, hbb⟩, hlow⟩ rfl hlt
    have he0 := he
    have hfold : ((pre ++ [(⟨e, he⟩ : EnP (inBk hs x))]).map (·.1)).foldl x.seen bk0 = x.seen ((pre.map (·.1)).foldl x.seen bk0) e := by simp
    obtain ⟨hG, g, hW⟩ := he0
    have hC : Cw W x K W' c s := HC.out.below hlow
    generalize ((pre.map (·.1)).foldl x.seen bk0) = bk at *
    cases e with
    | inr j2 =>
      have hsn : x.seen bk (.inr j2) = bk := rfl
      rw [hsn] at hfold
      rcases hG with ⟨s2, h, _⟩ | ⟨j', y', s2, h, hj', hky, hh, _, _, _⟩
      · cases h
      · cases h
        obtain ⟨hl5, e1, e2⟩ := enV_sub (hAw.below hlow) hj'
        rw [e2, hky]
        generalize ms[j2].b = jb at *
        rcases s2 with ⟨to, a⟩ | ⟨to, k, a, c⟩ | ⟨to, f, a⟩ | ⟨f, a, c⟩ | a | ⟨⟩ | a | nn
        · simp [stHolds] at hh
        · simp [stHolds] at hh
        · simp [stHolds] at hh
        · simp [stHolds] at hh
        · simp [stHolds] at hh
        · simp only [hkT]
          gi_wp2
          exact ⟨KeepsFrom.refl _ _, Below.refl _ _, ⟨hfold ▸ hnb, hbc, hbb⟩, hlow⟩
        · simp only [hkT]
          gi_wp2
          exact ⟨KeepsFrom.refl _ _, Below.refl _ _, ⟨hfold ▸ hnb, hbc, hbb⟩, hlow⟩
        · simp only [hkT]
          gi_wp2
          exact ⟨KeepsFrom.refl _ _, Below.refl _ _, ⟨hfold ▸ hnb, hbc, hbb⟩, hlow⟩
    | inl st =>
      have hlf : x.leafOk true st := by cases g <;> exact hW
      have hv : enV (idsOf ms) (.inl st) = stV st := rfl
      rw [hv]
      clear hv hW hG
      have cb := hbb.cell
      have cc := hbc.cell
      rcases st with ⟨to, a⟩ | ⟨to, o, a, d⟩ | ⟨to, f, a⟩ | ⟨f, a, d⟩ | a | ⟨⟩ | a | nn
      · simp only [stV]
        gi_wp2
        obtain ⟨Y, hY⟩ : ∃ Y, W'.alloc (.cells #[.string to, .string a.name, .int .i64 a.num] 328) = Y := ⟨_, rfl⟩
        have bY : Below W'.heap.size W' Y := by rw [← hY]; exact (Below.refl _ W').alloc (Nat.le_refl _) _
        have y0 : Y.cell? ⟨W'.heap.size, 0, none⟩ = some (.string to) := by rw [← hY]; exact World.cell?_alloc_new _ _ _ 0
        rw [hY]
        clear hY
        have hto := hlf.1
        have hCY := hC.below bY
        have y1 := (bY.cell (p := ⟨w.heap.size + 1 + 1, 0, none⟩) hbb.lt).trans cb
        have y2 := (bY.cell (p := ⟨w.heap.size, 0, none⟩) hbc.lt).trans cc
        have y3 := hCY.c2
        have y4 := hCY.drew.lookL hto
        have hi := locI_lt x hC.base.ln to
        have nbY := hnb.below bY
        have n4 := nbY.cs.n3
        obtain ⟨v5, y5⟩ : ∃ v, Y.cell? ⟨w.heap.size + 1, 12 + x.locI to, none⟩ = some (.bool v) := ⟨_, nbY.cs.ch (x.locI to) _ (List.getElem?_eq_getElem (by omega))⟩
        have y6 := nbY.free (12 + x.locI to)
        have hNb := NbI.chg (B := W2.heap.size) ⟨⟨hnb, hbc, hbb⟩, hlow⟩ bY hi (by omega)
        have hCZ := HC.out.below hNb.2.2.2
        have hlb := hnb.lt
        have HS1 : Hid ((fun w' => w'.cell? ⟨w.heap.size + 1 + 1, 0, none⟩ = some (.pointer (some ⟨w.heap.size + 1, 0, none⟩)) ∧ w'.cell? ⟨w.heap.size, 0, none⟩ = some (ptr c) ∧ w'.cell? ⟨c, 2, none⟩ = some (.map (some x.lb)) ∧ w'.cell? ⟨W'.heap.size, 0, none⟩ = some (.string to) ∧ (Instr.lookup 157 (.map (some x.lb)) (.string to) false).run Tryz.prog w' = .ok (.int .i64 (x.locI to : Nat)) w') (Y.drew.setCell ⟨w.heap.size + 1, 12 + x.locI to, none⟩ (.bool true))) := hid ⟨hNb.2.2.1.2.2.cell, hNb.2.2.1.2.1.cell, hCZ.c2, (cell_set_ne (.inl (by omega))).trans y0, hCZ.lookL hto⟩
        have HR := hid hNb
        clear hnb nbY hCY hC hNb hCZ
        generalize hli : x.locI to = li at *
        have i0 : (0 : Int) ≤ (li : Int) := by omega
        have i4 : (li : Int) < 4 := by omega
        refine region_round (S := (fun w' => w'.cell? ⟨w.heap.size + 1 + 1, 0, none⟩ = some (.pointer (some ⟨w.heap.size + 1, 0, none⟩)) ∧ w'.cell? ⟨w.heap.size, 0, none⟩ = some (ptr c) ∧ w'.cell? ⟨c, 2, none⟩ = some (.map (some x.lb)) ∧ w'.cell? ⟨W'.heap.size, 0, none⟩ = some (.string to) ∧ (Instr.lookup 157 (.map (some x.lb)) (.string to) false).run Tryz.prog w' = .ok (.int .i64 (li : Nat)) w')) (by kernel_rfl) (by simp) (by rintro ⟨_, _, hF⟩; exact hF) ⟨y1, y2, y3, y0, y4⟩ (fun hHeld => ?_)
        refine wpAnyH_take (i := 0) (v := ?_) rfl (by kernel_rfl) (by kernel_rfl) (by kernel_rfl) (fun _ _ _ h => h) (Or.inl ⟨by rfl, ?_⟩) (by assumption) ?_
        rotate_left
        · (intro w hSw; (try dsimp only at hSw); go_simp; try (with_reducible rfl))
        try simp only [Act.put, List.setIfInBounds_toArray]
        refine wpAnyH_take (i := 1) (v := ?_) rfl (by kernel_rfl) (by kernel_rfl) (by kernel_rfl) (fun _ _ _ h => h) (Or.inl ⟨by rfl, ?_⟩) (by assumption) ?_
        rotate_left
        · (intro w hSw; (try dsimp only at hSw); go_simp; try (with_reducible rfl))
        try simp only [Act.put]
        refine wpAnyH_take (i := 2) (v := ?_) rfl (by kernel_rfl) (by kernel_rfl) (by kernel_rfl) (fun _ _ _ h => h) (Or.inl ⟨by rfl, ?_⟩) (by assumption) ?_
        rotate_left
        · (intro w hSw; (try dsimp only at hSw); go_simp; try (with_reducible rfl))
        try simp only [Act.put]
        refine wpAnyH_take (i := 3) (v := ?_) rfl (by kernel_rfl) (by kernel_rfl) (by kernel_rfl) (fun _ _ _ h => h) (Or.inl ⟨by rfl, ?_⟩) (by assumption) ?_
        rotate_left
        · (intro w hSw; (try dsimp only at hSw); go_simp; try (with_reducible rfl))
        try simp only [Act.put]
        refine wpAnyH_take (i := 4) (v := ?_) rfl (by kernel_rfl) (by kernel_rfl) (by kernel_rfl) (fun _ _ _ h => h) (Or.inl ⟨by rfl, ?_⟩) (by assumption) ?_
        rotate_left
        · (intro w hSw; (try dsimp only at hSw); go_simp; try (with_reducible rfl))
        try simp only [Act.put]
        refine wpAnyH_take (i := 5) (v := ?_) rfl (by kernel_rfl) (by kernel_rfl) (by kernel_rfl) (fun _ _ _ h => h) (Or.inl ⟨by rfl, ?_⟩) (by assumption) ?_
        rotate_left
        · (intro w hSw; (try dsimp only at hSw); go_simp; try (with_reducible rfl))
        try simp only [Act.put]
        refine wpAnyH_take (i := 6) (v := ?_) rfl (by kernel_rfl) (by kernel_rfl) (by kernel_rfl) (fun _ _ _ h => h) (Or.inl ⟨by rfl, ?_⟩) (by assumption) ?_
        rotate_left
        · (intro w hSw; (try dsimp only at hSw); go_simp; try (with_reducible rfl))
        try simp only [Act.put]
        refine wpAnyH_take (i := 7) (v := ?_) rfl (by kernel_rfl) (by kernel_rfl) (by kernel_rfl) (fun _ _ _ h => h) (Or.inl ⟨by rfl, ?_⟩) (by assumption) ?_
        rotate_left
        · (intro w hSw; (try dsimp only at hSw); go_simp; try (with_reducible rfl))
        try simp only [Act.put]
        refine wpAnyH_take (i := 8) (v := ?_) rfl (by kernel_rfl) (by kernel_rfl) (by kernel_rfl) (fun _ _ _ h => h) (Or.inl ⟨by rfl, ?_⟩) (by assumption) ?_
        rotate_left
        · (intro w hSw; (try dsimp only at hSw); go_simp; try (with_reducible rfl))
        try simp only [Act.put]
        refine wpAnyH_take (i := 9) (v := ?_) rfl (by kernel_rfl) (by kernel_rfl) (by kernel_rfl) (fun _ _ _ h => h) (Or.inl ⟨by rfl, ?_⟩) (by assumption) ?_
        rotate_left
        · (intro w hSw; (try dsimp only at hSw); go_simp; try (with_reducible rfl))
        try simp only [Act.put]
        refine wpAnyH_take (i := 10) (v := ?_) rfl (by kernel_rfl) (by kernel_rfl) (by kernel_rfl) (fun _ _ _ h => h) (Or.inl ⟨by rfl, ?_⟩) (by assumption) ?_
        rotate_left
        · (intro w hSw; (try dsimp only at hSw); go_simp; try (with_reducible rfl))
        try simp only [Act.put]
        refine wpAnyH_ready (rs := [11]) (by kernel_rfl) (by simp) ?_
        refine AllReadyH.cons rfl (fun KQ hKQ => ?_) ?_
        · go_simp
          refine hKQ.out _ _ ?_ (fun hHeld2 => ?_)
          · exact HS1.out
          clear hKQ KQ
          refine wpAnyH_done (by kernel_rfl) ?_ _
          have hq : NbI w c (((pre ++ [(⟨.inl (.inl (to, a)), he⟩ : EnP (inBk hs x))]).map (·.1)).foldl x.seen bk0) (Y.drew.setCell ⟨w.heap.size + 1, 12 + li, none⟩ (.bool true)) := by rw [hfold]; simp only [Cx.seen, hli]; exact HR.out.2.2
          exact ⟨HR.out.1, HR.out.2.1, hq⟩
        exact AllReadyH.nil
      · simp only [stV]
        gi_wp2
        obtain ⟨Y, hY⟩ : ∃ Y, W'.alloc (.cells #[.string to, .int .i64 o, .string a.name, .int .i64 a.num, .string d.name, .int .i64 d.num] 332) = Y := ⟨_, rfl⟩
        have bY : Below W'.heap.size W' Y := by rw [← hY]; exact (Below.refl _ W').alloc (Nat.le_refl _) _
        have y0 : Y.cell? ⟨W'.heap.size, 0, none⟩ = some (.string to) := by rw [← hY]; exact World.cell?_alloc_new _ _ _ 0
        rw [hY]
        clear hY
        have hto := hlf.1
        have hCY := hC.below bY
        have y1 := (bY.cell (p := ⟨w.heap.size + 1 + 1, 0, none⟩) hbb.lt).trans cb
        have y2 := (bY.cell (p := ⟨w.heap.size, 0, none⟩) hbc.lt).trans cc
        have y3 := hCY.c2
        have y4 := hCY.drew.lookL hto
        have hi := locI_lt x hC.base.ln to
        have nbY := hnb.below bY
        have n4 := nbY.cs.n3
        obtain ⟨v5, y5⟩ : ∃ v, Y.cell? ⟨w.heap.size + 1, 12 + x.locI to, none⟩ = some (.bool v) := ⟨_, nbY.cs.ch (x.locI to) _ (List.getElem?_eq_getElem (by omega))⟩
        have y6 := nbY.free (12 + x.locI to)
        have hNb := NbI.chg (B := W2.heap.size) ⟨⟨hnb, hbc, hbb⟩, hlow⟩ bY hi (by omega)
        have hCZ := HC.out.below hNb.2.2.2
        have hlb := hnb.lt
        have HS1 : Hid ((fun w' => w'.cell? ⟨w.heap.size + 1 + 1, 0, none⟩ = some (.pointer (some ⟨w.heap.size + 1, 0, none⟩)) ∧ w'.cell? ⟨w.heap.size, 0, none⟩ = some (ptr c) ∧ w'.cell? ⟨c, 2, none⟩ = some (.map (some x.lb)) ∧ w'.cell? ⟨W'.heap.size, 0, none⟩ = some (.string to) ∧ (Instr.lookup 157 (.map (some x.lb)) (.string to) false).run Tryz.prog w' = .ok (.int .i64 (x.locI to : Nat)) w') (Y.drew.setCell ⟨w.heap.size + 1, 12 + x.locI to, none⟩ (.bool true))) := hid ⟨hNb.2.2.1.2.2.cell, hNb.2.2.1.2.1.cell, hCZ.c2, (cell_set_ne (.inl (by omega))).trans y0, hCZ.lookL hto⟩
        have HR := hid hNb
        clear hnb nbY hCY hC hNb hCZ
        generalize hli : x.locI to = li at *
        have i0 : (0 : Int) ≤ (li : Int) := by omega
        have i4 : (li : Int) < 4 := by omega
        refine region_round (S := (fun w' => w'.cell? ⟨w.heap.size + 1 + 1, 0, none⟩ = some (.pointer (some ⟨w.heap.size + 1, 0, none⟩)) ∧ w'.cell? ⟨w.heap.size, 0, none⟩ = some (ptr c) ∧ w'.cell? ⟨c, 2, none⟩ = some (.map (some x.lb)) ∧ w'.cell? ⟨W'.heap.size, 0, none⟩ = some (.string to) ∧ (Instr.lookup 157 (.map (some x.lb)) (.string to) false).run Tryz.prog w' = .ok (.int .i64 (li : Nat)) w')) (by kernel_rfl) (by simp) (by rintro ⟨_, _, hF⟩; exact hF) ⟨y1, y2, y3, y0, y4⟩ (fun hHeld => ?_)
        refine wpAnyH_take (i := 0) (v := ?_) rfl (by kernel_rfl) (by kernel_rfl) (by kernel_rfl) (fun _ _ _ h => h) (Or.inl ⟨by rfl, ?_⟩) (by assumption) ?_
        rotate_left
        · (intro w hSw; (try dsimp only at hSw); go_simp; try (with_reducible rfl))
        try simp only [Act.put, List.setIfInBounds_toArray]
        refine wpAnyH_take (i := 1) (v := ?_) rfl (by kernel_rfl) (by kernel_rfl) (by kernel_rfl) (fun _ _ _ h => h) (Or.inl ⟨by rfl, ?_⟩) (by assumption) ?_
        rotate_left
        · (intro w hSw; (try dsimp only at hSw); go_simp; try (with_reducible rfl))
        try simp only [Act.put]
        refine wpAnyH_take (i := 2) (v := ?_) rfl (by kernel_rfl) (by kernel_rfl) (by kernel_rfl) (fun _ _ _ h => h) (Or.inl ⟨by rfl, ?_⟩) (by assumption) ?_
        rotate_left
        · (intro w hSw; (try dsimp only at hSw); go_simp; try (with_reducible rfl))
        try simp only [Act.put]
        refine wpAnyH_take (i := 3) (v := ?_) rfl (by kernel_rfl) (by kernel_rfl) (by kernel_rfl) (fun _ _ _ h => h) (Or.inl ⟨by rfl, ?_⟩) (by assumption) ?_
        rotate_left
        · (intro w hSw; (try dsimp only at hSw); go_simp; try (with_reducible rfl))
        try simp only [Act.put]
        refine wpAnyH_take (i := 4) (v := ?_) rfl (by kernel_rfl) (by kernel_rfl) (by kernel_rfl) (fun _ _ _ h => h) (Or.inl ⟨by rfl, ?_⟩) (by assumption) ?_
        rotate_left
        · (intro w hSw; (try dsimp only at hSw); go_simp; try (with_reducible rfl))
        try simp only [Act.put]
        refine wpAnyH_take (i := 5) (v := ?_) rfl (by kernel_rfl) (by kernel_rfl) (by kernel_rfl) (fun _ _ _ h => h) (Or.inl ⟨by rfl, ?_⟩) (by assumption) ?_
        rotate_left
        · (intro w hSw; (try dsimp only at hSw); go_simp; try (with_reducible rfl))
        try simp only [Act.put]
        refine wpAnyH_take (i := 6) (v := ?_) rfl (by kernel_rfl) (by kernel_rfl) (by kernel_rfl) (fun _ _ _ h => h) (Or.inl ⟨by rfl, ?_⟩) (by assumption) ?_
        rotate_left
        · (intro w hSw; (try dsimp only at hSw); go_simp; try (with_reducible rfl))
        try simp only [Act.put]
        refine wpAnyH_take (i := 7) (v := ?_) rfl (by kernel_rfl) (by kernel_rfl) (by kernel_rfl) (fun _ _ _ h => h) (Or.inl ⟨by rfl, ?_⟩) (by assumption) ?_
        rotate_left
        · (intro w hSw; (try dsimp only at hSw); go_simp; try (with_reducible rfl))
        try simp only [Act.put]
        refine wpAnyH_take (i := 8) (v := ?_) rfl (by kernel_rfl) (by kernel_rfl) (by kernel_rfl) (fun _ _ _ h => h) (Or.inl ⟨by rfl, ?_⟩) (by assumption) ?_
        rotate_left
        · (intro w hSw; (try dsimp only at hSw); go_simp; try (with_reducible rfl))
        try simp only [Act.put]
        refine wpAnyH_take (i := 9) (v := ?_) rfl (by kernel_rfl) (by kernel_rfl) (by kernel_rfl) (fun _ _ _ h => h) (Or.inl ⟨by rfl, ?_⟩) (by assumption) ?_
        rotate_left
        · (intro w hSw; (try dsimp only at hSw); go_simp; try (with_reducible rfl))
        try simp only [Act.put]
        refine wpAnyH_take (i := 10) (v := ?_) rfl (by kernel_rfl) (by kernel_rfl) (by kernel_rfl) (fun _ _ _ h => h) (Or.inl ⟨by rfl, ?_⟩) (by assumption) ?_
        rotate_left
        · (intro w hSw; (try dsimp only at hSw); go_simp; try (with_reducible rfl))
        try simp only [Act.put]
        refine wpAnyH_ready (rs := [11]) (by kernel_rfl) (by simp) ?_
        refine AllReadyH.cons rfl (fun KQ hKQ => ?_) ?_
        · go_simp
          refine hKQ.out _ _ ?_ (fun hHeld2 => ?_)
          · exact HS1.out
          clear hKQ KQ
          refine wpAnyH_done (by kernel_rfl) ?_ _
          have hq : NbI w c (((pre ++ [(⟨.inl (.inr (.inl (to, o, a, d))), he⟩ : EnP (inBk hs x))]).map (·.1)).foldl x.seen bk0) (Y.drew.setCell ⟨w.heap.size + 1, 12 + li, none⟩ (.bool true)) := by rw [hfold]; simp only [Cx.seen, hli]; exact HR.out.2.2
          exact ⟨HR.out.1, HR.out.2.1, hq⟩
        exact AllReadyH.nil
      · simp only [stV]
        gi_wp2
        obtain ⟨Y, hY⟩ : ∃ Y, W'.alloc (.cells #[.string to, .string f, .string a.name, .int .i64 a.num] 307) = Y := ⟨_, rfl⟩
        have bY : Below W'.heap.size W' Y := by rw [← hY]; exact (Below.refl _ W').alloc (Nat.le_refl _) _
        have y0 : Y.cell? ⟨W'.heap.size, 0, none⟩ = some (.string to) := by rw [← hY]; exact World.cell?_alloc_new _ _ _ 0
        have z0' : Y.cell? ⟨W'.heap.size, 1, none⟩ = some (.string f) := by rw [← hY]; exact World.cell?_alloc_new _ _ _ 1
        rw [hY]
        clear hY
        obtain ⟨_, hto, ⟨hfz, vf, vn, hvar, hv6, hvn⟩, _⟩ := hlf
        have hCY := hC.below bY
        have y1 := (bY.cell (p := ⟨w.heap.size + 1 + 1, 0, none⟩) hbb.lt).trans cb
        have y2 := (bY.cell (p := ⟨w.heap.size, 0, none⟩) hbc.lt).trans cc
        have y3 := hCY.c2
        have y4 := hCY.drew.lookL hto
        have hi := locI_lt x hC.base.ln to
        have nbY := hnb.below bY
        have n4 := nbY.cs.n3
        obtain ⟨v5, y5⟩ : ∃ v, Y.cell? ⟨w.heap.size + 1, 12 + x.locI to, none⟩ = some (.bool v) := ⟨_, nbY.cs.ch (x.locI to) _ (List.getElem?_eq_getElem (by omega))⟩
        have y6 := nbY.free (12 + x.locI to)
        have hNb := NbI.chg (B := W2.heap.size) ⟨⟨hnb, hbc, hbb⟩, hlow⟩ bY hi (by omega)
        have hCZ := HC.out.below hNb.2.2.2
        have hlb := hnb.lt
        have HS1 : Hid ((fun w' => w'.cell? ⟨w.heap.size + 1 + 1, 0, none⟩ = some (.pointer (some ⟨w.heap.size + 1, 0, none⟩)) ∧ w'.cell? ⟨w.heap.size, 0, none⟩ = some (ptr c) ∧ w'.cell? ⟨c, 2, none⟩ = some (.map (some x.lb)) ∧ w'.cell? ⟨W'.heap.size, 0, none⟩ = some (.string to) ∧ (Instr.lookup 157 (.map (some x.lb)) (.string to) false).run Tryz.prog w' = .ok (.int .i64 (x.locI to : Nat)) w') (Y.drew.setCell ⟨w.heap.size + 1, 12 + x.locI to, none⟩ (.bool true))) := hid ⟨hNb.2.2.1.2.2.cell, hNb.2.2.1.2.1.cell, hCZ.c2, (cell_set_ne (.inl (by omega))).trans y0, hCZ.lookL hto⟩
        have HR := hid hNb
        clear hnb nbY hCY hC hNb hCZ
        generalize hli : x.locI to = li at *
        have i0 : (0 : Int) ≤ (li : Int) := by omega
        have i4 : (li : Int) < 4 := by omega
        refine region_round (S := (fun w' => w'.cell? ⟨w.heap.size + 1 + 1, 0, none⟩ = some (.pointer (some ⟨w.heap.size + 1, 0, none⟩)) ∧ w'.cell? ⟨w.heap.size, 0, none⟩ = some (ptr c) ∧ w'.cell? ⟨c, 2, none⟩ = some (.map (some x.lb)) ∧ w'.cell? ⟨W'.heap.size, 0, none⟩ = some (.string to) ∧ (Instr.lookup 157 (.map (some x.lb)) (.string to) false).run Tryz.prog w' = .ok (.int .i64 (li : Nat)) w')) (by kernel_rfl) (by simp) (by rintro ⟨_, _, hF⟩; exact hF) ⟨y1, y2, y3, y0, y4⟩ (fun hHeld => ?_)
        refine wpAnyH_take (i := 0) (v := ?_) rfl (by kernel_rfl) (by kernel_rfl) (by kernel_rfl) (fun _ _ _ h => h) (Or.inl ⟨by rfl, ?_⟩) (by assumption) ?_
        rotate_left
        · (intro w hSw; (try dsimp only at hSw); go_simp; try (with_reducible rfl))
        try simp only [Act.put, List.setIfInBounds_toArray]
        refine wpAnyH_take (i := 1) (v := ?_) rfl (by kernel_rfl) (by kernel_rfl) (by kernel_rfl) (fun _ _ _ h => h) (Or.inl ⟨by rfl, ?_⟩) (by assumption) ?_
        rotate_left
        · (intro w hSw; (try dsimp only at hSw); go_simp; try (with_reducible rfl))
        try simp only [Act.put]
        refine wpAnyH_take (i := 2) (v := ?_) rfl (by kernel_rfl) (by kernel_rfl) (by kernel_rfl) (fun _ _ _ h => h) (Or.inl ⟨by rfl, ?_⟩) (by assumption) ?_
        rotate_left
        · (intro w hSw; (try dsimp only at hSw); go_simp; try (with_reducible rfl))
        try simp only [Act.put]
        refine wpAnyH_take (i := 3) (v := ?_) rfl (by kernel_rfl) (by kernel_rfl) (by kernel_rfl) (fun _ _ _ h => h) (Or.inl ⟨by rfl, ?_⟩) (by assumption) ?_
        rotate_left
        · (intro w hSw; (try dsimp only at hSw); go_simp; try (with_reducible rfl))
        try simp only [Act.put]
        refine wpAnyH_take (i := 4) (v := ?_) rfl (by kernel_rfl) (by kernel_rfl) (by kernel_rfl) (fun _ _ _ h => h) (Or.inl ⟨by rfl, ?_⟩) (by assumption) ?_
        rotate_left
        · (intro w hSw; (try dsimp only at hSw); go_simp; try (with_reducible rfl))
        try simp only [Act.put]
        refine wpAnyH_take (i := 5) (v := ?_) rfl (by kernel_rfl) (by kernel_rfl) (by kernel_rfl) (fun _ _ _ h => h) (Or.inl ⟨by rfl, ?_⟩) (by assumption) ?_
        rotate_left
        · (intro w hSw; (try dsimp only at hSw); go_simp; try (with_reducible rfl))
        try simp only [Act.put]
        refine wpAnyH_take (i := 6) (v := ?_) rfl (by kernel_rfl) (by kernel_rfl) (by kernel_rfl) (fun _ _ _ h => h) (Or.inl ⟨by rfl, ?_⟩) (by assumption) ?_
        rotate_left
        · (intro w hSw; (try dsimp only at hSw); go_simp; try (with_reducible rfl))
        try simp only [Act.put]
        refine wpAnyH_take (i := 7) (v := ?_) rfl (by kernel_rfl) (by kernel_rfl) (by kernel_rfl) (fun _ _ _ h => h) (Or.inl ⟨by rfl, ?_⟩) (by assumption) ?_
        rotate_left
        · (intro w hSw; (try dsimp only at hSw); go_simp; try (with_reducible rfl))
        try simp only [Act.put]
        refine wpAnyH_take (i := 8) (v := ?_) rfl (by kernel_rfl) (by kernel_rfl) (by kernel_rfl) (fun _ _ _ h => h) (Or.inl ⟨by rfl, ?_⟩) (by assumption) ?_
        rotate_left
        · (intro w hSw; (try dsimp only at hSw); go_simp; try (with_reducible rfl))
        try simp only [Act.put]
        refine wpAnyH_take (i := 9) (v := ?_) rfl (by kernel_rfl) (by kernel_rfl) (by kernel_rfl) (fun _ _ _ h => h) (Or.inl ⟨by rfl, ?_⟩) (by assumption) ?_
        rotate_left
        · (intro w hSw; (try dsimp only at hSw); go_simp; try (with_reducible rfl))
        try simp only [Act.put]
        refine wpAnyH_take (i := 10) (v := ?_) rfl (by kernel_rfl) (by kernel_rfl) (by kernel_rfl) (fun _ _ _ h => h) (Or.inl ⟨by rfl, ?_⟩) (by assumption) ?_
        rotate_left
        · (intro w hSw; (try dsimp only at hSw); go_simp; try (with_reducible rfl))
        try simp only [Act.put]
        refine wpAnyH_ready (rs := [11]) (by kernel_rfl) (by simp) ?_
        refine AllReadyH.cons rfl (fun KQ hKQ => ?_) ?_
        · go_simp
          refine hKQ.out _ _ ?_ (fun hHeld2 => ?_)
          · exact HS1.out
          clear hKQ KQ
          refine wpAnyH_done (by kernel_rfl) ?_ _
          gi_wp2
          obtain ⟨Z, hZ⟩ : ∃ Z, (Y.setCell ⟨w.heap.size + 1, 12 + li, none⟩ (.bool true)).drew = Z := ⟨_, rfl⟩
          have hNb2 := HR.out
          have z0 : Z.cell? ⟨W'.heap.size, 1, none⟩ = some (.string f) := by rw [← hZ]; show (Y.setCell ⟨w.heap.size + 1, 12 + li, none⟩ (.bool true)).cell? _ = _; exact (cell_set_ne (.inl (by omega))).trans z0'
          rw [show Y.drew.setCell ⟨w.heap.size + 1, 12 + li, none⟩ (.bool true) = (Y.setCell ⟨w.heap.size + 1, 12 + li, none⟩ (.bool true)).drew from rfl, hZ] at hNb2
          rw [hZ]
          clear hZ HR HS1 y0 y1 y2 y3 y4 y5 y6 hHeld hHeld2
          have hCZ := HC.out.below hNb2.2.2.2
          have z1 := hNb2.2.2.1.2.2.cell
          have z2 := hNb2.2.2.1.2.1.cell
          have z3 := hCZ.c1
          have z4 := hCZ.drew.lookS hfz
          rw [hvar] at z4
          have lz := hNb2.2.2.1.1.lt
          have lt0 : W'.heap.size < Z.heap.size := World.block_lt_of_cell? _ _ z0
          have HM : Hid (MarksAt Z.drew (w.heap.size + 1) 0 bk.gets ∧ bk.gets.length = 6 ∧ ∀ j, Z.drew.frozen? ⟨w.heap.size + 1, j, none⟩ = false) := hid ⟨hNb2.2.2.1.1.marksG, hNb2.2.2.1.1.cs.n1, hNb2.2.2.1.1.free⟩
          have HF : Hid (∀ w1, MarksAt w1 (w.heap.size + 1) 0 (markN bk.gets vf vn) → Chg (fun k j => k = w.heap.size + 1 ∧ 0 ≤ j ∧ j < 0 + 6) Z.drew w1 → KeepsFrom W2.heap.size W' w1 ∧ Below w.heap.size W' w1 ∧ NbI w c (x.seen bk (.inl (.inr (.inr (.inl (to, f, a)))))) w1) := hid fun w1 hmk hcm => by
            have bd : Below Z.heap.size Z Z.drew := ⟨rfl, rfl, rfl, Nat.le_refl _, fun _ _ => rfl⟩
            have hk := NbI.step (B := W2.heap.size) hNb2.2.2 bd (hcm.mono fun _ _ _ e => e.1) ((hNb2.2.2.1.1.below bd).mg (l := markN bk.gets vf vn) ((markN_len _ _ _).trans hNb2.2.2.1.1.cs.n1) hmk hcm) (by omega)
            have hsn : x.seen bk (.inl (.inr (.inr (.inl (to, f, a))))) = { { bk with chgs := bk.chgs.set li true } with gets := markN bk.gets vf vn } := by simp only [Cx.seen, hli, hvar, markB_is]
            rw [hsn]
            exact ⟨hNb2.1.trans hk.1, hNb2.2.1.trans hk.2.1, hk.2.2⟩
          have HS2 : Hid (∀ w1, Chg (fun k j => k = w.heap.size + 1 ∧ 0 ≤ j ∧ j < 0 + 6) Z.drew w1 → w1.cell? ⟨w.heap.size + 1 + 1, 0, none⟩ = some (.pointer (some ⟨w.heap.size + 1, 0, none⟩)) ∧ w1.cell? ⟨w.heap.size, 0, none⟩ = some (ptr c) ∧ w1.cell? ⟨c, 1, none⟩ = some (.map (some x.sb)) ∧ w1.cell? ⟨W'.heap.size, 1, none⟩ = some (.string f) ∧ (Instr.lookup 138 (.map (some x.sb)) (.string f) false).run Tryz.prog w1 = .ok (.agg #[.int .i64 (vf : Nat), .int .i64 (vn : Nat)]) w1) := hid fun w1 hcm => by
            have hbw : Below w.heap.size w w1 := hNb2.2.2.2.trans ((⟨rfl, rfl, rfl, Nat.le_refl _, fun _ _ => rfl⟩ : Below w.heap.size Z Z.drew).trans (hcm.below (show w.heap.size ≤ Z.drew.heap.size from hNb2.2.2.2.size) (fun k i e => by omega)))
            have hC1 := HC.out.below hbw
            have hl1 := hC1.lookS hfz
            rw [hvar] at hl1
            exact ⟨(hcm.cell _ _ (show _ < Z.drew.heap.size from hNb2.2.2.1.2.2.lt) (fun e => by omega)).trans z1, (hcm.cell _ _ (show _ < Z.drew.heap.size from hNb2.2.2.1.2.1.lt) (fun e => by omega)).trans z2, hC1.c1, (hcm.cell _ _ (show _ < Z.drew.heap.size from lt0) (fun e => by omega)).trans z0, hl1⟩
          clear hNb2 hCZ
          refine region_round (S := (fun w' => w'.cell? ⟨w.heap.size + 1 + 1, 0, none⟩ = some (.pointer (some ⟨w.heap.size + 1, 0, none⟩)) ∧ w'.cell? ⟨w.heap.size, 0, none⟩ = some (ptr c) ∧ w'.cell? ⟨c, 1, none⟩ = some (.map (some x.sb)) ∧ w'.cell? ⟨W'.heap.size, 1, none⟩ = some (.string f) ∧ (Instr.lookup 138 (.map (some x.sb)) (.string f) false).run Tryz.prog w' = .ok (.agg #[.int .i64 (vf : Nat), .int .i64 (vn : Nat)]) w')) (by kernel_rfl) (by simp) (by rintro ⟨_, _, hF⟩; exact hF) ⟨z1, z2, z3, z0, z4⟩ (fun hHeld => ?_)
          refine wpAnyH_take (i := 0) (v := ?_) rfl (by kernel_rfl) (by kernel_rfl) (by kernel_rfl) (fun _ _ _ h => h) (Or.inl ⟨by rfl, ?_⟩) (by assumption) ?_
          rotate_left
          · (intro w hSw; (try dsimp only at hSw); go_simp; try (with_reducible rfl))
          try simp only [Act.put, List.setIfInBounds_toArray]
          refine wpAnyH_take (i := 1) (v := ?_) rfl (by kernel_rfl) (by kernel_rfl) (by kernel_rfl) (fun _ _ _ h => h) (Or.inl ⟨by rfl, ?_⟩) (by assumption) ?_
          rotate_left
          · (intro w hSw; (try dsimp only at hSw); go_simp; try (with_reducible rfl))
          try simp only [Act.put]
          refine wpAnyH_take (i := 2) (v := ?_) rfl (by kernel_rfl) (by kernel_rfl) (by kernel_rfl) (fun _ _ _ h => h) (Or.inl ⟨by rfl, ?_⟩) (by assumption) ?_
          rotate_left
          · (intro w hSw; (try dsimp only at hSw); go_simp; try (with_reducible rfl))
          try simp only [Act.put]
          refine wpAnyH_take (i := 3) (v := ?_) rfl (by kernel_rfl) (by kernel_rfl) (by kernel_rfl) (fun _ _ _ h => h) (Or.inl ⟨by rfl, ?_⟩) (by assumption) ?_
          rotate_left
          · (intro w hSw; (try dsimp only at hSw); go_simp; try (with_reducible rfl))
          try simp only [Act.put]
          refine wpAnyH_take (i := 4) (v := ?_) rfl (by kernel_rfl) (by kernel_rfl) (by kernel_rfl) (fun _ _ _ h => h) (Or.inl ⟨by rfl, ?_⟩) (by assumption) ?_
          rotate_left
          · (intro w hSw; (try dsimp only at hSw); go_simp; try (with_reducible rfl))
          try simp only [Act.put]
          refine wpAnyH_take (i := 5) (v := ?_) rfl (by kernel_rfl) (by kernel_rfl) (by kernel_rfl) (fun _ _ _ h => h) (Or.inl ⟨by rfl, ?_⟩) (by assumption) ?_
          rotate_left
          · (intro w hSw; (try dsimp only at hSw); go_simp; try (with_reducible rfl))
          try simp only [Act.put]
          refine wpAnyH_take (i := 6) (v := ?_) rfl (by kernel_rfl) (by kernel_rfl) (by kernel_rfl) (fun _ _ _ h => h) (Or.inl ⟨by rfl, ?_⟩) (by assumption) ?_
          rotate_left
          · (intro w hSw; (try dsimp only at hSw); go_simp; try (with_reducible rfl))
          try simp only [Act.put]
          refine wpAnyH_take (i := 7) (v := ?_) rfl (by kernel_rfl) (by kernel_rfl) (by kernel_rfl) (fun _ _ _ h => h) (Or.inl ⟨by rfl, ?_⟩) (by assumption) ?_
          rotate_left
          · (intro w hSw; (try dsimp only at hSw); go_simp; try (with_reducible rfl))
          try simp only [Act.put]
          refine wpAnyH_take (i := 8) (v := ?_) rfl (by kernel_rfl) (by kernel_rfl) (by kernel_rfl) (fun _ _ _ h => h) (Or.inl ⟨by rfl, ?_⟩) (by assumption) ?_
          rotate_left
          · (intro w hSw; (try dsimp only at hSw); go_simp; try (with_reducible rfl))
          try simp only [Act.put]
          refine wpAnyH_take (i := 9) (v := ?_) rfl (by kernel_rfl) (by kernel_rfl) (by kernel_rfl) (fun _ _ _ h => h) (Or.inl ⟨by rfl, ?_⟩) (by assumption) ?_
          rotate_left
          · (intro w hSw; (try dsimp only at hSw); go_simp; try (with_reducible rfl))
          try simp only [Act.put]
          refine wpAnyH_take (i := 10) (v := ?_) rfl (by kernel_rfl) (by kernel_rfl) (by kernel_rfl) (fun _ _ _ h => h) (Or.inl ⟨by rfl, ?_⟩) (by assumption) ?_
          rotate_left
          · (intro w hSw; (try dsimp only at hSw); go_simp; try (with_reducible rfl))
          try simp only [Act.put]
          refine wpAnyH_ready (rs := [11]) (by kernel_rfl) (by simp) ?_
          refine AllReadyH.cons rfl (fun KQ hKQ => ?_) ?_
          · (go_simp; go_at_call 215; refine (mark_c (o := 0) (f := vf) (n := vn) HM.out.1 HM.out.2.1 HM.out.2.2 hvn).mono ?_; rintro e w1 ⟨rfl, hmk, hcm⟩)
            refine hKQ.out _ _ ?_ (fun hHeld2 => ?_)
            · exact HS2.out _ hcm
            clear hKQ KQ
            refine wpAnyH_done (by kernel_rfl) ?_ _
            have q := HF.out _ hmk hcm
            rw [← hfold] at q
            exact q
          exact AllReadyH.nil
        exact AllReadyH.nil
      · simp only [stV]
        gi_wp2
        obtain ⟨Y, hY⟩ : ∃ Y, W'.alloc (.cells #[.string f, .string a.name, .int .i64 a.num, .string d.name, .int .i64 d.num] 309) = Y := ⟨_, rfl⟩
        have bY : Below W'.heap.size W' Y := by rw [← hY]; exact (Below.refl _ W').alloc (Nat.le_refl _) _
        have y0 : Y.cell? ⟨W'.heap.size, 0, none⟩ = some (.string f) := by rw [← hY]; exact World.cell?_alloc_new _ _ _ 0
        rw [hY]
        clear hY
        obtain ⟨_, ⟨hfz, vf, vn, hvar, hv6, hvn⟩, _⟩ := hlf
        have hCZ := hC.below bY
        have z0 := y0
        have z1 := (bY.cell (p := ⟨w.heap.size + 1 + 1, 0, none⟩) hbb.lt).trans cb
        have z2 := (bY.cell (p := ⟨w.heap.size, 0, none⟩) hbc.lt).trans cc
        have z3 := hCZ.c1
        have z4 := hCZ.drew.lookS hfz
        rw [hvar] at z4
        have hI0 : NbI w c bk W' := ⟨⟨hnb, hbc, hbb⟩, hlow⟩
        have nbY := hnb.below bY
        have hlb := hnb.lt
        have lt0 : W'.heap.size < Y.heap.size := World.block_lt_of_cell? _ _ y0
        have HM : Hid (MarksAt Y.drew (w.heap.size + 1) 6 bk.puts ∧ bk.puts.length = 6 ∧ ∀ j, Y.drew.frozen? ⟨w.heap.size + 1, j, none⟩ = false) := hid ⟨nbY.marksP, nbY.cs.n2, nbY.free⟩
        have bd : Below W'.heap.size W' Y.drew := bY.trans ⟨rfl, rfl, rfl, Nat.le_refl _, fun _ _ => rfl⟩
        have HF : Hid (∀ w1, MarksAt w1 (w.heap.size + 1) 6 (markN bk.puts vf vn) → Chg (fun k j => k = w.heap.size + 1 ∧ 6 ≤ j ∧ j < 6 + 6) Y.drew w1 → KeepsFrom W2.heap.size W' w1 ∧ Below w.heap.size W' w1 ∧ NbI w c (x.seen bk (.inl (.inr (.inr (.inr (.inl (f, a, d))))))) w1) := hid fun w1 hmk hcm => by
          have hk := NbI.step (B := W2.heap.size) hI0 bd (hcm.mono fun _ _ _ e => e.1) ((hnb.below bd).mp (l := markN bk.puts vf vn) ((markN_len _ _ _).trans hnb.cs.n2) hmk hcm) (by omega)
          have hsn : x.seen bk (.inl (.inr (.inr (.inr (.inl (f, a, d)))))) = { bk with puts := markN bk.puts vf vn } := by simp only [Cx.seen, hvar, markB_is]
          rw [hsn]
          exact hk
        have HS2 : Hid (∀ w1, Chg (fun k j => k = w.heap.size + 1 ∧ 6 ≤ j ∧ j < 6 + 6) Y.drew w1 → w1.cell? ⟨w.heap.size + 1 + 1, 0, none⟩ = some (.pointer (some ⟨w.heap.size + 1, 0, none⟩)) ∧ w1.cell? ⟨w.heap.size, 0, none⟩ = some (ptr c) ∧ w1.cell? ⟨c, 1, none⟩ = some (.map (some x.sb)) ∧ w1.cell? ⟨W'.heap.size, 0, none⟩ = some (.string f) ∧ (Instr.lookup 138 (.map (some x.sb)) (.string f) false).run Tryz.prog w1 = .ok (.agg #[.int .i64 (vf : Nat), .int .i64 (vn : Nat)]) w1) := hid fun w1 hcm => by
          have hbw : Below w.heap.size w w1 := hlow.trans ((bd.mono hlow.size).trans (hcm.below (show w.heap.size ≤ Y.drew.heap.size from Nat.le_trans hlow.size bY.size) (fun k i e => by omega)))
          have hC1 := HC.out.below hbw
          have hl1 := hC1.lookS hfz
          rw [hvar] at hl1
          exact ⟨(hcm.cell _ _ (show _ < Y.drew.heap.size from Nat.lt_of_lt_of_le hbb.lt bY.size) (fun e => by omega)).trans z1, (hcm.cell _ _ (show _ < Y.drew.heap.size from Nat.lt_of_lt_of_le hbc.lt bY.size) (fun e => by omega)).trans z2, hC1.c1, (hcm.cell _ _ (show _ < Y.drew.heap.size from lt0) (fun e => by omega)).trans z0, hl1⟩
        clear hnb nbY hCZ hC hI0 bd
        refine region_round (S := (fun w' => w'.cell? ⟨w.heap.size + 1 + 1, 0, none⟩ = some (.pointer (some ⟨w.heap.size + 1, 0, none⟩)) ∧ w'.cell? ⟨w.heap.size, 0, none⟩ = some (ptr c) ∧ w'.cell? ⟨c, 1, none⟩ = some (.map (some x.sb)) ∧ w'.cell? ⟨W'.heap.size, 0, none⟩ = some (.string f) ∧ (Instr.lookup 138 (.map (some x.sb)) (.string f) false).run Tryz.prog w' = .ok (.agg #[.int .i64 (vf : Nat), .int .i64 (vn : Nat)]) w')) (by kernel_rfl) (by simp) (by rintro ⟨_, _, hF⟩; exact hF) ⟨z1, z2, z3, z0, z4⟩ (fun hHeld => ?_)
        refine wpAnyH_take (i := 0) (v := ?_) rfl (by kernel_rfl) (by kernel_rfl) (by kernel_rfl) (fun _ _ _ h => h) (Or.inl ⟨by rfl, ?_⟩) (by assumption) ?_
        rotate_left
        · (intro w hSw; (try dsimp only at hSw); go_simp; try (with_reducible rfl))
        try simp only [Act.put, List.setIfInBounds_toArray]
        refine wpAnyH_take (i := 1) (v := ?_) rfl (by kernel_rfl) (by kernel_rfl) (by kernel_rfl) (fun _ _ _ h => h) (Or.inl ⟨by rfl, ?_⟩) (by assumption) ?_
        rotate_left
        · (intro w hSw; (try dsimp only at hSw); go_simp; try (with_reducible rfl))
        try simp only [Act.put]
        refine wpAnyH_take (i := 2) (v := ?_) rfl (by kernel_rfl) (by kernel_rfl) (by kernel_rfl) (fun _ _ _ h => h) (Or.inl ⟨by rfl, ?_⟩) (by assumption) ?_
        rotate_left
        · (intro w hSw; (try dsimp only at hSw); go_simp; try (with_reducible rfl))
        try simp only [Act.put]
        refine wpAnyH_take (i := 3) (v := ?_) rfl (by kernel_rfl) (by kernel_rfl) (by kernel_rfl) (fun _ _ _ h => h) (Or.inl ⟨by rfl, ?_⟩) (by assumption) ?_
        rotate_left
        · (intro w hSw; (try dsimp only at hSw); go_simp; try (with_reducible rfl))
        try simp only [Act.put]
        refine wpAnyH_take (i := 4) (v := ?_) rfl (by kernel_rfl) (by kernel_rfl) (by kernel_rfl) (fun _ _ _ h => h) (Or.inl ⟨by rfl, ?_⟩) (by assumption) ?_
        rotate_left
        · (intro w hSw; (try dsimp only at hSw); go_simp; try (with_reducible rfl))
        try simp only [Act.put]
        refine wpAnyH_take (i := 5) (v := ?_) rfl (by kernel_rfl) (by kernel_rfl) (by kernel_rfl) (fun _ _ _ h => h) (Or.inl ⟨by rfl, ?_⟩) (by assumption) ?_
        rotate_left
        · (intro w hSw; (try dsimp only at hSw); go_simp; try (with_reducible rfl))
        try simp only [Act.put]
        refine wpAnyH_take (i := 6) (v := ?_) rfl (by kernel_rfl) (by kernel_rfl) (by kernel_rfl) (fun _ _ _ h => h) (Or.inl ⟨by rfl, ?_⟩) (by assumption) ?_
        rotate_left
        · (intro w hSw; (try dsimp only at hSw); go_simp; try (with_reducible rfl))
        try simp only [Act.put]
        refine wpAnyH_take (i := 7) (v := ?_) rfl (by kernel_rfl) (by kernel_rfl) (by kernel_rfl) (fun _ _ _ h => h) (Or.inl ⟨by rfl, ?_⟩) (by assumption) ?_
        rotate_left
        · (intro w hSw; (try dsimp only at hSw); go_simp; try (with_reducible rfl))
        try simp only [Act.put]
        refine wpAnyH_take (i := 8) (v := ?_) rfl (by kernel_rfl) (by kernel_rfl) (by kernel_rfl) (fun _ _ _ h => h) (Or.inl ⟨by rfl, ?_⟩) (by assumption) ?_
        rotate_left
        · (intro w hSw; (try dsimp only at hSw); go_simp; try (with_reducible rfl))
        try simp only [Act.put]
        refine wpAnyH_take (i := 9) (v := ?_) rfl (by kernel_rfl) (by kernel_rfl) (by kernel_rfl) (fun _ _ _ h => h) (Or.inl ⟨by rfl, ?_⟩) (by assumption) ?_
        rotate_left
        · (intro w hSw; (try dsimp only at hSw); go_simp; try (with_reducible rfl))
        try simp only [Act.put]
        refine wpAnyH_take (i := 10) (v := ?_) rfl (by kernel_rfl) (by kernel_rfl) (by kernel_rfl) (fun _ _ _ h => h) (Or.inl ⟨by rfl, ?_⟩) (by assumption) ?_
        rotate_left
        · (intro w hSw; (try dsimp only at hSw); go_simp; try (with_reducible rfl))
        try simp only [Act.put]
        refine wpAnyH_ready (rs := [11]) (by kernel_rfl) (by simp) ?_
        refine AllReadyH.cons rfl (fun KQ hKQ => ?_) ?_
        · (go_simp; go_at_call 215; refine (mark_c (o := 6) (f := vf) (n := vn) HM.out.1 HM.out.2.1 HM.out.2.2 hvn).mono ?_; rintro e w1 ⟨rfl, hmk, hcm⟩)
          refine hKQ.out _ _ ?_ (fun hHeld2 => ?_)
          · exact HS2.out _ hcm
          clear hKQ KQ
          refine wpAnyH_done (by kernel_rfl) ?_ _
          have q := HF.out _ hmk hcm
          rw [← hfold] at q
          exact q
        exact AllReadyH.nil
      · simp only [stV]
        have hlb := hnb.lt
        have bY : Below W'.heap.size W' (W'.alloc (.cells #[.string a.name, .int .i64 a.num] 311)) := (Below.refl _ W').alloc (Nat.le_refl _) _
        have nbY := hnb.below bY
        have o1 := (bY.cell (p := ⟨w.heap.size + 1 + 1, 0, none⟩) hbb.lt).trans cb
        have o2 := nbY.cs.gv
        have o3 := nbY.free 16
        have hN0 := NbI.give (B := W2.heap.size) ⟨⟨hnb, hbc, hbb⟩, hlow⟩ (Below.refl _ W') (by omega)
        have b2 : Below (W'.setCell ⟨w.heap.size + 1, 16, none⟩ (.bool true)).heap.size (W'.setCell ⟨w.heap.size + 1, 16, none⟩ (.bool true)) ((W'.setCell ⟨w.heap.size + 1, 16, none⟩ (.bool true)).alloc (.cells #[.string a.name, .int .i64 a.num] 311)) := (Below.refl _ _).alloc (Nat.le_refl _) _
        have hN1 := NbI.step (B := W2.heap.size) hN0.2.2 b2 (Chg.refl _ _) (hN0.2.2.1.1.below b2) (by omega)
        have hNb := And.intro (hN0.1.trans hN1.1) (And.intro (hN0.2.1.trans hN1.2.1) hN1.2.2)
        have hq : NbI w c (((pre ++ [(⟨.inl (.inr (.inr (.inr (.inr (.inl a))))), he⟩ : EnP (inBk hs x))]).map (·.1)).foldl x.seen bk0) ((W'.setCell ⟨w.heap.size + 1, 16, none⟩ (.bool true)).alloc (.cells #[.string a.name, .int .i64 a.num] 311)) := by rw [hfold]; exact hNb.2.2
        have HR := hid (And.intro hNb.1 (And.intro hNb.2.1 hq))
        clear hnb nbY hNb hq hC bY hN0 hN1 b2
        gi_wp2
        exact ⟨HR.out.1, HR.out.2.1, HR.out.2.2⟩
      · exact hlf.elim
      · exact hlf.elim
      · exact hlf.elim

theorem new_is (hA : Ar hs ms W) : NewIs W x c hs ms := fun _ _ _ _ _ hl h hj h14 ⟨_, hf, he⟩ => (callsIn_wide (n := 6)).1 (new_in 6 (Nat.le_refl _) hA h hl hj h14 hf he)
end
end Go.Proofs.YtfhkfnoajbbfdabGreatDoor

/- coder.Code at a program that was read. -/
namespace Go.Proofs.YtfhkfnoajbbfdabGreatDoor
open Go.RowKit

theorem thr_fold (st : RS) (i sb lb : Nat) : (st.ents (st.thr i)).foldl (fun s e => cEn st.hs (cxAt st i sb lb) 3 e s) Ck.none' = thrCk st i := fold_at st.hs _ _ 3 (cEn_at st.hs _ _ _ _ _ _ _ 3) _ _

theorem thrText_is (st : RS) (i : Nat) : thrText st i = ⟨#[116, 104, 114, 101, 97, 100, 10]⟩ ++ (thrCk st i).endC.text := rfl

theorem code_c {W0 W : World} {br : Nat} {s : ByteArray} {st : RS} (h : Has W0 W br st) (hT : TabAt W) (hg : gLines s = .ok st) (hm : gMuch st = false) :
    Calls Tryz.prog 42 #[ptr br] W fun e w' => ∃ v, e = .returned v ∧ (v = .string (progText st) ∧ Below W.heap.size W w') := by
  obtain ⟨E, lab, sb, bs, tv, ov, ms, hE, hM⟩ := h.m
  obtain ⟨ta, tk, htv⟩ := hM.threadS
  subst htv
  have hn3 : st.threads.length ≤ 3 := by
    unfold gMuch at hm
    simp only [Bool.or_eq_false_iff, decide_eq_false_iff_not] at hm
    omega
  have hF := fun i hi => thr_is hM h.ok i hi
  have hAr : ∀ wr, Below W.heap.size W wr → Ar st.hs ms wr := fun wr hb => hM.ar.below hb
  have hW := fun i (hi : i < st.threads.length) => thread_w hg h.ok hm (cxAt st i sb (mAt ms st i).mb) rfl (st.thr i) (hF i hi).mem
  have hgb : ∀ i, i < st.threads.length → (thrCk st i).g ≤ 4200 := by
    intro i hi
    obtain ⟨h1, h2, h3⟩ := hW i hi
    rw [← thr_fold st i sb (mAt ms st i).mb]
    have := (fold_inv (step := fun e s => cEn st.hs (cxAt st i sb (mAt ms st i).mb) 3 e s) (inv := fun s => s.blk = none) (cost := fun e => 300 * wE st.hs 3 e) (st.ents (st.thr i)) Ck.none' (fun e he s hs => ⟨(en_blk st.hs _ 3 false e (h2 e he) s (fun _ => hs)).trans hs, en_g st.hs _ 3 false e (h2 e he) s (fun _ => hs)⟩) rfl).2
    rw [sum_mul] at this
    have e0 : Ck.none'.g = 0 := rfl
    omega
  refine code_m (W := W) (n := st.threads.length) (ta := ta) (tk := tk) (tb := fun i => (mAt ms st i).b) (lb := fun i => (mAt ms st i).mb) (rv := fun i => (mAt ms st i).rv) (tx := fun i => (thrCk st i).endC.text)
    hn3 hM.c0 hM.c1 (hid fun i hi => ?ht) (fun i wr => Below W.heap.size W wr ∧ Lib.IsBuilderF 151 5 W.heap.size W.heap.size (Lib.byteCells (progL st i)) wr ∧ (progL st i).length ≤ i * 20000000100)
    (fun i c w => ∃ wr, (Below W.heap.size W wr ∧ Lib.IsBuilderF 151 5 W.heap.size W.heap.size (Lib.byteCells (progL st i)) wr ∧ (progL st i).length ≤ i * 20000000100) ∧ Cw wr.drew (cxAt st i sb (mAt ms st i).mb) [] w c (thrCk st i))
    (fun i c w => ∃ wr, (Below W.heap.size W wr ∧ Lib.IsBuilderF 151 5 W.heap.size W.heap.size (Lib.byteCells (progL st i)) wr ∧ (progL st i).length ≤ i * 20000000100) ∧ Cw wr.drew (cxAt st i sb (mAt ms st i).mb) [] w c (thrCk st i).endC ∧ (thrCk st i).T.length ≤ 4200)
    (fun i c w => ∃ wr, (Below W.heap.size W wr ∧ Lib.IsBuilderF 151 5 W.heap.size W.heap.size (Lib.byteCells (progL st i)) wr ∧ (progL st i).length ≤ i * 20000000100) ∧ Cw wr.drew (cxAt st i sb (mAt ms st i).mb) [] w c (thrCk st i).endC ∧ (thrCk st i).T.length ≤ 4200)
    (fun v w' => v = .string (progText st) ∧ Below W.heap.size W w') (hid fun i c w hi hP => ?htx) (hid fun i wr hJ => hJ.1) (hid ⟨?h0a, ?h0b, by simp [progL]⟩) (hid fun i wr hi hJ => ?k1) (hid fun i c w hi hP => ?k2) (hid fun i c w hi hP => ?k3) (hid fun i c w hi hP => ?k4) (hid fun w hJ => ?k5)
  case ht =>
    have q := hF i hi
    obtain ⟨g, cp, e1, e2⟩ := q.row
    exact ⟨g, by simpa using congrArg (fun v => match v with | Value.slice a _ _ => a | _ => none) e1, e2, q.c0, q.c1⟩
  case htx =>
    obtain ⟨wr, _, ⟨m, hc⟩, h3⟩ := hP
    have h1 := hgb i hi
    have h2 := endC_g (thrCk st i)
    have := text_len hc.ok (by omega)
    omega
  case h0a => exact (Below.refl _ W).alloc (Nat.le_refl _) _
  case h0b => exact Lib.IsBuilderF.of (Lib.fresh_isBuilder _ _ W)
  case k1 =>
    obtain ⟨hb, hB, hlen⟩ := hJ
    have hbd : Below W.heap.size W wr.drew := hb.trans ⟨rfl, rfl, rfl, Nat.le_refl _, fun _ _ => rfl⟩
    have q := hF i hi
    obtain ⟨h1, h2, h3⟩ := hW i hi
    have hbase : CBase wr.drew (cxAt st i sb (mAt ms st i).mb) := {
      mS := hM.mS.keep (M := fun _ _ => False) (Chg.of_below hbd) (fun _ e => e)
      mL := q.mp.keep (M := fun _ _ => False) (Chg.of_below hbd) (fun _ e => e)
      tab := hT.below hbd
      th := by show i ≤ 3; omega
      ln := q.ln }
    have hrow : wr.drew.ownsRow 0 222 1 (mAt ms st i).rv (st.ents (st.thr i)).length ((st.ents (st.thr i)).map (enV (idsOf ms))) := ownsRow_chg q.own (Chg.of_below (M := fun _ _ => False) hbd) (fun _ _ _ e => e)
    have hEw : Env wr.drew := h.env.below hbd
    have hAw := hAr _ hbd
    refine (list_c (ids := idsOf ms) hrow h1 (fun e s => cEn st.hs (cxAt st i sb (mAt ms st i).mb) 3 e s) (fun s => s.blk = none ∧ s.loops = 0) (fun e => 300 * wE st.hs 3 e) (fun e he K w s hcw hin hG => en_c hEw hAw (new_is hAw) 3 (Nat.le_refl _) false e (h2 e he) K w s hcw ⟨fun _ => hin.1, fun hh => by cases hh⟩ (by rw [hin.2]; omega) hG)
      (fun e he s hin => ⟨⟨(en_blk st.hs _ 3 false e (h2 e he) s (fun _ => hin.1)).trans hin.1, ((saneEn st.hs _ 3 e).lo s).trans hin.2⟩, en_g st.hs _ 3 false e (h2 e he) s (fun _ => hin.1)⟩) (cd_init hbase) ⟨rfl, rfl⟩ (by
        rw [sum_mul]
        have e0 : Ck.none'.g = 0 := rfl
        omega)).mono ?_
    rintro r w' ⟨hr, hw⟩
    rw [thr_fold] at hw
    exact ⟨hr, wr, ⟨hb, hB, hlen⟩, hw⟩
  case k2 =>
    obtain ⟨wr, hJ, hc⟩ := hP
    have h1 := hgb i hi
    have h3 : (thrCk st i).T.length ≤ (thrCk st i).g := let ⟨_, hc⟩ := hc; hc.ok.t
    refine (end_c hc (by omega)).mono ?_
    rintro r w' ⟨hr, hw⟩
    exact ⟨hr, wr, hJ, hw, by omega⟩
  case k3 =>
    obtain ⟨wr, hJ, hc, h3⟩ := hP
    have h1 := hgb i hi
    have h2 := endC_g (thrCk st i)
    refine (text_c hc (endC_ne _) (by omega)).mono ?_
    rintro r w' ⟨hr, hw⟩
    exact ⟨hr, wr, hJ, hw, h3⟩
  case k4 =>
    obtain ⟨wr, ⟨hb, hB, hlen⟩, ⟨m, hcd⟩, h3⟩ := hP
    have hlow : Below wr.heap.size wr w := (⟨rfl, rfl, rfl, Nat.le_refl _, fun _ _ => rfl⟩ : Below wr.heap.size wr wr.drew).trans hcd.low
    have h1 := hgb i hi
    have h2 := endC_g (thrCk st i)
    have hsz := text_len hcd.ok (by omega)
    have hsz2 : (thrText st i).size ≤ 20000000010 := by
      rw [thrText_is, ByteArray.size_append]
      have : (ByteArray.mk #[116, 104, 114, 101, 97, 100, 10]).size = 7 := rfl
      omega
    have hW1 : W.heap.size ≤ w.heap.size := Nat.le_trans hb.size hlow.size
    refine (write_c (u := thrText st i) (bld_below hB hlow) (by
      have : i * 20000000100 ≤ 3 * 20000000100 := Nat.mul_le_mul_right _ (by omega)
      omega) hW1).mono ?_
    rintro r w' ⟨hr, hw, hbw⟩
    refine ⟨⟨_, hr⟩, (hb.trans (hlow.mono hb.size)).trans hbw, hw, ?_⟩
    show (progL st i ++ (thrText st i).data.toList).length ≤ _
    have e3 : (thrText st i).data.toList.length = (thrText st i).size := Array.length_toList
    rw [List.length_append, e3]
    omega
  case k5 =>
    obtain ⟨hb, hB, hlen⟩ := hJ
    refine (string_c hB hb.size).mono ?_
    rintro r w' ⟨hr, hw⟩
    exact ⟨_, hr, rfl, hb.trans hw⟩
end Go.Proofs.YtfhkfnoajbbfdabGreatDoor

/- commits.Compile: a text that is no program; one that is. -/
namespace Go.Proofs.YtfhkfnoajbbfdabGreatDoor
open Go.RowKit

set_option maxRecDepth 100000 in
set_option maxHeartbeats 2000000 in
theorem comp_err {W : World} (hE : Env W) (s : ByteArray) {er ln : Int} (hg : gProg s = .error (er, ln)) :
    Calls Tryz.prog 30 #[.string s] W fun e w' => ∃ bf, e = .returned (.tuple #[.string ⟨#[]⟩, .iface 89 (ptr bf)]) ∧ W.heap.size ≤ bf ∧ FaultAt w' bf er ln ∧ Below W.heap.size W w' := by
  have K := read_any hE s
  rw [hg] at K
  have HK := hid K
  clear K hE
  go_enter Tryz.func30, Tryz.ntmps30
  go_wp2_with fail
  refine HK.out.mono ?_
  rintro e w1 ⟨bf, rfl, h1, h2, h3⟩
  have H2 := hid h2
  have H3 := hid h3
  clear h2 h3 HK
  go_wp2
  go_ret2
  exact ⟨bf, rfl, h1, H2.out, H3.out⟩

set_option maxRecDepth 100000 in
set_option maxHeartbeats 2000000 in
theorem comp_ok {W : World} (hE : Env W) (s : ByteArray) {st : RS} (hg : gProg s = .ok st) {R : ByteArray → World → Prop} (KC : Hid (∀ w br, Has W w br st → Calls Tryz.prog 42 #[ptr br] w fun e w' => ∃ t, e = .returned (.string t) ∧ R t w')) :
    Calls Tryz.prog 30 #[.string s] W fun e w' => ∃ t, e = .returned (.tuple #[.string t, .nilIface]) ∧ R t w' := by
  have K := read_any hE s
  rw [hg] at K
  have HK := hid K
  clear K hE
  go_enter Tryz.func30, Tryz.ntmps30
  go_wp2_with fail
  refine HK.out.mono ?_
  rintro e w1 ⟨br, rfl, h1⟩
  have D := hid (KC.out w1 br h1)
  clear h1 HK KC
  go_wp2_with fail
  refine D.out.mono ?_
  rintro e w2 ⟨t, rfl, q⟩
  have H2 := hid q
  clear q D
  go_wp2
  go_ret2
  exact ⟨t, rfl, H2.out⟩
end Go.Proofs.YtfhkfnoajbbfdabGreatDoor

/- plain.Compile, whatever the text is. -/
namespace Go.Proofs.YtfhkfnoajbbfdabGreatDoor
open Go.RowKit

set_option maxRecDepth 100000 in
set_option maxHeartbeats 1000000 in
theorem pcomp_err {W : World} (hE : Env W) (s : ByteArray) {er ln : Int} (hg : gProg s = .error (er, ln)) :
    Calls Tryz.prog 20 #[.string s] W fun e w' => e = .returned (.tuple #[.string ⟨#[]⟩, .int .i64 er, .int .i64 ln]) ∧ Below W.heap.size W w' := by
  have K := hid (comp_err hE s hg)
  have HE := hid hE
  clear hE
  go_enter Tryz.func20, Tryz.ntmps20
  go_wp2_with fail
  refine K.out.mono ?_
  rintro e W1 ⟨bf, rfl, h0, h1, b1⟩
  have H1 := hid h1
  have B1 := hid b1
  clear h1 b1 K
  go_wp2_with fail
  refine (tell_fault (HE.out.keep (Chg.of_below (M := fun _ _ => False) (B1.out.mono (Nat.le_refl _))) (fun _ _ _ e => e)) H1.out).mono ?_
  rintro e W2 ⟨rfl, b2⟩
  have B2 := hid b2
  clear b2
  go_wp2
  go_ret3
  exact ⟨rfl, B1.out.trans (B2.out.mono B1.out.size)⟩

theorem gProg_parts {s : ByteArray} {st : RS} (hg : gProg s = .ok st) : gLines s = .ok st ∧ gMuch st = false := by
  unfold gProg at hg
  cases hl : gLines s with
  | error e => simp [hl] at hg
  | ok st2 =>
    rw [hl] at hg
    simp only at hg
    split at hg
    · simp at hg
    · split at hg
      · simp at hg
      · rename_i hm
        have : st2 = st := by simpa using hg
        subst this
        exact ⟨rfl, by simpa using hm⟩

set_option maxRecDepth 100000 in
set_option maxHeartbeats 1000000 in
theorem pcomp_ok {W : World} (hE : Env W) (hT : TabAt W) (s : ByteArray) {st : RS} (hg : gProg s = .ok st) :
    Calls Tryz.prog 20 #[.string s] W fun e w' => e = .returned (.tuple #[.string (progText st), .int .i64 0, .int .i64 0]) ∧ Below W.heap.size W w' := by
  obtain ⟨hl, hm⟩ := gProg_parts hg
  have K := hid (comp_ok hE s hg (R := fun t w' => t = progText st ∧ Below W.heap.size W w') (hid fun w br hb => by
    refine (code_c hb (hT.below hb.low) hl hm).mono ?_
    rintro e w' ⟨v, he, hv, hw⟩
    exact ⟨progText st, by rw [he, hv], rfl, hb.low.trans (hw.mono hb.low.size)⟩))
  clear hE hT
  go_enter Tryz.func20, Tryz.ntmps20
  go_wp2_with fail
  refine K.out.mono ?_
  rintro e W1 ⟨t, rfl, rfl, b1⟩
  have B1 := hid b1
  clear b1 K
  generalize hpt : progText st = t at *
  go_wp2_with fail
  refine (tell_nil W1).mono ?_
  rintro e W2 ⟨rfl, b2⟩
  have B2 := hid b2
  clear b2
  go_wp2
  go_ret3
  subst hpt
  exact ⟨rfl, B1.out.trans (B2.out.mono B1.out.size)⟩
end Go.Proofs.YtfhkfnoajbbfdabGreatDoor

/- Known, purely: a program that shows what it should. -/
namespace Go.Proofs.YtfhkfnoajbbfdabGreatDoor
open Go.RowKit

def knOk (s : ByteArray) (rs : List (List Int × Int)) : Bool := match gProg s with
  | .error _ => false
  | .ok st => match gCode (progText st) with
    | .error _ => false
    | .ok cs => runAll rs 0 (cs.map fun c => (Th.init, c), fun _ => 0)
end Go.Proofs.YtfhkfnoajbbfdabGreatDoor
