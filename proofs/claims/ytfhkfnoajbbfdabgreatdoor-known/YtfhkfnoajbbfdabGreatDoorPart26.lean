import Derived.Test.YtfhkfnoajbbfdabGreatDoorPart25
import Derived.Test.YtfhkfnoajbbfdabGreatDoorPart24
import Derived.Test.YtfhkfnoajbbfdabGreatDoorPart19
import Derived.RangeFuncLeaves
/- The coder at a block. -/
namespace Go.Proofs.YtfhkfnoajbbfdabGreatDoor
open Go.RowKit

/-- A block of which nothing is written yet, as it lies. -/
structure NewBk (w : World) (b : Nat) (k : Bk) : Prop where
  sh : w.shape? b = some (375, 19)
  cs : BkCells w b k
  un : w.cell? ⟨b, 18, none⟩ = some (.slice none 0 0)
  free : ∀ j, w.frozen? ⟨b, j, none⟩ = false
  u : k.undo = []

def Cx.atomicC (x : Cx) (k : Bk) (body : Ck → Ck) (s : Ck) : Ck :=
  let s2 := body (x.begin { s with blk := some k })
  let s3 := if k.puts = [false, false, false, false, false, false] then s2 else x.commit s2
  let s4 := if k.gives = true then x.give s3 else s3
  { s4 with blk := none }

section
variable {W w w' : World} {x : Cx} {K : List (Nat × Nat × Value)} {m : Cm} {c : Nat} {s : Ck} {rv : Value}

/-- The coder comes to a block. -/
theorem Cd.setBlk (h : Cd W x K m w c s) (hb : Below w.heap.size w w') {b : Nat} (hn : w.heap.size ≤ b) {k : Bk} (hk : NewBk w' b k) :
    Cw W x K (w'.setCell ⟨c, 5, none⟩ (ptr b)) c { s with blk := some k } := by
  have lb := h.lt
  have lbb := lt_of_shape hk.sh
  have hcb : b ≠ c := by omega
  have hset : Chg (fun k j => k = c ∧ j = 5) w' (w'.setCell ⟨c, 5, none⟩ (ptr b)) := (Chg.refl _ w').setCell (fun _ => ⟨rfl, rfl⟩) _
  have hall : Chg (fun k j => k = c ∧ j = 5) w (w'.setCell ⟨c, 5, none⟩ (ptr b)) := (Chg.of_below hb).trans hset
  have nk : ∀ k l, m.lab k = l → l ≠ 1 → ∀ j, ¬ (k = c ∧ j = 5) := fun k l hk h1 j e => h1 (by rw [← hk, e.1]; exact h.lc)
  have hM : ∀ k j, k < w.heap.size → (k = c ∧ j = 5) → m.lab k ≠ 0 := by
    rintro k j _ ⟨rfl, _⟩
    rw [h.lc]; omega
  have hold : ∀ k, k < w.heap.size → (if k = b then 4 else m.lab k) = m.lab k := fun k hk => if_neg (by omega)
  have kc : ∀ j, j ≠ 5 → ¬ (c = c ∧ j = 5) := fun j hj e => hj e.2
  have cc : ∀ j, (w'.setCell ⟨c, 5, none⟩ (ptr b)).cell? ⟨b, j, none⟩ = w'.cell? ⟨b, j, none⟩ := fun j => cell_set_ne (.inl hcb)
  refine ⟨{ m with lab := fun k => if k = b then 4 else m.lab k, b := b, uv := .slice none 0 0, UV := [] }, h.turn ⟨h.ok.l, h.ok.z, h.ok.t, h.ok.tb, fun k' hk' => ?_⟩ hall (fun k j hk e => ⟨hM k j hk e, fun _ => by omega⟩) hold (fun q hq => ?_) ((hall.cell _ _ lb (kc 0 (by omega))).trans h.c0) ((hall.cell _ _ lb (kc 4 (by omega))).trans h.c4) (cell_set_eq ((hb.cell (p := ⟨c, 5, none⟩) lb).trans h.c5) rfl) ((hall.cell _ _ lb (kc 6 (by omega))).trans h.c6) (ownsRow_chg h.lrow hall (fun q hq => nk _ _ (h.llv q hq) (by omega))) (ownsRow_chg h.trow hall (fun q hq => nk _ _ (h.ltv q hq) (by omega))) (h.tl.keep hall hM fun k hk e => (hold k hk).trans e) (fun k' hk' => ?_) (fun q hq => (hold q (h.lrow.lt q hq).2).trans (h.llv q hq)) (fun q hq => (hold q (h.trow.lt q hq).2).trans (h.ltv q hq))⟩
  · cases hk'
    rw [hk.u]
    exact ⟨Nat.zero_le _, fun n hn => by simp at hn⟩
  · show (if q = b then 4 else m.lab q) = 0
    have : w'.heap.size ≤ q := by simpa [size_set] using hq
    rw [if_neg (by omega)]
    exact h.lz q (Nat.le_trans hb.size this)
  · cases hk'
    exact {
      sh := (shape_setCell _ _ _ _).trans hk.sh
      g := fun i v hv => (cc _).trans (hk.cs.g i v hv), p := fun i v hv => (cc _).trans (hk.cs.p i v hv), ch := fun i v hv => (cc _).trans (hk.cs.ch i v hv)
      gv := (cc _).trans hk.cs.gv, ag := (cc _).trans hk.cs.ag, un := (cc _).trans hk.un
      free := fun j => (World.frozen?_setCell _ _ _ _).trans (hk.free j)
      urow := by rw [hk.u]; exact ⟨rfl, .inl ⟨rfl, rfl⟩⟩
      ul := by rw [hk.u]; exact ⟨rfl, fun i f n hf => by simp at hf⟩
      lbk := if_pos rfl, luv := fun g hg => by simp [Value.ownBlock] at hg
      n1 := hk.cs.n1, n2 := hk.cs.n2, n3 := hk.cs.n3 }

theorem Cw.c5any (h : Cw W x K w c s) : ∃ v, w.cell? ⟨c, 5, none⟩ = some v := let ⟨_, h⟩ := h; ⟨_, h.c5⟩

/-- The coder leaves its block. -/
theorem Cw.noBlk (h : Cw W x K w c s) : Cw W x K (w.setCell ⟨c, 5, none⟩ (.pointer none)) c { s with blk := none } := by
  obtain ⟨m, h⟩ := h
  have lb := h.lt
  have hset : Chg (fun k j => k = c ∧ j = 5) w (w.setCell ⟨c, 5, none⟩ (.pointer none)) := (Chg.refl _ w).setCell (fun _ => ⟨rfl, rfl⟩) _
  have nk : ∀ k l, m.lab k = l → l ≠ 1 → ∀ j, ¬ (k = c ∧ j = 5) := fun k l hk h1 j e => h1 (by rw [← hk, e.1]; exact h.lc)
  have hM : ∀ k j, k < w.heap.size → (k = c ∧ j = 5) → m.lab k ≠ 0 := by
    rintro k j _ ⟨rfl, _⟩
    rw [h.lc]; omega
  have kc : ∀ j, j ≠ 5 → ¬ (c = c ∧ j = 5) := fun j hj e => hj e.2
  exact ⟨m, h.turn ⟨h.ok.l, h.ok.z, h.ok.t, h.ok.tb, fun k' hk' => by cases hk'⟩ hset (fun k j hk e => ⟨hM k j hk e, fun _ => by omega⟩) (fun _ _ => rfl) (fun k hk => h.lz k (by simpa [size_set] using hk)) ((hset.cell _ _ lb (kc 0 (by omega))).trans h.c0) ((hset.cell _ _ lb (kc 4 (by omega))).trans h.c4) (cell_set_eq h.c5 rfl) ((hset.cell _ _ lb (kc 6 (by omega))).trans h.c6) (ownsRow_chg h.lrow hset (fun q hq => nk _ _ (h.llv q hq) (by omega))) (ownsRow_chg h.trow hset (fun q hq => nk _ _ (h.ltv q hq) (by omega))) (h.tl.keep hset hM fun _ _ e => e) (fun k' hk' => by cases hk') h.llv h.ltv⟩

theorem commit_blk (x : Cx) {k : Bk} (hk : s.blk = some k) : ∃ k', (x.commit s).blk = some k' ∧ k.sim k' := by
  obtain ⟨k1, h1, s1⟩ := (lock_fair x).eachK s.bk.puts 0 s k hk
  obtain ⟨k3, h3, s3⟩ := (look_fair x).eachK s.bk.gets 0 (((eachB (fun i => x.lockC i) s.bk.puts 0 s).add [yXadd, yR5, y0, dec 12, y1]).add [yAdd, yR5, yR5, y1]) k1 h1
  obtain ⟨k4, h4, s4⟩ := (store_fair x).eachK s.bk.puts 0 _ k3 h3
  obtain ⟨k5, h5, s5⟩ := undoC_blk x (((eachB (fun i => x.storeC i) s.bk.puts 0 (eachB (fun i => x.lookC i) s.bk.gets 0 (((eachB (fun i => x.lockC i) s.bk.puts 0 s).add [yXadd, yR5, y0, dec 12, y1]).add [yAdd, yR5, yR5, y1]))).add [yFence]).add [yJmp]) (k := k4) h4
  exact ⟨k5, h5, s1.trans (s3.trans (s4.trans s5))⟩

set_option maxRecDepth 100000 in
set_option maxHeartbeats 4000000 in
theorem atomic_c (h : Cw W x K w c s) {j : Nat} (hj0 : W.cell? ⟨j, 0, none⟩ = some rv) {k : Bk}
    (KN : Hid (∀ w, Cw W x K w c s → Calls Tryz.prog 189 #[ptr c, ptr j] w fun e w' => ∃ b, e = .returned (ptr b) ∧ w.heap.size ≤ b ∧ NewBk w' b k ∧ Below w.heap.size w w'))
    (body : Ck → Ck) (KB : Hid (∀ w, Cw W x K w c (x.begin { s with blk := some k }) → Calls Tryz.prog 66 #[ptr c, rv] w fun e w' => e = .returned (.tuple #[]) ∧ Cw W x K w' c (body (x.begin { s with blk := some k }))))
    {k2 : Bk} (hb2 : (body (x.begin { s with blk := some k })).blk = some k2) (hs2 : k2.puts = k.puts ∧ k2.gives = k.gives) (hA : k2.again < 100000000) (hcg : (x.commit (body (x.begin { s with blk := some k }))).g + 200 < 10000000) (hbg : (body (x.begin { s with blk := some k })).g + 1000 < 1000000) (hG : s.g + 1000 < 1000000) :
    Calls Tryz.prog 151 #[ptr c, ptr j] w fun e w' => e = .returned (.tuple #[]) ∧ Cw W x K w' c (x.atomicC k body s) := by
  obtain ⟨m, hm⟩ := h
  have HS := hid (fun (w' : World) (hb : Below w.heap.size w w') (b : Nat) (hn : w.heap.size ≤ b) (hk : NewBk w' b k) => hm.setBlk hb hn hk)
  have HC5 := hid (fun (w' : World) (hb : Below w.heap.size w w') => (⟨(hb.cell (p := ⟨c, 5, none⟩) hm.lt).trans hm.c5, (hb.frozen (p := ⟨c, 5, none⟩) hm.lt).trans (hm.free 5)⟩ : w'.cell? ⟨c, 5, none⟩ = some (blkV m s) ∧ w'.frozen? ⟨c, 5, none⟩ = false))
  have KN1 := hid (KN.out w ⟨m, hm⟩)
  have HJ := hid (fun (K : List (Nat × Nat × Value)) (w : World) (s : Ck) (h : Cw W x K w c s) => h.old hj0)
  clear hm KN hj0
  generalize hS1 : ({ s with blk := some k } : Ck) = S1 at *
  have hk1 : S1.blk = some k := by rw [← hS1]
  have hg1 : S1.g = s.g := by rw [← hS1]
  generalize hB : body (x.begin S1) = B at *
  generalize hPost : x.atomicC k body s = Post at *
  go_enter Tryz.func151, Tryz.ntmps151
  go_wp2_with fail
  refine KN1.out.mono ?_
  rintro e w1 ⟨b, rfl, hn, hnb, hbl⟩
  obtain ⟨c5, f5⟩ := HC5.out _ hbl
  have H1 := hid (HS.out _ hbl _ hn hnb)
  clear hnb hbl KN1 HS HC5 hn
  go_wp2_with fail
  generalize hw1 : w1.setCell ⟨c, 5, none⟩ (ptr b) = w2 at *
  clear c5 f5 hw1
  refine (begin_c H1.out hk1 (by omega)).mono ?_
  rintro e w3 ⟨rfl, q⟩
  have e0 := HJ.out _ _ _ q
  have H3 := hid q
  clear q H1
  go_wp2_with fail
  refine (KB.out _ H3.out).mono ?_
  rintro e w4 ⟨rfl, q⟩
  obtain ⟨b4, d5, hb4⟩ := q.cells hb2
  obtain ⟨p0, p1, p2, p3, p4, p5, hp⟩ := list6 hb4.n2
  have g0 := hb4.p 0 p0 (by rw [hp]; rfl)
  have g1 := hb4.p 1 p1 (by rw [hp]; rfl)
  have g2 := hb4.p 2 p2 (by rw [hp]; rfl)
  have g3 := hb4.p 3 p3 (by rw [hp]; rfl)
  have g4 := hb4.p 4 p4 (by rw [hp]; rfl)
  have g5 := hb4.p 5 p5 (by rw [hp]; rfl)
  simp only [Nat.reduceAdd] at g0 g1 g2 g3 g4 g5
  have H4 := hid q
  have gv16 := hb4.gv
  clear q H3 e0 KB hb4
  have heq := fun w => eq6 w p0 p1 p2 p3 p4 p5
  have hpk : k.puts = [p0, p1, p2, p3, p4, p5] := hs2.1.symm.trans hp
  have f5 := H4.out.free 5
  cases hz : (p0 || p1 || p2 || p3 || p4 || p5) with
  | false =>
    have hall : k.puts = [false, false, false, false, false, false] := by rw [hpk]; simp at hz; simp [hz]
    rw [hz] at heq
    cases hgb : k2.gives with
    | true =>
      have hP : Post = { x.give B with blk := none } := by rw [← hPost]; simp only [Cx.atomicC, hS1, hB, hall, if_true, hs2.2.symm, hgb]
      have hgv : k2.gives = true := hgb
      rw [hgv] at gv16
      go_wp2_with fail
      refine (give_c H4.out (by omega)).mono ?_
      rintro e w6 ⟨rfl, q⟩
      obtain ⟨v5, d7⟩ := q.c5any
      have f7 := q.free 5
      have H6 := hid q.noBlk
      clear q
      go_wp2
      go_end0
      subst hP
      exact ⟨rfl, H6.out⟩
    | false =>
      have hP : Post = { B with blk := none } := by rw [← hPost]; simp [Cx.atomicC, hS1, hB, hall, hs2.2.symm, hgb]
      have hgv : k2.gives = false := hgb
      rw [hgv] at gv16
      go_wp2_with fail
      go_end0
      subst hP
      exact ⟨rfl, H4.out.noBlk⟩
  | true =>
    have hall : ¬ k.puts = [false, false, false, false, false, false] := by rw [hpk]; intro e; simp at e; simp [e] at hz
    rw [hz] at heq
    cases hgb : k2.gives with
    | true =>
      have hP : Post = { x.give (x.commit B) with blk := none } := by rw [← hPost]; simp [Cx.atomicC, hS1, hB, hall, hs2.2.symm, hgb]
      have hgv : k2.gives = true := hgb
      rw [hgv] at gv16
      go_wp2_with fail
      refine (commit_c H4.out hb2 hA (by omega)).mono ?_
      rintro e w5 ⟨rfl, q⟩
      obtain ⟨k5, hk5, s5⟩ := commit_blk x hb2
      obtain ⟨b5, d6, hb5⟩ := q.cells hk5
      have v16 := hb5.gv
      rw [s5.2.2.2.1, hgv] at v16
      have f6 := q.free 5
      have H5 := hid q
      clear q d5 g0 g1 g2 g3 g4 g5 hb5 gv16 f5
      go_wp2_with fail
      refine (give_c H5.out (by omega)).mono ?_
      rintro e w6 ⟨rfl, q⟩
      obtain ⟨v5, d7⟩ := q.c5any
      have f7 := q.free 5
      have H6 := hid q.noBlk
      clear q
      go_wp2
      go_end0
      subst hP
      exact ⟨rfl, H6.out⟩
    | false =>
      have hP : Post = { x.commit B with blk := none } := by rw [← hPost]; simp [Cx.atomicC, hS1, hB, hall, hs2.2.symm, hgb]
      have hgv : k2.gives = false := hgb
      rw [hgv] at gv16
      go_wp2_with fail
      refine (commit_c H4.out hb2 hA (by omega)).mono ?_
      rintro e w5 ⟨rfl, q⟩
      obtain ⟨k5, hk5, s5⟩ := commit_blk x hb2
      obtain ⟨b5, d6, hb5⟩ := q.cells hk5
      have v16 := hb5.gv
      rw [s5.2.2.2.1, hgv] at v16
      have f6 := q.free 5
      have H5 := hid q
      clear q d5 g0 g1 g2 g3 g4 g5 hb5 gv16 f5
      go_wp2_with fail
      go_end0
      subst hP
      exact ⟨rfl, H5.out.noBlk⟩
end
end Go.Proofs.YtfhkfnoajbbfdabGreatDoor

/- The coder at a statement that is a block or a loop. -/
namespace Go.Proofs.YtfhkfnoajbbfdabGreatDoor
open Go.RowKit

section
variable {w : World} {c j : Nat} {P : World → Prop}

set_option maxRecDepth 100000 in
set_option maxHeartbeats 2000000 in
theorem stmt_atomic (KA : Hid (Calls Tryz.prog 151 #[ptr c, ptr j] w fun e w' => e = .returned (.tuple #[]) ∧ P w')) :
    Calls Tryz.prog 102 #[ptr c, .iface 231 (ptr j)] w fun e w' => e = .returned (.tuple #[]) ∧ P w' := by
  have t0 := ta_pAtomic_qSet
  have t1 := ta_pAtomic_qOperate
  have t2 := ta_pAtomic_qGet
  have t3 := ta_pAtomic_qPut
  have t4 := ta_pAtomic_qOut
  have t5 := ta_pAtomic_pAtomic
  go_enter Tryz.func102, Tryz.ntmps102
  go_wp2_with fail
  refine KA.out.mono ?_
  rintro e w1 ⟨rfl, q⟩
  have H1 := hid q
  clear q KA
  go_wp2
  go_end0
  exact ⟨rfl, H1.out⟩

set_option maxRecDepth 100000 in
set_option maxHeartbeats 2000000 in
theorem stmt_loop (KA : Hid (Calls Tryz.prog 153 #[ptr c, ptr j] w fun e w' => e = .returned (.tuple #[]) ∧ P w')) :
    Calls Tryz.prog 102 #[ptr c, .iface 315 (ptr j)] w fun e w' => e = .returned (.tuple #[]) ∧ P w' := by
  have t0 := ta_pLoop_qSet
  have t1 := ta_pLoop_qOperate
  have t2 := ta_pLoop_qGet
  have t3 := ta_pLoop_qPut
  have t4 := ta_pLoop_qOut
  have t5 := ta_pLoop_pAtomic
  have t6 := ta_pLoop_pIf
  have t7 := ta_pLoop_pLoop
  go_enter Tryz.func102, Tryz.ntmps102
  go_wp2_with fail
  refine KA.out.mono ?_
  rintro e w1 ⟨rfl, q⟩
  have H1 := hid q
  clear q KA
  go_wp2
  go_end0
  exact ⟨rfl, H1.out⟩

end
end Go.Proofs.YtfhkfnoajbbfdabGreatDoor

/- What a statement sets; whether it may stand where it stands (written by gen-pr3.py). -/
namespace Go.Proofs.YtfhkfnoajbbfdabGreatDoor
open Go.RowKit

section
variable {D : Nat → Prop} {lab : Nat → Nat × Nat} {w : World} {br sb bs : Nat} {tv ov : Value} {st : RS} {ms : List HM}

attribute [local go_sem] ta_qSet_qSet ta_qSet_qOperate ta_qSet_qGet ta_qSet_qPut ta_qSet_qOut ta_qSet_pAtomic ta_qSet_pIf ta_qSet_pLoop ta_qSet_holder ta_qOperate_qSet ta_qOperate_qOperate ta_qOperate_qGet ta_qOperate_qPut ta_qOperate_qOut ta_qOperate_pAtomic ta_qOperate_pIf ta_qOperate_pLoop ta_qOperate_holder ta_qGet_qSet ta_qGet_qOperate ta_qGet_qGet ta_qGet_qPut ta_qGet_qOut ta_qGet_pAtomic ta_qGet_pIf ta_qGet_pLoop ta_qGet_holder ta_qPut_qSet ta_qPut_qOperate ta_qPut_qGet ta_qPut_qPut ta_qPut_qOut ta_qPut_pAtomic ta_qPut_pIf ta_qPut_pLoop ta_qPut_holder ta_qOut_qSet ta_qOut_qOperate ta_qOut_qGet ta_qOut_qPut ta_qOut_qOut ta_qOut_pAtomic ta_qOut_pIf ta_qOut_pLoop ta_qOut_holder ta_pAtomic_qSet ta_pAtomic_qOperate ta_pAtomic_qGet ta_pAtomic_qPut ta_pAtomic_qOut ta_pAtomic_pAtomic ta_pAtomic_pIf ta_pAtomic_pLoop ta_pAtomic_holder ta_pIf_qSet ta_pIf_qOperate ta_pIf_qGet ta_pIf_qPut ta_pIf_qOut ta_pIf_pAtomic ta_pIf_pIf ta_pIf_pLoop ta_pIf_holder ta_pLoop_qSet ta_pLoop_qOperate ta_pLoop_qGet ta_pLoop_qPut ta_pLoop_qOut ta_pLoop_pAtomic ta_pLoop_pIf ta_pLoop_pLoop ta_pLoop_holder

set_option maxRecDepth 100000 in
set_option maxHeartbeats 1000000 in
theorem target_is (s : St) (b : Nat) (w : World) :
    Calls Tryz.prog 137 #[stVal s b] w fun e w' => e = .returned (.string (stTo s)) ∧ Below w.heap.size w w' := by
  rcases s with ⟨to, a⟩ | ⟨to, k, a, c⟩ | ⟨to, f, a⟩ | ⟨f, a, c⟩ | a | ⟨⟩ | a | n
  · simp only [stVal, stV, stTo]
    go_enter Tryz.func137, Tryz.ntmps137
    go_wp2
    go_ret
    exact ⟨rfl, (Below.refl _ w).alloc (Nat.le_refl _) _⟩
  · simp only [stVal, stV, stTo]
    go_enter Tryz.func137, Tryz.ntmps137
    go_wp2
    go_ret
    exact ⟨rfl, (Below.refl _ w).alloc (Nat.le_refl _) _⟩
  · simp only [stVal, stV, stTo]
    go_enter Tryz.func137, Tryz.ntmps137
    go_wp2
    go_ret
    exact ⟨rfl, (Below.refl _ w).alloc (Nat.le_refl _) _⟩
  · simp only [stVal, stV, stTo]
    go_enter Tryz.func137, Tryz.ntmps137
    go_wp2
    go_ret
    exact ⟨rfl, Below.refl _ w⟩
  · simp only [stVal, stV, stTo]
    go_enter Tryz.func137, Tryz.ntmps137
    go_wp2
    go_ret
    exact ⟨rfl, Below.refl _ w⟩
  · simp only [stVal, stTo]
    go_enter Tryz.func137, Tryz.ntmps137
    go_wp2
    go_ret
    exact ⟨rfl, Below.refl _ w⟩
  · simp only [stVal, stTo]
    go_enter Tryz.func137, Tryz.ntmps137
    go_wp2
    go_ret
    exact ⟨rfl, Below.refl _ w⟩
  · simp only [stVal, stTo]
    go_enter Tryz.func137, Tryz.ntmps137
    go_wp2
    go_ret
    exact ⟨rfl, Below.refl _ w⟩

/-- May it stand here? -/
def RS.mayStand (st : RS) : St → Bool
  | .inr (.inr (.inl (_, _, _))) => decide (0 < st.opn.length) && st.inB
  | .inr (.inr (.inr (.inl (_, _, _)))) => decide (0 < st.opn.length) && st.inB
  | .inr (.inr (.inr (.inr (.inr (.inl ()))))) => decide (0 < st.opn.length) && !st.inB
  | _ => decide (0 < st.opn.length)

set_option maxRecDepth 100000 in
set_option maxHeartbeats 2000000 in
theorem mayStand_is (h : RMach D lab w br sb bs tv ov st ms) (ho : st.opnOk) (s : St) (b : Nat) :
    Calls Tryz.prog 133 #[ptr br, stVal s b] w fun e w' => e = .returned (.bool (st.mayStand s)) ∧ w' = w := by
  have c3 := h.c3
  obtain ⟨oa, ok, hov⟩ : ∃ a k, ov = .slice a st.opn.length k := by
    rcases h.orow.2 with ⟨e1, e2⟩ | ⟨g', cap', cur, e1, _⟩
    · exact ⟨none, 0, by rw [e1, e2]⟩
    · exact ⟨_, _, e1⟩
  rw [hov] at c3
  have KB := hid (inBlock_is h ho)
  clear h ho hov
  by_cases h0 : st.opn.length = 0
  · have hf : st.mayStand s = false := by
      rcases s with ⟨to, a⟩ | ⟨to, k, a, c⟩ | ⟨to, f, a⟩ | ⟨f, a, c⟩ | a | ⟨⟩ | a | n <;> simp [RS.mayStand, h0]
    rw [hf]
    rw [h0] at c3
    rcases s with ⟨to, a⟩ | ⟨to, k, a, c⟩ | ⟨to, f, a⟩ | ⟨f, a, c⟩ | a | ⟨⟩ | a | n <;>
    · simp only [stVal, stV]
      go_enter Tryz.func133, Tryz.ntmps133
      go_wp2
      go_ret
      exact ⟨rfl, rfl⟩
  · have h1 : 0 < st.opn.length := by omega
    have h2 : ((st.opn.length : Int) == 0) = false := by simpa using (show ¬ (st.opn.length : Int) = 0 by omega)
    generalize hI : st.inB = ib at KB
    rcases s with ⟨to, a⟩ | ⟨to, k, a, c⟩ | ⟨to, f, a⟩ | ⟨f, a, c⟩ | a | ⟨⟩ | a | n
    · simp only [RS.mayStand, h1, decide_true, stVal, stV]
      go_enter Tryz.func133, Tryz.ntmps133
      go_wp2
      go_ret
      exact ⟨rfl, rfl⟩
    · simp only [RS.mayStand, h1, decide_true, stVal, stV]
      go_enter Tryz.func133, Tryz.ntmps133
      go_wp2
      go_ret
      exact ⟨rfl, rfl⟩
    · rw [show st.mayStand (St.get to f a) = ib from by simp [RS.mayStand, h1, hI]]
      simp only [stVal, stV]
      go_enter Tryz.func133, Tryz.ntmps133
      go_wp2_with fail
      refine KB.out.mono ?_
      rintro e w1 ⟨rfl, rfl⟩
      go_wp2
      go_ret
      exact ⟨rfl, rfl⟩
    · rw [show st.mayStand (St.put f a c) = ib from by simp [RS.mayStand, h1, hI]]
      simp only [stVal, stV]
      go_enter Tryz.func133, Tryz.ntmps133
      go_wp2_with fail
      refine KB.out.mono ?_
      rintro e w1 ⟨rfl, rfl⟩
      go_wp2
      go_ret
      exact ⟨rfl, rfl⟩
    · simp only [RS.mayStand, h1, decide_true, stVal, stV]
      go_enter Tryz.func133, Tryz.ntmps133
      go_wp2
      go_ret
      exact ⟨rfl, rfl⟩
    · rw [show st.mayStand (St.atomic) = !ib from by simp [RS.mayStand, h1, hI]]
      simp only [stVal]
      go_enter Tryz.func133, Tryz.ntmps133
      go_wp2_with fail
      refine KB.out.mono ?_
      rintro e w1 ⟨rfl, rfl⟩
      go_wp2
      go_ret
      exact ⟨rfl, rfl⟩
    · simp only [RS.mayStand, h1, decide_true, stVal]
      go_enter Tryz.func133, Tryz.ntmps133
      go_wp2
      go_ret
      exact ⟨rfl, rfl⟩
    · simp only [RS.mayStand, h1, decide_true, stVal]
      go_enter Tryz.func133, Tryz.ntmps133
      go_wp2
      go_ret
      exact ⟨rfl, rfl⟩
end
end Go.Proofs.YtfhkfnoajbbfdabGreatDoor

/- What a statement reads. -/
namespace Go.Proofs.YtfhkfnoajbbfdabGreatDoor
open Go.RowKit

def stReads : St → List PV
  | .inl (_, a) => [a]
  | .inr (.inl (_, _, a, b)) => [a, b]
  | .inr (.inr (.inl (_, _, a))) => [a]
  | .inr (.inr (.inr (.inl (_, a, b)))) => [a, b]
  | .inr (.inr (.inr (.inr (.inl a)))) => [a]
  | .inr (.inr (.inr (.inr (.inr (.inl ()))))) => []
  | .inr (.inr (.inr (.inr (.inr (.inr (.inl a)))))) => [a]
  | .inr (.inr (.inr (.inr (.inr (.inr (.inr _)))))) => []

def ReadsR (w : World) (l : List PV) (e : Ending) (w' : World) : Prop := ∃ a c, e = .returned (.slice a l.length c) ∧ Below w.heap.size w w' ∧ ∀ i (h : i < l.length), ∃ g, a = some ⟨g, 0, none⟩ ∧ g < w'.heap.size ∧ w'.cell? ⟨g, i * 2, none⟩ = some (.string l[i].name) ∧ w'.cell? ⟨g, i * 2 + 1, none⟩ = some (.int .i64 l[i].num)

theorem below_box2 (w : World) (o p : Obj) : Below w.heap.size w ((w.alloc o).alloc p) := ((Below.refl _ w).alloc (Nat.le_refl _) o).alloc (by simp) p

theorem reads_one (w : World) (o : Obj) (a : PV) (g : Nat) (hg : g = (w.alloc o).heap.size) : ReadsR w [a] (.returned (.slice (some ⟨g, 0, none⟩) 1 1)) ((w.alloc o).alloc (.cells #[.string a.name, .int .i64 a.num] 302)) := by
  subst hg
  refine ⟨_, 1, rfl, below_box2 _ _ _, fun i hi => ?_⟩
  obtain rfl : i = 0 := by simp at hi; omega
  exact ⟨_, rfl, by simp, World.cell?_alloc_new _ _ _ 0, World.cell?_alloc_new _ _ _ 1⟩

theorem reads_two (w : World) (o : Obj) (a b : PV) : ReadsR w [a, b] (.returned (.slice (some ⟨(w.alloc o).heap.size, 0, none⟩) 2 2)) ((w.alloc o).alloc (.cells #[.string a.name, .int .i64 a.num, .string b.name, .int .i64 b.num] 302)) := by
  refine ⟨_, 2, rfl, below_box2 _ _ _, fun i hi => ?_⟩
  have : i = 0 ∨ i = 1 := by simp at hi; omega
  rcases this with rfl | rfl
  · exact ⟨_, rfl, by simp, World.cell?_alloc_new _ _ _ 0, World.cell?_alloc_new _ _ _ 1⟩
  · exact ⟨_, rfl, by simp, World.cell?_alloc_new _ _ _ 2, World.cell?_alloc_new _ _ _ 3⟩

section
variable (w : World) (to of : ByteArray) (a b : PV) (k : Int)

set_option maxRecDepth 100000 in
set_option maxHeartbeats 1000000 in
theorem rd_set : Calls Tryz.prog 320 #[.agg #[.string to, .string a.name, .int .i64 a.num]] w fun e w' => ReadsR w [a] e w' := by
  go_enter Tryz.func320, Tryz.ntmps320
  go_wp2
  go_ret
  exact reads_one w _ a _ (by simp)

set_option maxRecDepth 100000 in
set_option maxHeartbeats 1000000 in
theorem rd_op : Calls Tryz.prog 321 #[.agg #[.string to, .int .i64 k, .string a.name, .int .i64 a.num, .string b.name, .int .i64 b.num]] w fun e w' => ReadsR w [a, b] e w' := by
  go_enter Tryz.func321, Tryz.ntmps321
  go_wp2
  go_ret
  have := reads_two w (.cells #[.string to, .int .i64 k, .string a.name, .int .i64 a.num, .string b.name, .int .i64 b.num] 332) a b
  simpa using this

set_option maxRecDepth 100000 in
set_option maxHeartbeats 1000000 in
theorem rd_cell : Calls Tryz.prog 315 #[.agg #[.string of, .string a.name, .int .i64 a.num]] w fun e w' => e = .returned (.slice (some ⟨w.heap.size + 1, 0, none⟩) 1 1) ∧ w' = (w.alloc (.cells #[.string of, .string a.name, .int .i64 a.num] 305)).alloc (.cells #[.string a.name, .int .i64 a.num] 302) := by
  go_enter Tryz.func315, Tryz.ntmps315
  go_wp2
  go_ret
  exact ⟨rfl, rfl⟩

set_option maxRecDepth 100000 in
set_option maxHeartbeats 1000000 in
theorem rd_out : Calls Tryz.prog 317 #[.agg #[.string a.name, .int .i64 a.num]] w fun e w' => ReadsR w [a] e w' := by
  go_enter Tryz.func317, Tryz.ntmps317
  go_wp2
  go_ret
  exact reads_one w _ a _ (by simp)

set_option maxRecDepth 100000 in
set_option maxHeartbeats 1000000 in
theorem rd_atomic (v : Value) : Calls Tryz.prog 296 #[v] w fun e w' => ReadsR w [] e w' := by
  go_enter Tryz.func296, Tryz.ntmps296
  go_wp2
  go_ret
  exact ⟨none, 0, rfl, Below.refl _ _, fun i hi => by simp at hi⟩

set_option maxRecDepth 100000 in
set_option maxHeartbeats 1000000 in
theorem rd_loop (v : Value) : Calls Tryz.prog 319 #[v] w fun e w' => ReadsR w [] e w' := by
  go_enter Tryz.func319, Tryz.ntmps319
  go_wp2
  go_ret
  exact ⟨none, 0, rfl, Below.refl _ _, fun i hi => by simp at hi⟩

set_option maxRecDepth 100000 in
set_option maxHeartbeats 1000000 in
theorem rd_if (b : Nat) (c1 : w.cell? ⟨b, 1, none⟩ = some (.string a.name)) (c2 : w.cell? ⟨b, 2, none⟩ = some (.int .i64 a.num)) : Calls Tryz.prog 318 #[ptr b] w fun e w' => ReadsR w [a] e w' := by
  go_enter Tryz.func318, Tryz.ntmps318
  go_wp2
  go_ret
  refine ⟨_, 1, rfl, (Below.refl _ w).alloc (Nat.le_refl _) _, fun i hi => ?_⟩
  obtain rfl : i = 0 := by simp at hi; omega
  exact ⟨_, rfl, by simp, World.cell?_alloc_new _ _ _ 0, World.cell?_alloc_new _ _ _ 1⟩

theorem infoPV : (Tryz.prog.info? 302).map (fun i => (i.zero, i.size, i.bytes)) = some (some (.agg #[.string ⟨#[]⟩, .int .i64 0]), 2, 24) := by kernel_rfl

theorem own_row (W : World) (x y : Value) (T : TypeId) : (W.alloc (.cells #[x, y] T)).ownsRow 0 T 2 (.slice (some ⟨W.heap.size, 0, none⟩) 1 1) 1 [x, y] :=
  ⟨rfl, .inr ⟨_, 1, #[x, y], rfl, Nat.zero_le _, (show (W.heap.push _)[W.heap.size]? = _ from Array.getElem?_push_size), Nat.le_refl _, by unfold maxLen; omega, rfl, rfl⟩⟩

theorem two_cells (W : World) (x y : Value) (T : TypeId) : ∀ j u', [x, y][j]? = some u' → (W.alloc (.cells #[x, y] T)).cell? ((⟨W.heap.size, 0, none⟩ : Addr).add j) = some u' := by
  intro j u' hj
  have hc := (own_row W x y T).cells (g := W.heap.size) rfl j u' hj
  exact hc

theorem reads_row {w3 : World} {g cap : Nat} (ho : w3.ownsRow 0 302 2 (.slice (some ⟨g, 0, none⟩) 2 cap) 2 [.string a.name, .int .i64 a.num, .string b.name, .int .i64 b.num]) (hb : Below w.heap.size w w3) : ReadsR w [a, b] (.returned (.slice (some ⟨g, 0, none⟩) 2 cap)) w3 := by
  have hg : g < w3.heap.size := (ho.lt g rfl).2
  have c : ∀ j u, [Value.string a.name, .int .i64 a.num, .string b.name, .int .i64 b.num][j]? = some u → w3.cell? ⟨g, j, none⟩ = some u := by
    intro j u hu
    have := ho.cells (g := g) rfl j u hu
    have e : (⟨g, 0, none⟩ : Addr).add j = ⟨g, j, none⟩ := by
      unfold Addr.add
      split
      · rename_i h0; rw [h0]
      · simp
    rwa [e] at this
  refine ⟨_, cap, rfl, hb, fun i hi => ?_⟩
  have : i = 0 ∨ i = 1 := by simp at hi; omega
  rcases this with rfl | rfl
  · exact ⟨g, rfl, hg, c 0 _ rfl, c 1 _ rfl⟩
  · exact ⟨g, rfl, hg, c 2 _ rfl, c 3 _ rfl⟩

theorem size1 (w : World) (o : Obj) : (w.alloc o).heap.size = w.heap.size + 1 := by simp
theorem size2 (w : World) (o p : Obj) : ((w.alloc o).alloc p).heap.size = w.heap.size + 1 + 1 := by simp
theorem size3 (w : World) (o p q : Obj) : (((w.alloc o).alloc p).alloc q).heap.size = w.heap.size + 1 + 1 + 1 := by simp

theorem put_below {W w3 : World} {v : Value} {gv : Nat} (hW : Below w.heap.size w W) (hv : v.ownBlock = some gv) (hg : w.heap.size ≤ gv) (hc : Chg (fun k _ => v.ownBlock = some k) W w3) : Below w.heap.size w w3 :=
  hW.trans (hc.below hW.size (fun k _ e => by rw [hv] at e; injection e with e; omega))

set_option maxRecDepth 100000 in
set_option maxHeartbeats 1000000 in
theorem rd_put : Calls Tryz.prog 316 #[.agg #[.string of, .string a.name, .int .i64 a.num, .string b.name, .int .i64 b.num]] w fun e w' => ReadsR w [a, b] e w' := by
  obtain ⟨i0, hi, hz0, hz1, hz2⟩ := info_parts infoPV
  have hl1 : 1 + 1 ≤ maxLen := by unfold maxLen; omega
  have hl2 : (1 + 1) * 24 ≤ 140737488355328 := by omega
  have OA : Hid (((((w.alloc (.cells #[.string of, .string a.name, .int .i64 a.num, .string b.name, .int .i64 b.num] 309)).alloc (.cells #[.string of, .string a.name, .int .i64 a.num] 305)).alloc (.cells #[.string a.name, .int .i64 a.num] 302)).alloc (.cells #[.string b.name, .int .i64 b.num] 302)).drew.ownsRow 0 302 2 (.slice (some ⟨w.heap.size + 1 + 1, 0, none⟩) 1 1) 1 [.string a.name, .int .i64 a.num]) := hid (by
    have := own_row ((w.alloc (.cells #[.string of, .string a.name, .int .i64 a.num, .string b.name, .int .i64 b.num] 309)).alloc (.cells #[.string of, .string a.name, .int .i64 a.num] 305)) (.string a.name) (.int .i64 a.num) 302
    rw [size2] at this
    exact this.alloc _)
  have CA : Hid (∀ j u', [Value.string b.name, .int .i64 b.num][j]? = some u' → ((((w.alloc (.cells #[.string of, .string a.name, .int .i64 a.num, .string b.name, .int .i64 b.num] 309)).alloc (.cells #[.string of, .string a.name, .int .i64 a.num] 305)).alloc (.cells #[.string a.name, .int .i64 a.num] 302)).alloc (.cells #[.string b.name, .int .i64 b.num] 302)).drew.cell? ((⟨w.heap.size + 1 + 1 + 1, 0, none⟩ : Addr).add j) = some u') := hid (by
    have := two_cells (((w.alloc (.cells #[.string of, .string a.name, .int .i64 a.num, .string b.name, .int .i64 b.num] 309)).alloc (.cells #[.string of, .string a.name, .int .i64 a.num] 305)).alloc (.cells #[.string a.name, .int .i64 a.num] 302)) (.string b.name) (.int .i64 b.num) 302
    rw [size3] at this
    exact this)
  have OB : Hid (((((w.alloc (.cells #[.string of, .string a.name, .int .i64 a.num, .string b.name, .int .i64 b.num] 309)).alloc (.cells #[.string b.name, .int .i64 b.num] 302)).alloc (.cells #[.string of, .string a.name, .int .i64 a.num] 305)).alloc (.cells #[.string a.name, .int .i64 a.num] 302)).drew.ownsRow 0 302 2 (.slice (some ⟨w.heap.size + 1 + 1 + 1, 0, none⟩) 1 1) 1 [.string a.name, .int .i64 a.num]) := hid (by
    have := own_row (((w.alloc (.cells #[.string of, .string a.name, .int .i64 a.num, .string b.name, .int .i64 b.num] 309)).alloc (.cells #[.string b.name, .int .i64 b.num] 302)).alloc (.cells #[.string of, .string a.name, .int .i64 a.num] 305)) (.string a.name) (.int .i64 a.num) 302
    rw [size3] at this
    exact this)
  have CB : Hid (∀ j u', [Value.string b.name, .int .i64 b.num][j]? = some u' → ((((w.alloc (.cells #[.string of, .string a.name, .int .i64 a.num, .string b.name, .int .i64 b.num] 309)).alloc (.cells #[.string b.name, .int .i64 b.num] 302)).alloc (.cells #[.string of, .string a.name, .int .i64 a.num] 305)).alloc (.cells #[.string a.name, .int .i64 a.num] 302)).drew.cell? ((⟨w.heap.size + 1, 0, none⟩ : Addr).add j) = some u') := hid (by
    have h0 := two_cells (w.alloc (.cells #[.string of, .string a.name, .int .i64 a.num, .string b.name, .int .i64 b.num] 309)) (.string b.name) (.int .i64 b.num) 302
    rw [size1] at h0
    intro j u' hj
    have h1 := h0 j u' hj
    have hlt := World.block_lt_of_cell? _ _ h1
    exact ((((Below.refl _ _).alloc (Nat.le_refl _) (.cells #[.string of, .string a.name, .int .i64 a.num] 305)).alloc (by simp) (.cells #[.string a.name, .int .i64 a.num] 302)).cell (p := (⟨w.heap.size + 1, 0, none⟩ : Addr).add j) hlt).trans h1)
  have BA : Hid (Below w.heap.size w ((((w.alloc (.cells #[.string of, .string a.name, .int .i64 a.num, .string b.name, .int .i64 b.num] 309)).alloc (.cells #[.string of, .string a.name, .int .i64 a.num] 305)).alloc (.cells #[.string a.name, .int .i64 a.num] 302)).alloc (.cells #[.string b.name, .int .i64 b.num] 302)).drew) := hid (((((Below.refl _ w).alloc (Nat.le_refl _) _).alloc (by simp) _).alloc (by simp; omega) _).alloc (by simp; omega) _).drew
  have BB : Hid (Below w.heap.size w ((((w.alloc (.cells #[.string of, .string a.name, .int .i64 a.num, .string b.name, .int .i64 b.num] 309)).alloc (.cells #[.string b.name, .int .i64 b.num] 302)).alloc (.cells #[.string of, .string a.name, .int .i64 a.num] 305)).alloc (.cells #[.string a.name, .int .i64 a.num] 302)).drew) := hid (((((Below.refl _ w).alloc (Nat.le_refl _) _).alloc (by simp) _).alloc (by simp; omega) _).alloc (by simp; omega) _).drew
  go_enter Tryz.func316, Tryz.ntmps316
  go_wp2_with fail
  go_region_law (first
    | (go_simp; go_at_call 315; refine (rd_cell _ of a).mono ?_; rintro e w1 ⟨rfl, rfl⟩)
    | (refine step_appN rfl (.tmp 5) (.tmp 8) 363 rfl 302 i0 (.agg #[.string ⟨#[]⟩, .int .i64 0]) 2 24 (by decide) Tryz.underlying363 hi hz0 hz1 hz2 rfl (.slice (some ⟨w.heap.size + 1 + 1, 0, none⟩) 1 1) 1 [.string a.name, .int .i64 a.num] rfl OA.out ⟨w.heap.size + 1 + 1 + 1, 0, none⟩ [.string b.name, .int .i64 b.num] rfl rfl CA.out (by intro u hu; simp only [List.mem_cons, List.not_mem_nil, or_false] at hu; rcases hu with rfl | rfl <;> rfl) hl1 hl2 ?_; intro g cap w3 ho hc hg; have HR := hid (reads_row w a b ho (put_below w (gv := w.heap.size + 1 + 1) BA.out rfl (by omega) hc)); clear ho hc hg)
    | (refine step_appN rfl (.tmp 5) (.tmp 8) 363 rfl 302 i0 (.agg #[.string ⟨#[]⟩, .int .i64 0]) 2 24 (by decide) Tryz.underlying363 hi hz0 hz1 hz2 rfl (.slice (some ⟨w.heap.size + 1 + 1 + 1, 0, none⟩) 1 1) 1 [.string a.name, .int .i64 a.num] rfl OB.out ⟨w.heap.size + 1, 0, none⟩ [.string b.name, .int .i64 b.num] rfl rfl CB.out (by intro u hu; simp only [List.mem_cons, List.not_mem_nil, or_false] at hu; rcases hu with rfl | rfl <;> rfl) hl1 hl2 ?_; intro g cap w3 ho hc hg; have HR := hid (reads_row w a b ho (put_below w (gv := w.heap.size + 1 + 1 + 1) BB.out rfl (by omega) hc)); clear ho hc hg))
  all_goals
    go_wp2
    go_ret
    exact HR.out
end
end Go.Proofs.YtfhkfnoajbbfdabGreatDoor

/- Whether a statement may speak of what it names. -/
namespace Go.Proofs.YtfhkfnoajbbfdabGreatDoor
open Go.RowKit

/-- What a statement that holds others has in its block. -/
def StB (W : World) (s : St) (b : Nat) : Prop := match s with
  | .inr (.inr (.inr (.inr (.inr (.inr (.inl a)))))) => W.cell? ⟨b, 1, none⟩ = some (.string a.name) ∧ W.cell? ⟨b, 2, none⟩ = some (.int .i64 a.num)
  | _ => True

theorem mrSet (v : Value) (w : World) : (method 578 328 v "commits/program.reads").run Tryz.prog w = .ok (320, v) w := by kernel_rfl
theorem mrOp (v : Value) (w : World) : (method 578 332 v "commits/program.reads").run Tryz.prog w = .ok (321, v) w := by kernel_rfl
theorem mrGet (a b c d : Value) (w : World) : (method 578 307 (.agg #[a, b, c, d]) "commits/program.reads").run Tryz.prog w = .ok (315, .agg #[b, c, d]) w := by kernel_rfl
theorem mrPut (v : Value) (w : World) : (method 578 309 v "commits/program.reads").run Tryz.prog w = .ok (316, v) w := by kernel_rfl
theorem mrOut (v : Value) (w : World) : (method 578 311 v "commits/program.reads").run Tryz.prog w = .ok (317, v) w := by kernel_rfl
theorem mrAtomic (v : Value) (w : World) : (method 578 231 v "commits/program.reads").run Tryz.prog w = .ok (296, v) w := by kernel_rfl
theorem mrIf (v : Value) (w : World) : (method 578 312 v "commits/program.reads").run Tryz.prog w = .ok (318, v) w := by kernel_rfl
theorem mrLoop (v : Value) (w : World) : (method 578 315 v "commits/program.reads").run Tryz.prog w = .ok (319, v) w := by kernel_rfl

/-- A statement's own function, whichever it is. -/
theorem st_call (s : St) (b : Nat) : ∃ T u F u', stVal s b = .iface T u ∧ (∀ W, (method 578 T u "commits/program.reads").run Tryz.prog W = .ok (F, u') W) ∧ (∀ args W, (callFunc F args).run Tryz.prog W = .ok (.enter F args) W) ∧
    ∀ W, StB W s b → Calls Tryz.prog F #[u'] W fun e w' => ReadsR W (stReads s) e w' := by
  rcases s with ⟨to, a⟩ | ⟨to, k, a, c⟩ | ⟨to, f, a⟩ | ⟨f, a, c⟩ | a | ⟨⟩ | a | n
  · exact ⟨_, _, _, _, rfl, mrSet _, enters_of Tryz.func320 (by kernel_rfl) rfl, fun W _ => rd_set W to a⟩
  · exact ⟨_, _, _, _, rfl, mrOp _, enters_of Tryz.func321 (by kernel_rfl) rfl, fun W _ => rd_op W to a c k⟩
  · refine ⟨_, _, _, _, rfl, mrGet _ _ _ _, enters_of Tryz.func315 (by kernel_rfl) rfl, fun W _ => (rd_cell W f a).mono ?_⟩
    rintro e w' ⟨rfl, rfl⟩
    exact reads_one W _ a _ (by simp)
  · exact ⟨_, _, _, _, rfl, mrPut _, enters_of Tryz.func316 (by kernel_rfl) rfl, fun W _ => rd_put W f a c⟩
  · exact ⟨_, _, _, _, rfl, mrOut _, enters_of Tryz.func317 (by kernel_rfl) rfl, fun W _ => rd_out W a⟩
  · exact ⟨_, _, _, _, rfl, mrAtomic _, enters_of Tryz.func296 (by kernel_rfl) rfl, fun W _ => rd_atomic W _⟩
  · exact ⟨_, _, _, _, rfl, mrIf _, enters_of Tryz.func318 (by kernel_rfl) rfl, fun W h => rd_if W a b h.1 h.2⟩
  · exact ⟨_, _, _, _, rfl, mrLoop _, enters_of Tryz.func319 (by kernel_rfl) rfl, fun W _ => rd_loop W _⟩

def stOf2 : St → Option ByteArray
  | .inr (.inr (.inl (_, f, _))) => some f
  | .inr (.inr (.inr (.inl (f, _, _)))) => some f
  | _ => none

/-- May it speak of what it names? l: the local variables of the thread. -/
def RS.mayName (st : RS) (l : List ByteArray) (s : St) : Bool := (stReads s).all (fun v => v.name.toList.isEmpty || hasL l v.name) && (!st.isSh (stTo s) && (match stOf2 s with | some f => st.isSh f | none => true))

/-- No word of a statement is too long. -/
structure StSz (s : St) : Prop where
  rd : ∀ v ∈ stReads s, v.name.size ≤ maxLen
  to : (stTo s).size ≤ maxLen
  of : ∀ f, stOf2 s = some f → f.size ≤ maxLen

section
variable {D : Nat → Prop} {lab : Nat → Nat × Nat} {w : World} {br sb bs : Nat} {tv ov : Value} {st : RS} {ms : List HM}

attribute [local go_sem] ta_qSet_qGet ta_qSet_qPut ta_qOperate_qGet ta_qOperate_qPut ta_qGet_qGet ta_qGet_qPut ta_qPut_qGet ta_qPut_qPut ta_qOut_qGet ta_qOut_qPut ta_pAtomic_qGet ta_pAtomic_qPut ta_pIf_qGet ta_pIf_qPut ta_pLoop_qGet ta_pLoop_qPut

set_option maxRecDepth 100000 in
set_option maxHeartbeats 4000000 in
theorem mayName_is (h : RMach D lab w br sb bs tv ov st ms) (tl : List Nat) (t : Nat) (ht : st.threads = tl ++ [t]) (htl : t < ms.length) (hn : tl.length < 1000000) (l : List ByteArray) (c : Nat) (hk : ms[t].h.k = .thr l c) (s : St) (b : Nat) (hS : StB w s b) (hz : StSz s) (hlen : (stReads s).length ≤ 2) :
    Calls Tryz.prog 134 #[ptr br, stVal s b] w fun e w' => e = .returned (.bool (st.mayName l s)) ∧ Below w.heap.size w w' := by
  obtain ⟨T, u, F, u', he, hme, hen, hrd⟩ := st_call s b
  have KR := hid (hrd w hS)
  have KL : Hid (∀ W, Below w.heap.size w W → Calls Tryz.prog 136 #[ptr br] W fun e w' => e = .returned (ptr ms[t].b) ∧ w' = W.drew) := hid (fun W hW => last_is (h.below hW) tl t ht htl hn)
  have hth := (h.hd t htl).kind
  rw [hk] at hth
  have KH : Hid (∀ W, Below w.heap.size w W → ∀ x : ByteArray, x.size ≤ maxLen → Calls Tryz.prog 138 #[ptr ms[t].b, .string x] W fun e w' => e = .returned (.bool (hasL l x)) ∧ w' = W) := hid (fun W hW x hx => by
    have hb := lt_of_shape (h.hd t htl).sh
    exact has_is ((hW.cell (p := ⟨ms[t].b, 1, none⟩) hb).trans hth.1) (hth.2.2.keep (Chg.of_below (M := fun _ _ => False) hW) (fun _ e => e)) x hx)
  have KI : Hid (∀ W, Below w.heap.size w W → ∀ x : ByteArray, x.size ≤ maxLen → Calls Tryz.prog 129 #[ptr br, .string x] W fun e w' => e = .returned (.bool (st.isSh x)) ∧ Below w.heap.size w w') := hid (fun W hW x hx => (isShared_is (h.below hW) x hx).mono fun e w' ⟨h1, h2⟩ => ⟨h1, hW.trans (h2.mono hW.size)⟩)
  have KT : Hid (∀ W, Below w.heap.size w W → Calls Tryz.prog 137 #[.iface T u] W fun e w' => e = .returned (.string (stTo s)) ∧ Below w.heap.size w w') := hid (fun W hW => by rw [← he]; exact (target_is s b W).mono fun e w' ⟨h1, h2⟩ => ⟨h1, hW.trans (h2.mono hW.size)⟩)
  have HE := hid he
  have HZ := hid hz
  rw [he]
  clear h hS hrd he hth hz ht hk hn
  generalize ms[t].b = tb at *
  clear htl
  go_enter Tryz.func134, Tryz.ntmps134
  go_wp2_with fail
  refine KR.out.mono ?_
  rintro e w1 ⟨a, cp, rfl, b1, hc⟩
  have B1 := hid b1
  have HC := hid hc
  clear b1 hc KR
  go_wp2
  go_loopw [12] (fun v wr => ∃ k : Nat, k ≤ (stReads s).length ∧ v = .int .i64 k ∧ Hid (Below w1.heap.size w1 wr) ∧ Hid (∀ j (h : j < (stReads s).length), j < k → ((stReads s)[j].name.toList.isEmpty || hasL l (stReads s)[j].name) = true)) (fun v _ => (stReads s).length - (intOf v).toNat)
  case atStart => exact ⟨0, Nat.zero_le _, rfl, Below.refl _ _, fun j _ hj => by omega⟩
  case round =>
    obtain ⟨k, hkl, rfl, HB, HP⟩ := hrel
    have HW : Hid (Below w.heap.size w wr) := B1.out.trans (HB.out.mono B1.out.size)
    by_cases hlt : k < (stReads s).length
    · have hlt' : (k : Int) < ((stReads s).length : Int) := by omega
      obtain ⟨g, rfl, hg, q1, q2⟩ := HC.out k hlt
      have r1 := (HB.out.cell (p := ⟨g, k * 2, none⟩) hg).trans q1
      have r2 := (HB.out.cell (p := ⟨g, k * 2 + 1, none⟩) hg).trans q2
      have hxs := HZ.out.rd _ (List.getElem_mem hlt)
      clear q1 q2
      generalize hx : (stReads s)[k] = x at r1 r2 hxs
      have HX := hid hx
      clear hx
      have BA : Hid (Below w.heap.size w (wr.alloc (.cells #[.string x.name, .int .i64 x.num] 302)).drew) := hid ((HW.out.alloc HW.out.size _).drew)
      have BA2 : Hid (Below w1.heap.size w1 (wr.alloc (.cells #[.string x.name, .int .i64 x.num] 302)).drew) := hid ((HB.out.alloc HB.out.size _).drew)
      cases hem : x.name.toList.isEmpty with
      | true =>
        have HP2 : Hid (∀ j (h : j < (stReads s).length), j < k + 1 → ((stReads s)[j].name.toList.isEmpty || hasL l (stReads s)[j].name) = true) := fun j hj hjk => by
          by_cases e : j = k
          · subst e; rw [HX.out, hem]; rfl
          · exact HP.out j hj (by omega)
        go_wp2_with fail
        go_region
        all_goals
          go_wp2
          go_roundw
          case rel => exact ⟨k + 1, by omega, by go_num, BA2, HP2⟩
          case measure => simp [intOf]; omega
      | false =>
        cases hha : hasL l x.name with
        | true =>
          have HP2 : Hid (∀ j (h : j < (stReads s).length), j < k + 1 → ((stReads s)[j].name.toList.isEmpty || hasL l (stReads s)[j].name) = true) := fun j hj hjk => by
            by_cases e : j = k
            · subst e; rw [HX.out, hha]; simp
            · exact HP.out j hj (by omega)
          go_wp2_with fail
          go_region_law (first
            | (go_simp; go_at_call 136; refine (KL.out _ BA.out).mono ?_; rintro e w2 ⟨rfl, rfl⟩)
            | (go_simp; go_at_call 138; refine (KH.out _ BA.out.drew x.name hxs).mono ?_; rintro e w2 ⟨rfl, rfl⟩; rw [hha]))
          all_goals
            go_wp2
            go_roundw
            case rel => exact ⟨k + 1, by omega, by go_num, BA2.out.drew, HP2⟩
            case measure => simp [intOf]; omega
        | false =>
          have HF : Hid (st.mayName l s = false) := by
            have : (stReads s).all (fun v => v.name.toList.isEmpty || hasL l v.name) = false := List.all_eq_false.2 ⟨(stReads s)[k], List.getElem_mem hlt, by rw [HX.out, hem, hha]; simp⟩
            show (_ && _) = false
            rw [this]
            rfl
          go_wp2_with fail
          go_region_law (first
            | (go_simp; go_at_call 136; refine (KL.out _ BA.out).mono ?_; rintro e w2 ⟨rfl, rfl⟩)
            | (go_simp; go_at_call 138; refine (KH.out _ BA.out.drew x.name hxs).mono ?_; rintro e w2 ⟨rfl, rfl⟩; rw [hha]))
          all_goals
            go_wp2
            go_ret
            exact ⟨by rw [HF.out]; rfl, BA.out.drew⟩
    · have hlt' : ¬ (k : Int) < ((stReads s).length : Int) := by omega
      have HA : Hid ((stReads s).all (fun v => v.name.toList.isEmpty || hasL l v.name) = true) := hid (List.all_eq_true.2 fun v hv => by
        obtain ⟨i, hi, rfl⟩ := List.getElem_of_mem hv
        exact HP.out i hi (by omega))
      go_wp2_with fail
      refine (KT.out wr HW.out).mono ?_
      rintro e w2 ⟨rfl, b2⟩
      have B2 := hid b2
      clear b2
      go_wp2_with fail
      refine (KI.out w2 B2.out _ HZ.out.to).mono ?_
      rintro e w3 ⟨rfl, b3⟩
      have B3 := hid b3
      clear b3
      cases hsh : st.isSh (stTo s) with
      | true =>
        have HF : Hid (st.mayName l s = false) := by
          show (_ && (!st.isSh (stTo s) && _)) = false
          rw [hsh]
          simp
        go_wp2
        go_ret
        exact ⟨by rw [HF.out]; rfl, B3.out⟩
      | false =>
        have HM : Hid (st.mayName l s = (match stOf2 s with | some f => st.isSh f | none => true)) := by
          show (_ && (!st.isSh (stTo s) && _)) = _
          rw [hsh, HA.out]
          simp
        have HEo := HE.out
        rcases s with ⟨to, y⟩ | ⟨to, o, y, z⟩ | ⟨to, f, y⟩ | ⟨f, y, z⟩ | y | ⟨⟩ | y | n
        · obtain ⟨rfl, rfl⟩ : 328 = T ∧ _ = u := by simpa [stVal, stV] using HEo
          go_wp2
          go_ret
          exact ⟨by rw [HM.out]; rfl, B3.out⟩
        · obtain ⟨rfl, rfl⟩ : 332 = T ∧ _ = u := by simpa [stVal, stV] using HEo
          go_wp2
          go_ret
          exact ⟨by rw [HM.out]; rfl, B3.out⟩
        · obtain ⟨rfl, rfl⟩ : 307 = T ∧ _ = u := by simpa [stVal, stV] using HEo
          go_wp2_with fail
          refine (KI.out _ (B3.out.alloc B3.out.size _) f (HZ.out.of f rfl)).mono ?_
          rintro e w4 ⟨rfl, b4⟩
          have B4 := hid b4
          clear b4
          go_wp2
          go_ret
          exact ⟨by rw [HM.out]; rfl, B4.out⟩
        · obtain ⟨rfl, rfl⟩ : 309 = T ∧ _ = u := by simpa [stVal, stV] using HEo
          go_wp2_with fail
          refine (KI.out _ (B3.out.alloc B3.out.size _) f (HZ.out.of f rfl)).mono ?_
          rintro e w4 ⟨rfl, b4⟩
          have B4 := hid b4
          clear b4
          go_wp2
          go_ret
          exact ⟨by rw [HM.out]; rfl, B4.out⟩
        · obtain ⟨rfl, rfl⟩ : 311 = T ∧ _ = u := by simpa [stVal, stV] using HEo
          go_wp2
          go_ret
          exact ⟨by rw [HM.out]; rfl, B3.out⟩
        · obtain ⟨rfl, rfl⟩ : 231 = T ∧ ptr b = u := by simpa [stVal] using HEo
          go_wp2
          go_ret
          exact ⟨by rw [HM.out]; rfl, B3.out⟩
        · obtain ⟨rfl, rfl⟩ : 312 = T ∧ ptr b = u := by simpa [stVal] using HEo
          go_wp2
          go_ret
          exact ⟨by rw [HM.out]; rfl, B3.out⟩
        · obtain ⟨rfl, rfl⟩ : 315 = T ∧ ptr b = u := by simpa [stVal] using HEo
          go_wp2
          go_ret
          exact ⟨by rw [HM.out]; rfl, B3.out⟩
end
end Go.Proofs.YtfhkfnoajbbfdabGreatDoor

/- Whether there is room for a statement more. -/
namespace Go.Proofs.YtfhkfnoajbbfdabGreatDoor
open Go.RowKit

def stHolds : St → Bool
  | .inr (.inr (.inr (.inr (.inr (.inl ()))))) => true
  | .inr (.inr (.inr (.inr (.inr (.inr (.inl _)))))) => true
  | .inr (.inr (.inr (.inr (.inr (.inr (.inr _)))))) => true
  | _ => false

/-- May the thread have it? l: its local variables, c: how many statements it has. -/
def RS.hasRoom (st : RS) (l : List ByteArray) (c : Nat) (s : St) : Bool := !decide (c = 14) && (!(!(stTo s).toList.isEmpty && (!hasL l (stTo s) && decide (l.length = 4))) && (!stHolds s || decide (st.opn.length ≤ 3)))

/-- What a statement is as a holder. -/
theorem hold_ta (s : St) (b : Nat) : ∃ T u x, stVal s b = .iface T u ∧ ∀ w, (Instr.typeAssert (.iface T u) 222 322 true).run Tryz.prog w = .ok (.tuple #[x, .bool (stHolds s)]) w := by
  rcases s with ⟨to, a⟩ | ⟨to, k, a, c⟩ | ⟨to, f, a⟩ | ⟨f, a, c⟩ | a | ⟨⟩ | a | n
  · exact ⟨_, _, _, rfl, ta_qSet_holder _⟩
  · exact ⟨_, _, _, rfl, ta_qOperate_holder _⟩
  · exact ⟨_, _, _, rfl, ta_qGet_holder _⟩
  · exact ⟨_, _, _, rfl, ta_qPut_holder _⟩
  · exact ⟨_, _, _, rfl, ta_qOut_holder _⟩
  · exact ⟨_, _, _, rfl, ta_pAtomic_holder _⟩
  · exact ⟨_, _, _, rfl, ta_pIf_holder _⟩
  · exact ⟨_, _, _, rfl, ta_pLoop_holder _⟩

section
variable {D : Nat → Prop} {lab : Nat → Nat × Nat} {w : World} {br sb bs : Nat} {tv ov : Value} {st : RS} {ms : List HM}

set_option maxRecDepth 100000 in
set_option maxHeartbeats 4000000 in
theorem hasRoom_is (h : RMach D lab w br sb bs tv ov st ms) (ho : st.opnOk) (tl : List Nat) (t : Nat) (ht : st.threads = tl ++ [t]) (htl : t < ms.length) (hn : tl.length < 1000000) (l : List ByteArray) (c : Nat) (hk : ms[t].h.k = .thr l c) (s : St) (b : Nat) (hz : StSz s) :
    Calls Tryz.prog 135 #[ptr br, stVal s b] w fun e w' => e = .returned (.bool (st.hasRoom l c s)) ∧ Below w.heap.size w w' := by
  obtain ⟨T, u, x, he, hta⟩ := hold_ta s b
  have KL := hid (last_is h tl t ht htl hn)
  have hth := (h.hd t htl).kind
  rw [hk] at hth
  have hb := lt_of_shape (h.hd t htl).sh
  have bd : Below w.heap.size w w.drew := below_drew _ w
  have KT : Hid (Calls Tryz.prog 137 #[.iface T u] w.drew fun e w' => e = .returned (.string (stTo s)) ∧ Below w.heap.size w w') := hid (by rw [← he]; exact (target_is s b _).mono fun e w' ⟨h1, h2⟩ => ⟨h1, bd.trans h2⟩)
  have KH : Hid (∀ W, Below w.heap.size w W → Calls Tryz.prog 138 #[ptr ms[t].b, .string (stTo s)] W fun e w' => e = .returned (.bool (hasL l (stTo s))) ∧ w' = W) := hid (fun W hW =>
    has_is ((hW.cell (p := ⟨ms[t].b, 1, none⟩) hb).trans hth.1) (hth.2.2.keep (Chg.of_below (M := fun _ _ => False) hW) (fun _ e => e)) _ hz.to)
  have HL : Hid (∀ W, Below w.heap.size w W → ∀ ty, (Builtin.len_ #[157] ty #[.map (some ms[t].mb)]).run Tryz.prog W = .ok (.int .i64 l.length) W) := hid (fun W hW ty => (hth.2.2.keep (Chg.of_below (M := fun _ _ => False) hW) (fun _ e => e)).len Tryz.underlying157 ty)
  have HC : Hid (∀ W, Below w.heap.size w W → W.cell? ⟨ms[t].b, 1, none⟩ = some (.map (some ms[t].mb)) ∧ W.cell? ⟨br, 3, none⟩ = some ov) := hid (fun W hW => ⟨(hW.cell (p := ⟨ms[t].b, 1, none⟩) hb).trans hth.1, (hW.cell (p := ⟨br, 3, none⟩) (lt_of_shape h.sh)).trans h.c3⟩)
  have hc2 := hth.2.1
  obtain ⟨oa, ok, hov⟩ : ∃ a k, ov = .slice a st.opn.length k := by
    rcases h.orow.2 with ⟨e1, e2⟩ | ⟨g', cap', cur, e1, _⟩
    · exact ⟨none, 0, by rw [e1, e2]⟩
    · exact ⟨_, _, e1⟩
  subst hov
  have ho4 := ho.1
  rw [he]
  clear h hth hz ht hk hn ho he hb bd
  generalize ms[t].b = tb at *
  generalize ms[t].mb = tm at *
  clear htl
  unfold RS.hasRoom
  generalize stTo s = nm at *
  generalize hhs : stHolds s = hs at *
  clear hhs
  by_cases hc : c = 14
  · subst hc
    go_enter Tryz.func135, Tryz.ntmps135
    go_wp2_with fail
    refine KL.out.mono ?_
    rintro e w1 ⟨rfl, rfl⟩
    go_wp2
    go_ret
    exact ⟨by simp, below_drew _ w⟩
  · have hc' : ((c : Int) == 14) = false := by simpa using (show ¬ (c : Int) = 14 by omega)
    have hcd : decide (c = 14) = false := by simpa using hc
    rw [hcd]
    go_enter Tryz.func135, Tryz.ntmps135
    go_wp2_with fail
    refine KL.out.mono ?_
    rintro e w1 ⟨rfl, rfl⟩
    go_wp2_with fail
    refine KT.out.mono ?_
    rintro e w2 ⟨rfl, b2⟩
    have B2 := hid b2
    obtain ⟨d1, d3⟩ := HC.out w2 b2
    have hlen := HL.out w2 b2
    have KH2 := hid (KH.out w2 b2)
    clear b2 KT KL HC HL KH
    cases hem : nm.toList.isEmpty with
    | true =>
      cases hs with
      | true =>
        by_cases h3 : st.opn.length ≤ 3
        · have h3' : (st.opn.length : Int) ≤ 3 := by omega
          go_wp2
          go_ret
          exact ⟨by first | (simp [hem, h3]; done) | (simp [hem, h3]; omega), B2.out⟩
        · have h3' : ¬ (st.opn.length : Int) ≤ 3 := by omega
          go_wp2
          go_ret
          exact ⟨by first | (simp [hem, h3]; done) | (simp [hem, h3]; omega), B2.out⟩
      | false =>
        go_wp2
        go_ret
        exact ⟨by first | (simp [hem]; done) | (simp [hem]; omega), B2.out⟩
    | false =>
      cases hha : hasL l nm with
      | true =>
        rw [hha] at KH2
        go_wp2_with fail
        refine KH2.out.mono ?_
        rintro e w3 ⟨rfl, rfl⟩
        cases hs with
        | true =>
          by_cases h3 : st.opn.length ≤ 3
          · have h3' : (st.opn.length : Int) ≤ 3 := by omega
            go_wp2
            go_ret
            exact ⟨by first | (simp [hha, h3]; done) | (simp [hem, hha, h3]; done), B2.out⟩
          · have h3' : ¬ (st.opn.length : Int) ≤ 3 := by omega
            go_wp2
            go_ret
            exact ⟨by first | (simp [hem, h3]; done) | (simp [hem, h3]; omega), B2.out⟩
        | false =>
          go_wp2
          go_ret
          exact ⟨by first | (simp [hha]; done) | (simp [hem, hha]; done), B2.out⟩
      | false =>
        rw [hha] at KH2
        go_wp2_with fail
        refine KH2.out.mono ?_
        rintro e w3 ⟨rfl, rfl⟩
        by_cases hl4 : l.length = 4
        · rw [hl4] at hlen
          go_wp2
          go_ret
          exact ⟨by first | (simp [hem, hha, hl4]; done), B2.out⟩
        · have hl4' : ((l.length : Int) == 4) = false := by simpa using (show ¬ (l.length : Int) = 4 by omega)
          cases hs with
          | true =>
            by_cases h3 : st.opn.length ≤ 3
            · have h3' : (st.opn.length : Int) ≤ 3 := by omega
              go_wp2
              go_ret
              exact ⟨by first | (simp [hem, hl4, h3]; done) | (simp [hem, hl4, h3]; omega), B2.out⟩
            · have h3' : ¬ (st.opn.length : Int) ≤ 3 := by omega
              go_wp2
              go_ret
              exact ⟨by first | (simp [hem, hl4, h3]; done) | (simp [hem, hl4, h3]; omega), B2.out⟩
          | false =>
            go_wp2
            go_ret
            exact ⟨by first | (simp [hem, hl4]; done) | (simp [hem, hl4]; omega), B2.out⟩
end
end Go.Proofs.YtfhkfnoajbbfdabGreatDoor
