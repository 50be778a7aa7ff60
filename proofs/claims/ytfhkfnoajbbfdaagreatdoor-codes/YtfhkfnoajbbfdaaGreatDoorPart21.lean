import Derived.Test.YtfhkfnoajbbfdaaGreatDoorPart09
import Derived.Test.YtfhkfnoajbbfdaaGreatDoorPart20
import Derived.Deep.RegionLaw
/- codes.Read and commits.Load, walked. -/
namespace Go.Proofs.YtfhkfnoajbbfdaaGreatDoor
open Go.RowKit

set_option maxRecDepth 100000 in
set_option maxHeartbeats 1000000 in
theorem codesRead_walk (W : World) (s : ByteArray) (Post : World → Prop)
    (hread : Hid (Calls Tryz.prog 105 #[.string s, .int .i64 131072, .func (.func 106) #[] #[ptr W.heap.size]] (W.alloc (.cells #[.slice none 0 0] 132)) fun e w' => e = .returned .nilIface ∧ Post w' ∧ ∃ a k c, w'.cell? ⟨W.heap.size, 0, none⟩ = some (.slice a k c))) :
    Calls Tryz.prog 75 #[.string s] W fun e w' => ∃ a k c, e = .returned (.tuple #[.slice a k c, .nilIface]) ∧ w'.cell? ⟨W.heap.size, 0, none⟩ = some (.slice a k c) ∧ Post w' := by
  have hmf : ∀ (fn : Fn) (first cap : Array Value) (w : World), (Instr.makeFunc fn first cap).run Tryz.prog w = .ok (.func fn first cap) w := fun _ _ _ _ => rfl
  go_enter Tryz.func75, Tryz.ntmps75
  go_wp2_with fail
  refine hread.out.mono ?_
  rintro e w1 ⟨rfl, hp, a, k, c, hc⟩
  have HP := hid hp
  clear hp hread
  go_wp2
  go_ret2
  exact ⟨a, k, c, rfl, hc, HP.out⟩


theorem step_app1 {P : Program} {w : World} {ops : Array Oper} {o : Oper} {a : Act} {K : Act → World → Prop} {Q : Exit → Act → World → Prop} {E : Prop} (hgd : o.guard = none) (s x : Operand) (t : TypeId)
    (ho : o.op = .call { callee := .builtin .append, args := #[s, x], argTypes := #[t, t] })
    (e : TypeId) (i : TypeInfo) (z : Value) (bytes : Nat) (ht : P.underlying t = some (.slice e)) (hi : P.info? e = some i) (hz : i.zero = some z) (hsize : i.size = 1) (hby : i.bytes = bytes) (hzs : z.cells.size = 1)
    (v : Value) (n : Nat) (xs : List Value) (hs : a.eval s = v) (hown : w.ownsRow 0 e 1 v n xs) (ad : Addr) (u : Value) (hx : a.eval x = .slice (some ad) 1 1) (hu : ∀ j u', [u][j]? = some u' → w.cell? (ad.add j) = some u') (hu1 : u.oneCell' = true) (h63 : n + 1 ≤ maxLen) (hbytes : (n + 1) * bytes ≤ 140737488355328)
    (h : ∀ g cap w', w'.ownsRow 0 e 1 (.slice (some ⟨g, 0, none⟩) (n + 1) cap) (n + 1) (xs ++ [u]) → Chg (fun k _ => v.ownBlock = some k) w w' → (v.ownBlock = some g ∨ g = w.heap.size) → K (a.put o.dst (.slice (some ⟨g, 0, none⟩) (n + 1) cap)) w') :
    if Region.wanted o (yielded ops a.tmps) = true then Oper.wp P o a w K Q else E := by
  have hw : Region.wanted o (yielded ops a.tmps) = true := by simp [Region.wanted, hgd]
  rw [if_pos hw]
  obtain ⟨g, cap, w', hr, h2, h3, h4⟩ := run_app1 (P := P) w t o.type e i z bytes ht hi hz hsize hby hzs v n xs hown ad u hu hu1 h63 hbytes
  unfold Oper.wp execOp
  simp only [ho, resolve, invoke, builtin, Sem.run_bind, Sem.run_pure, Result.andThen_ok, List.map_toArray, List.map_cons, List.map_nil, hs, hx, hr]
  exact h g cap w' h2 h3 h4

theorem ld_cell {wr w3 : World} {o1 o2 : Obj} {tv u : Value} {bm : Nat} (hc : Chg (fun j _ => tv.ownBlock = some j) ((wr.drew.alloc o1).alloc o2) w3) (h5 : tv.ownBlock ≠ some bm) (hlt : bm < wr.heap.size) (h : wr.cell? ⟨bm, 256, none⟩ = some u) : w3.cell? ⟨bm, 256, none⟩ = some u :=
  (hc.cell bm 256 (by simp; omega) h5).trans ((World.cell?_alloc_past _ _ _ (by simp; omega)).trans ((World.cell?_alloc_past (w := wr.drew) _ _ _ hlt).trans h))
theorem ld_free {wr w3 : World} {o1 o2 : Obj} {tv : Value} {bm : Nat} (hc : Chg (fun j _ => tv.ownBlock = some j) ((wr.drew.alloc o1).alloc o2) w3) (hlt : bm < wr.heap.size) (h : wr.frozen? ⟨bm, 256, none⟩ = false) : w3.frozen? ⟨bm, 256, none⟩ = false :=
  (hc.frozen bm 256 (by simp; omega)).trans ((World.frozen?_alloc_past _ _ _ (by simp; omega)).trans ((World.frozen?_alloc_past (w := wr.drew) _ _ _ hlt).trans h))

theorem infoPT : (Tryz.prog.info? 141).map (fun i => (i.zero, i.size, i.bytes)) = some (some (.pointer none), 1, 8) := by kernel_rfl

set_option maxRecDepth 100000 in
set_option maxHeartbeats 2000000 in
theorem load_walk (W : World) (s : ByteArray) (n : Nat) (hn : n < 100000) (Start : Nat → World → Prop) (Inv : Nat → Nat → Nat → World → Prop)
    (hread : Hid (Calls Tryz.prog 75 #[.string s] W fun e w' => ∃ g cap, e = .returned (.tuple #[.slice (some ⟨g, 0, none⟩) n cap, .nilIface]) ∧ n ≤ cap ∧ Start g w'))
    (h0 : Hid (∀ g w, Start g w → Inv g w.heap.size 0 (w.alloc (.cells Tryz.zeroCells139 139))))
    (hk : Hid (∀ g bm k w, Inv g bm k w → k < n → ∃ a m c tv xs, w.cell? ⟨g, k, none⟩ = some (.slice a m c) ∧ w.cell? ⟨bm, 256, none⟩ = some tv ∧ w.frozen? ⟨bm, 256, none⟩ = false ∧ w.ownsRow 0 141 1 tv k xs ∧ tv.ownBlock ≠ some bm ∧ bm < w.heap.size ∧
       ∀ q cp w3, w3.ownsRow 0 141 1 (.slice (some ⟨q, 0, none⟩) (k + 1) cp) (k + 1) (xs ++ [ptr w.heap.size]) → Chg (fun j _ => tv.ownBlock = some j) ((w.drew.alloc (.cells (newCells bm (.slice a m c)) 188)).alloc (.cells #[ptr w.heap.size] 141)) w3 → (tv.ownBlock = some q ∨ q = w.heap.size + 2) → Inv g bm (k + 1) (w3.setCell ⟨bm, 256, none⟩ (.slice (some ⟨q, 0, none⟩) (k + 1) cp)))) :
    Calls Tryz.prog 52 #[.string s] W fun e w' => ∃ g bm, e = .returned (.tuple #[ptr bm, .nilIface]) ∧ Inv g bm n w' := by
  obtain ⟨i0, hi, hz0, hz1, hz2⟩ := info_parts infoPT
  go_enter Tryz.func52, Tryz.ntmps52
  go_wp2_with fail
  refine hread.out.mono ?_
  rintro e w1 ⟨g, cap, rfl, hnc, hp⟩
  have HP := hid (h0.out g w1 hp)
  clear hp hread h0
  go_wp2
  go_loopw [21] (fun v wr => ∃ k : Nat, k ≤ n ∧ v = .int .i64 k ∧ Inv g w1.heap.size k wr) (fun v _ => n - (intOf v).toNat)
  case atStart => exact ⟨0, by omega, rfl, HP.out⟩
  case round =>
    obtain ⟨k, hkn, rfl, hI⟩ := hrel
    have HI := hid hI
    clear hI HP
    by_cases hlt : k < n
    · have hlt' : (k : Int) < n := by omega
      obtain ⟨a, m, c, tv, xs, q1, q2, q3, q4, q5, q6, q7⟩ := hk.out _ _ _ _ HI.out hlt
      have Q4 := hid q4
      have Q7 := hid q7
      have Q5 := hid q5
      have hl1 : k + 1 ≤ maxLen := by unfold maxLen; omega
      have hl2 : (k + 1) * 8 ≤ 140737488355328 := by omega
      have O1 : Hid (((wr.drew.alloc (.cells (newCells w1.heap.size (.slice a m c)) 188)).alloc (.cells #[ptr wr.heap.size] 141)).ownsRow 0 141 1 tv k xs) := (World.ownsRow.alloc (World.ownsRow.alloc (w := wr.drew) q4 _) _)
      have C1 : Hid (∀ j u', [ptr wr.heap.size][j]? = some u' → ((wr.drew.alloc (.cells (newCells w1.heap.size (.slice a m c)) 188)).alloc (.cells #[ptr wr.heap.size] 141)).cell? ((⟨wr.heap.size + 1, 0, none⟩ : Addr).add j) = some u') := by
        have := cell_one_new (wr.drew.alloc (.cells (newCells w1.heap.size (.slice a m c)) 188)) (ptr wr.heap.size) 141
        have hs : (wr.drew.alloc (.cells (newCells w1.heap.size (.slice a m c)) 188)).heap.size = wr.heap.size + 1 := by simp
        rw [hs] at this
        exact this
      clear q4 q7 q5 HI hk
      go_wp2_with fail
      go_region_law (first
        | (go_simp; go_at_call 76; refine (newThread_ok _ _ _ _ _).mono ?_; rintro e w' ⟨rfl, rfl⟩)
        | (refine step_app1 rfl (.tmp 29) (.tmp 35) 137 rfl 141 i0 (.pointer none) 8 Tryz.underlying137 hi hz0 hz1 hz2 rfl tv k xs rfl O1.out ⟨wr.heap.size + 1, 0, none⟩ (ptr wr.heap.size) rfl C1.out rfl hl1 hl2 ?_; intro q cp w3 ho hc hg; have hcb := ld_cell hc Q5.out q6 q2; have hfb := ld_free hc q6 q3; have HO := hid ho; have HC := hid hc; have HG := hid hg; clear ho hc hg))
      all_goals
        go_wp2
        go_roundw
        case rel => exact ⟨k + 1, by omega, by go_num, Q7.out q cp w3 HO.out HC.out (HG.out.imp id (fun e => e.trans (by simp)))⟩
        case measure => simp [intOf]; omega
    · have hlt' : ¬ (k : Int) < n := by omega
      obtain rfl : k = n := by omega
      go_wp2
      go_ret2
      exact ⟨_, _, rfl, HI.out⟩
end Go.Proofs.YtfhkfnoajbbfdaaGreatDoor

/- A text without fault: what codes.Read and commits.Load make of it. -/
namespace Go.Proofs.YtfhkfnoajbbfdaaGreatDoor
open Go.RowKit

/-- The lines of a text, and what they make of the threads read so far. -/
def LinesTo (wd : Nat → ByteArray) : List (List UInt8) → List UInt8 → List (List Ic) → List (List Ic) → Prop
  | [], r, acc, fin => r = [] ∧ acc = fin
  | l :: ls, r, acc, fin => ∃ r' acc', Lib.cut r [10] = (l, r', true) ∧ LineTo wd (wordsOf l) acc acc' ∧ LinesTo wd ls r' acc' fin

/-- What holds between two lines. W: the world in which codes.Read began. -/
def RInv (W : World) (wd : Nat → ByteArray) (cs : List (List Ic)) (r : List UInt8) (_j : Nat) (w : World) : Prop :=
  ∃ ls acc v xs, LinesTo wd ls r acc cs ∧ w.cell? ⟨W.heap.size, 0, none⟩ = some v ∧ w.shape? W.heap.size = some (132, 1) ∧ w.frozen? ⟨W.heap.size, 0, none⟩ = false ∧ RowsAt W.heap.size w v acc xs ∧ Below W.heap.size W w ∧
    w.cell? ⟨W.heap.size + 1, 0, none⟩ = some .nilIface ∧ w.frozen? ⟨W.heap.size + 1, 0, none⟩ = false ∧ w.shape? (W.heap.size + 1) = some (96, 1)

theorem shape_new (w : World) (cs : Array Value) (t : TypeId) : (w.alloc (.cells cs t)).shape? w.heap.size = some (t, cs.size) := by
  have e : (w.alloc (.cells cs t)).heap[w.heap.size]? = some (.cells cs t) := by show (w.heap.push _)[w.heap.size]? = _; exact Array.getElem?_push_size
  unfold World.shape?
  rw [e]

section
variable {W : World} {wd : Nat → ByteArray} {cs : List (List Ic)} {r : List UInt8} {j : Nat} {w : World}

theorem rinv_step (h3 : 3 ≤ W.heap.size) (hw : WordsAt W wd) (h : RInv W wd cs r j w) (hr : r ≠ []) :
    ∃ l r', Lib.cut r [10] = (l, r', true) ∧ r'.length < r.length ∧ l.length ≤ r.length ∧ ∀ n, Calls Tryz.prog 106 #[ptr (w.heap.size + 1), ptr W.heap.size] (((w.drewN n).alloc (.cells ((wordsOf l).map Value.string).toArray 9)).alloc (.cells #[.int .i64 (j + 1), .slice (some ⟨w.heap.size, 0, none⟩) (wordsOf l).length (wordsOf l).length] 257)) fun e w2 => e = .returned (.tuple #[]) ∧ RInv W wd cs r' (j + 1) w2 := by
  obtain ⟨ls, acc, v, xs, hl, a1, a2, a3, a4, a5, a6, a7, a8⟩ := h
  cases ls with
  | nil => exact absurd hl.1 hr
  | cons l ls =>
    obtain ⟨r', acc', b1, b2, b3⟩ := hl
    refine ⟨l, r', b1, (cut_lt b1 hr).1, (cut_lt b1 hr).2, fun n => ?_⟩
    generalize hW1 : ((w.drewN n).alloc (.cells ((wordsOf l).map Value.string).toArray 9)).alloc (.cells #[.int .i64 (j + 1), .slice (some ⟨w.heap.size, 0, none⟩) (wordsOf l).length (wordsOf l).length] 257) = w1
    have hL : LineAt w1 (w.heap.size + 1) (j + 1) w.heap.size (wordsOf l) := hW1 ▸ lineAt_new (w := w.drewN n)
    have hws : w1.shape? w.heap.size = some (9, (wordsOf l).length) := by
      rw [← hW1]
      refine (shape_of_block (Below.heap_alloc _ _ _ (by simp))).trans ?_
      have := shape_new (w.drewN n) ((wordsOf l).map Value.string).toArray 9
      rw [show ((wordsOf l).map Value.string).toArray.size = (wordsOf l).length from by simp] at this
      exact this
    have hb : Below w.heap.size w w1 := hW1 ▸ ((below_drewN w.heap.size w n).alloc (Nat.le_refl _) _).alloc (by simp) _
    have hB : W.heap.size ≤ w.heap.size := a5.size
    have lt1 : W.heap.size < w.heap.size := lt_of_shape a2
    have lt2 : W.heap.size + 1 < w.heap.size := lt_of_shape a8
    have hbW : Below W.heap.size W w1 := a5.trans (hb.mono hB)
    have hc1 : Chg (fun _ _ => False) w w1 := Chg.of_below hb
    have hw1 : WordsAt w1 wd := fun i hi => (hbW.cell (p := ⟨2, i, none⟩) (show 2 < W.heap.size by omega)).trans (hw i hi)
    have s2 := (hc1.shape _ lt1).trans a2
    have s8 := (hc1.shape _ lt2).trans a8
    refine (take_ok (Nat.le_trans hB hb.size) h3 hL (by omega) hws ((hc1.cell _ 0 lt1 (fun e => e)).trans a1) s2 ((hc1.frozen _ 0 lt1).trans a3) (a4.keep hc1 (fun _ _ _ e => e)) hw1 b2).mono ?_
    rintro e w2 ⟨rfl, v', xs', c1, c2, c3⟩
    have lt1' := Nat.lt_of_lt_of_le lt1 hb.size
    have lt2' := Nat.lt_of_lt_of_le lt2 hb.size
    have nt : ¬ takeM w1 W.heap.size (w.heap.size + 1) W.heap.size (W.heap.size + 1) 0 := by
      rintro (e | e | e)
      · omega
      · omega
      · exact not_rowy_of s8 (by decide) (by decide) e.2
    refine ⟨rfl, ls, acc', v', xs', b3, c1, (c3.shape _ lt1').trans s2, (c3.frozen _ 0 lt1').trans ((hc1.frozen _ 0 lt1).trans a3), c2, hbW.trans (c3.below (Nat.le_trans hB hb.size) ?_), (c3.cell _ 0 lt2' nt).trans ((hc1.cell _ 0 lt2 (fun e => e)).trans a6), (c3.frozen _ 0 lt2').trans ((hc1.frozen _ 0 lt2).trans a7), (c3.shape _ lt2').trans s8⟩
    rintro k i (e | e | e)
    · omega
    · omega
    · exact e.1

theorem rinv_max {m : Int} (h3 : 3 ≤ W.heap.size) (hm : W.cell? ⟨1, 0, none⟩ = some (.int .i64 m)) (h : RInv W wd cs r j w) : w.cell? ⟨1, 0, none⟩ = some (.int .i64 m) := by
  obtain ⟨ls, acc, v, xs, hl, a1, a2, a3, a4, a5, a6, a7, a8⟩ := h
  exact (a5.cell (p := ⟨1, 0, none⟩) (show 1 < W.heap.size by omega)).trans hm
end

theorem callsRead1 : ∀ args w, (callFunc 106 args).run Tryz.prog w = .ok (.enter 106 args) w := fun _ _ => by kernel_rfl

theorem codesRead_ok {W : World} {wd : Nat → ByteArray} {cs : List (List Ic)} {s : ByteArray} {m : Int} {ls : List (List UInt8)} (hs : s.size ≤ 131072) (hne : s.data.toList ≠ []) (h3 : 3 ≤ W.heap.size) (hm : W.cell? ⟨1, 0, none⟩ = some (.int .i64 m)) (hw : WordsAt W wd) (ht : LinesTo wd ls s.data.toList [] cs) :
    Calls Tryz.prog 75 #[.string s] W fun e w' => ∃ a k c, e = .returned (.tuple #[.slice a k c, .nilIface]) ∧ ∃ xs, RowsAt W.heap.size w' (.slice a k c) cs xs ∧ Below W.heap.size W w' := by
  have hsz : (W.alloc (.cells #[.slice none 0 0] 132)).heap.size = W.heap.size + 1 := by simp
  have hs' : ∀ l : List UInt8, l.length ≤ s.size → (⟨l.toArray⟩ : ByteArray).size < 4294967281 := fun l hl => by
    have : (⟨l.toArray⟩ : ByteArray).size = l.length := by show l.toArray.size = _; simp
    omega
  have k := textRead_walk (W.alloc (.cells #[.slice none 0 0] 132)) s 131072 106 W.heap.size (RInv W wd cs) (by omega) (by omega) hne callsRead1 ?_ ?_ ?_ ?_ ?_
  · refine (codesRead_walk W s (fun w' => ∃ a k c xs, w'.cell? ⟨W.heap.size, 0, none⟩ = some (.slice a k c) ∧ RowsAt W.heap.size w' (.slice a k c) cs xs ∧ Below W.heap.size W w') (k.mono ?_)).mono ?_
    · rintro e w' ⟨rfl, j, w1, ⟨ls', acc, v, xs, hl, a1, a2, a3, a4, a5, a6, a7, a8⟩, rfl⟩
      rw [hsz]
      obtain rfl : acc = cs := by
        cases ls' with
        | nil => exact hl.2
        | cons l ls' =>
          obtain ⟨r', acc', b1, _⟩ := hl
          rw [show Lib.cut [] [10] = ([], [], false) from by decide] at b1
          simp at b1
      obtain ⟨a, kk, c, rfl⟩ : ∃ a kk c, v = .slice a kk c := by
        rcases a4.own.2 with ⟨e1, e2⟩ | ⟨g', cap', cur, e1, _⟩
        · exact ⟨_, _, _, e1⟩
        · exact ⟨_, _, _, e1⟩
      have hset : Chg (fun q i => q = W.heap.size + 1 ∧ i = 0) w1 (w1.setCell ⟨W.heap.size + 1, 0, none⟩ .nilIface) := (Chg.refl _ w1).setCell (fun _ => ⟨rfl, rfl⟩) _
      have cb := (hset.cell W.heap.size 0 (lt_of_shape a2) (fun e => by omega)).trans a1
      refine ⟨rfl, ⟨a, kk, c, xs, cb, a4.keep hset ?_, a5.trans (hset.below a5.size ?_)⟩, a, kk, c, cb⟩
      · rintro q i hq ⟨rfl, _⟩
        exact not_rowy_of a8 (by decide) (by decide) hq
      · rintro q i ⟨rfl, _⟩
        omega
    · rintro e w' ⟨a, kk, c, rfl, h1, a', k', c', xs, h2, h3, h4⟩
      rw [h1] at h2
      simp only [Option.some.injEq, Value.slice.injEq] at h2
      obtain ⟨rfl, rfl, rfl⟩ := h2
      exact ⟨a, kk, c, rfl, xs, h3, h4⟩
  · -- at the start
    have e1 : ∀ o : Obj, Below W.heap.size W ((W.alloc (.cells #[.slice none 0 0] 132)).alloc o) := fun o => ((Below.refl _ W).alloc (Nat.le_refl _) _).alloc (by simp) o
    refine ⟨ls, [], .slice none 0 0, [], ht, ?_, ?_, ?_, ⟨nilRow _ _, ?_, ?_, ?_, ?_⟩, e1 _, ?_, ?_, ?_⟩
    · exact (World.cell?_alloc_past _ _ _ (by simp)).trans (World.cell?_alloc_new W _ _ 0)
    · exact (shape_of_block (Below.heap_alloc _ _ _ (by simp))).trans (shape_new W _ _)
    · exact (World.frozen?_alloc_past _ _ _ (by simp)).trans (by simp)
    · intro i iv hi; simp at hi
    · intro i j iv jv _ hi; simp at hi
    · intro g hg; simp [Value.ownBlock] at hg
    · intro i iv hi; simp at hi
    · rw [← hsz]; exact World.cell?_alloc_new _ _ _ 0
    · rw [← hsz]; simp
    · rw [← hsz]; exact shape_new _ _ _
  · intro r j w hr hi
    exact Tryz.strings_Cut ⟨r.toArray⟩ ⟨#[10]⟩ m w (hs' r hr) (rinv_max h3 hm hi)
  · intro r j w l n hi hl
    have hmx : w.cell? ⟨1, 0, none⟩ = some (.int .i64 m) := rinv_max h3 hm hi
    have hk := Tryz.strings_Split ⟨l.toArray⟩ ⟨#[32]⟩ m (w.drewN n) (hs' l hl) hmx (by decide)
    rw [wordsOf_len]
    exact hk
  · intro r j w hi hr
    exact rinv_step h3 hw hi hr
  · rintro r j w ⟨ls', acc, v, xs, hl, a1, a2, a3, a4, a5, a6, a7, a8⟩
    rw [hsz]
    exact ⟨a6, a7⟩
end Go.Proofs.YtfhkfnoajbbfdaaGreatDoor

/- A text without fault: its machine. -/
namespace Go.Proofs.YtfhkfnoajbbfdaaGreatDoor
open Go.RowKit

theorem zeroMach : Tryz.zeroCells139 = (Array.replicate 256 (.int .i64 0)).push (.slice none 0 0) := by kernel_rfl

theorem newMem (w : World) : MemAt (w.alloc (.cells Tryz.zeroCells139 139)) w.heap.size (fun _ => 0) ∧ (w.alloc (.cells Tryz.zeroCells139 139)).cell? ⟨w.heap.size, 256, none⟩ = some (.slice none 0 0) := by
  refine ⟨⟨?_, ?_, fun j _ => by simp⟩, ?_⟩
  · rw [shape_new, zeroMach]; simp
  · intro j hj
    rw [World.cell?_alloc_new, zeroMach, Array.getElem?_push_lt (by simpa using hj)]
    simp
  · rw [World.cell?_alloc_new, zeroMach, Array.getElem?_push]; simp

section
variable (W : World) (cs : List (List Ic))

def LInv (g bm k : Nat) (w : World) : Prop := ∃ (cap : Nat) (xs : List Value) (bs : List Nat) (tv : Value), RowsAt W.heap.size w (.slice (some ⟨g, 0, none⟩) cs.length cap) cs xs ∧ Below W.heap.size W w ∧ W.heap.size ≤ bm ∧ MemAt w bm (fun _ => 0) ∧ w.cell? ⟨bm, 256, none⟩ = some tv ∧ w.ownsRow 0 141 1 tv k (bs.map ptr) ∧
  (∀ q, tv.ownBlock = some q → W.heap.size ≤ q) ∧ (∀ (j b : Nat), bs[j]? = some b → W.heap.size ≤ b ∧ ∃ iv, xs[j]? = some iv ∧ ThAt w b bm iv (.slice none 0 0) Th.init) ∧ bs.Nodup

variable {W cs}

theorem linv_start {g cap : Nat} {xs : List Value} {w : World} (h : RowsAt W.heap.size w (.slice (some ⟨g, 0, none⟩) cs.length cap) cs xs) (hb : Below W.heap.size W w) : LInv W cs g w.heap.size 0 (w.alloc (.cells Tryz.zeroCells139 139)) := by
  have hc : Chg (fun _ _ => False) w (w.alloc (.cells Tryz.zeroCells139 139)) := (Chg.refl _ w).alloc _
  exact ⟨cap, xs, [], .slice none 0 0, h.keep hc (fun _ _ _ e => e), hb.alloc hb.size _, hb.size, (newMem w).1, (newMem w).2, nilRow _ _, fun q hq => by simp [Value.ownBlock] at hq, fun j b hj => by simp at hj, List.nodup_nil⟩

theorem linv_step {g bm k : Nat} {w : World} (h : LInv W cs g bm k w) (hk : k < cs.length) : ∃ a m c tv xs, w.cell? ⟨g, k, none⟩ = some (.slice a m c) ∧ w.cell? ⟨bm, 256, none⟩ = some tv ∧ w.frozen? ⟨bm, 256, none⟩ = false ∧ w.ownsRow 0 141 1 tv k xs ∧ tv.ownBlock ≠ some bm ∧ bm < w.heap.size ∧
    ∀ q cp w3, w3.ownsRow 0 141 1 (.slice (some ⟨q, 0, none⟩) (k + 1) cp) (k + 1) (xs ++ [ptr w.heap.size]) → Chg (fun j _ => tv.ownBlock = some j) ((w.drew.alloc (.cells (newCells bm (.slice a m c)) 188)).alloc (.cells #[ptr w.heap.size] 141)) w3 → (tv.ownBlock = some q ∨ q = w.heap.size + 2) → LInv W cs g bm (k + 1) (w3.setCell ⟨bm, 256, none⟩ (.slice (some ⟨q, 0, none⟩) (k + 1) cp)) := by
  obtain ⟨cap, xs, bs, tv, h1, h2, h3, h4, h5, h6, h7, h8, h9⟩ := h
  have hlen := h1.len
  obtain ⟨iv, hiv⟩ : ∃ iv, xs[k]? = some iv := ⟨_, List.getElem?_eq_getElem (by omega)⟩
  obtain ⟨co, hco, hrow⟩ := h1.row k iv hiv
  obtain ⟨a, m, c, rfl⟩ : ∃ a m c, iv = .slice a m c := by
    rcases hrow.2 with ⟨e1, _⟩ | ⟨g', cap', cur, e1, _⟩
    · exact ⟨_, _, _, e1⟩
    · exact ⟨_, _, _, e1⟩
  have hbl : bs.length = k := by have := h6.1; simp at this; omega
  have htm : tv.ownBlock ≠ some bm := fun e => by
    obtain ⟨n, hs⟩ := ownsRow_shape h6 bm e
    rw [h4.sh] at hs
    simp at hs
  have hgc := (ownsRow_cell h1.own k hk).1.trans hiv
  refine ⟨a, m, c, tv, bs.map ptr, hgc, h5, h4.free 256 (by omega), h6, htm, h4.lt, ?_⟩
  intro q cp w3 ho hc hq
  have d1 : Chg (fun j (_ : Nat) => tv.ownBlock = some j) w ((w.drew.alloc (.cells (newCells bm (.slice a m c)) 188)).alloc (.cells #[ptr w.heap.size] 141)) := (((Chg.refl _ w).drew).alloc _).alloc _
  have d2 : Chg (fun j (_ : Nat) => tv.ownBlock = some j) w w3 := d1.trans hc
  have d3 : Chg (fun j i => j = bm ∧ i = 256) w3 (w3.setCell ⟨bm, 256, none⟩ (.slice (some ⟨q, 0, none⟩) (k + 1) cp)) := (Chg.refl _ w3).setCell (fun _ => ⟨rfl, rfl⟩) _
  have d4 : Chg (fun j i => tv.ownBlock = some j ∨ (j = bm ∧ i = 256)) w (w3.setCell ⟨bm, 256, none⟩ (.slice (some ⟨q, 0, none⟩) (k + 1) cp)) := (d2.mono (fun _ _ _ e => .inl e)).trans (d3.mono (fun _ _ _ e => .inr e))
  have hbm3 : bm < w3.heap.size := Nat.lt_of_lt_of_le h4.lt d2.size
  have hsq : ∃ n, w3.shape? q = some (141, n) := ownsRow_shape ho q rfl
  have hqb : q ≠ bm := fun e => by
    obtain ⟨n, hs⟩ := hsq
    rw [e, d2.shape bm h4.lt, h4.sh] at hs
    simp at hs
  have hwq : W.heap.size ≤ q := by
    rcases hq with e | e
    · exact h7 q e
    · have := h2.size; omega
  have hrowy : ∀ j i, rowy w j → ¬ (tv.ownBlock = some j ∨ (j = bm ∧ i = 256)) := by
    rintro j i hr (e | e)
    · obtain ⟨n, hs⟩ := ownsRow_shape h6 j e
      exact not_rowy_of hs (by decide) (by decide) hr
    · exact not_rowy_of (e.1 ▸ h4.sh) (by decide) (by decide) hr
  have hcell256 : w3.cell? ⟨bm, 256, none⟩ = some tv := (d2.cell bm 256 h4.lt htm).trans h5
  refine ⟨cap, xs, bs ++ [w.heap.size], .slice (some ⟨q, 0, none⟩) (k + 1) cp, h1.keep d4 hrowy, h2.trans (d4.below h2.size ?_), h3, h4.keep d4 ?_, cell_set_eq hcell256 rfl, ?_, ?_, ?_, ?_⟩
  · rintro j i (e | e)
    · exact h7 j e
    · omega
  · rintro i hi (e | e)
    · exact htm e
    · omega
  · refine ownsRow_chg ?_ d3 (fun g' hg' i e => ?_)
    · simpa using ho
    · simp [Value.ownBlock] at hg'
      exact hqb (hg'.trans e.1)
  · intro q' hq'
    simp [Value.ownBlock] at hq'
    omega
  · intro j b hj
    rw [List.getElem?_append] at hj
    split at hj
    · obtain ⟨e1, iv', e2, e3⟩ := h8 j b hj
      refine ⟨e1, iv', e2, e3.keep d4 ?_ (fun g' hg' => by simp [Value.ownBlock] at hg')⟩
      rintro i (e | e)
      · obtain ⟨n, hs⟩ := ownsRow_shape h6 b e
        rw [e3.sh] at hs
        simp at hs
      · exact e3.ne h4 e.1
    · rename_i hlt
      have hjk : j = k := by
        have := (List.getElem?_eq_some_iff.1 hj).1
        simp at this
        omega
      subst hjk
      simp [hbl] at hj
      subst hj
      refine ⟨h2.size, _, hiv, ?_⟩
      have t0 : ThAt (w.drew.alloc (.cells (newCells bm (.slice a m c)) 188)) w.heap.size bm (.slice a m c) (.slice none 0 0) Th.init := newTh_at w.drew bm (.slice a m c)
      have t1 := t0.below (w' := (w.drew.alloc (.cells (newCells bm (.slice a m c)) 188)).alloc (.cells #[ptr w.heap.size] 141)) ((Below.refl _ _).alloc (Nat.le_refl _) _)
      have t2 := t1.keep hc (fun i e => by
        obtain ⟨n, hs⟩ := ownsRow_shape h6 w.heap.size e
        have := lt_of_shape hs
        omega) (fun g' hg' => by simp [Value.ownBlock] at hg')
      exact t2.keep d3 (fun i e => by have := h4.lt; omega) (fun g' hg' => by simp [Value.ownBlock] at hg')
  · refine List.nodup_append.2 ⟨h9, by simp, ?_⟩
    intro x hx y hy
    simp at hy
    subst hy
    obtain ⟨j, hj, rfl⟩ := List.mem_iff_getElem.1 hx
    obtain ⟨_, iv', _, e3⟩ := h8 j bs[j] (List.getElem?_eq_getElem hj)
    have := e3.lt
    omega

theorem linv_end {g bm : Nat} {w : World} (h : LInv W cs g bm cs.length w) (hne : 0 < cs.length) : MRep (fun k => W.heap.size ≤ k) w bm (cs.map fun c => (Th.init, c)) (fun _ => 0) ∧ Below W.heap.size W w := by
  obtain ⟨cap, xs, bs, tv, h1, h2, h3, h4, h5, h6, h7, h8, h9⟩ := h
  have hlen := h1.len
  have hbl : bs.length = cs.length := by have := h6.1; simp at this; omega
  have hts : ∀ i (hi : i < (bs.zip (xs.zip cs)).length), i < bs.length ∧ i < xs.length ∧ i < cs.length := by
    intro i hi; simp at hi; omega
  refine ⟨⟨(bs.zip (xs.zip cs)).map fun p => { b := p.1, iv := p.2.1, ov := .slice none 0 0, T := Th.init, code := p.2.2 }, ?_, ?_⟩, h2⟩
  · have hl : ((bs.zip (xs.zip cs)).map fun p => ({ b := p.1, iv := p.2.1, ov := .slice none 0 0, T := Th.init, code := p.2.2 } : Tr)).length = cs.length := by simp; omega
    have hget : ∀ i (hi : i < ((bs.zip (xs.zip cs)).map fun p => ({ b := p.1, iv := p.2.1, ov := .slice none 0 0, T := Th.init, code := p.2.2 } : Tr)).length), ((bs.zip (xs.zip cs)).map fun p => ({ b := p.1, iv := p.2.1, ov := .slice none 0 0, T := Th.init, code := p.2.2 } : Tr))[i] = { b := bs[i]'(by omega), iv := xs[i]'(by omega), ov := .slice none 0 0, T := Th.init, code := cs[i]'(by omega) } := by
      intro i hi; simp
    refine ⟨h4, ?_, ?_, ?_, ?_, h3, ?_, ?_⟩
    · rcases h6.2 with ⟨_, e⟩ | ⟨bt, cp, cur, e1, _, e3, _⟩
      · omega
      · subst e1
        obtain ⟨n, hs⟩ := ownsRow_shape h6 bt rfl
        refine ⟨bt, cp, n, by rw [h5, hl], ⟨hs, h7 bt rfl⟩, ?_⟩
        intro i hi
        have hi' : i < bs.length := by omega
        rw [(ownsRow_cell h6 i (by omega)).1, hget i hi]
        simp [hi']
    · intro i hi
      rw [hget i hi]
      obtain ⟨_, iv, e1, e2⟩ := h8 i (bs[i]'(by omega)) (List.getElem?_eq_getElem (by omega))
      rw [List.getElem?_eq_getElem (by omega)] at e1
      cases e1
      exact e2
    · intro i hi
      rw [hget i hi]
      have hxi := List.getElem?_eq_getElem (l := xs) (i := i) (by omega)
      obtain ⟨co, e1, e2⟩ := h1.row i _ hxi
      rw [List.getElem?_eq_getElem (by omega)] at e1
      cases e1
      show CodeAt _ _ (xs[i]'(by omega)) (cs[i]'(by omega))
      have hlow := h1.lowr i _ hxi
      generalize (xs[i]'(by omega)) = iv at e2 hlow
      rcases e2.2 with ⟨q1, q2⟩ | ⟨bi, cp, cur, q1, _⟩
      · exact .inl ⟨q1, List.length_eq_zero_iff.1 q2⟩
      · subst q1
        obtain ⟨n, hs⟩ := ownsRow_shape e2 bi rfl
        refine .inr ⟨bi, cp, n, rfl, ⟨hs, hlow bi rfl⟩, ?_⟩
        intro j hj
        rw [(ownsRow_cell e2 j hj).1]
        simp [hj]
    · intro i j hi hj hij
      rw [hget i hi, hget j hj]
      refine ⟨fun e => ?_, fun k hk => by simp [Value.ownBlock] at hk⟩
      rcases Nat.lt_or_gt_of_ne hij with hlt | hlt
      · exact (List.pairwise_iff_getElem.1 h9) i j (by omega) (by omega) hlt e
      · exact (List.pairwise_iff_getElem.1 h9) j i (by omega) (by omega) hlt e.symm
    · intro i hi
      rw [hget i hi]
      exact (h8 i (bs[i]'(by omega)) (List.getElem?_eq_getElem (by omega))).1
    · intro i hi k hk
      rw [hget i hi] at hk
      simp [Value.ownBlock] at hk
  · apply List.ext_getElem
    · simp; omega
    · intro i h1 h2
      simp
end

theorem mloads {w : World} {wd : Nat → ByteArray} {cs : List (List Ic)} {s : ByteArray} {m : Int} {ls : List (List UInt8)} (hs : s.size ≤ 131072) (hne : s.data.toList ≠ []) (h3 : 3 ≤ w.heap.size) (hm : w.cell? ⟨1, 0, none⟩ = some (.int .i64 m)) (hw : WordsAt w wd) (ht : LinesTo wd ls s.data.toList [] cs) (hc0 : 0 < cs.length) (hc3 : cs.length < 100000) : MLoadsTo w s cs := by
  intro W hW
  have hm' : W.cell? ⟨1, 0, none⟩ = some (.int .i64 m) := (hW.cell (p := ⟨1, 0, none⟩) (show 1 < w.heap.size by omega)).trans hm
  have hw' : WordsAt W wd := fun i hi => (hW.cell (p := ⟨2, i, none⟩) (show 2 < w.heap.size by omega)).trans (hw i hi)
  refine (load_walk W s cs.length hc3 (fun g w1 => ∃ cap xs, RowsAt W.heap.size w1 (.slice (some ⟨g, 0, none⟩) cs.length cap) cs xs ∧ Below W.heap.size W w1) (LInv W cs) ?_ ?_ ?_).mono ?_
  · refine (codesRead_ok hs hne (Nat.le_trans h3 hW.size) hm' hw' ht).mono ?_
    rintro e w1 ⟨a, k, c, rfl, xs, h1, h2⟩
    rcases h1.own.2 with ⟨_, e⟩ | ⟨g, cap, cur, e1, _, _, e4, _⟩
    · omega
    · cases e1
      exact ⟨g, c, rfl, e4, c, xs, h1, h2⟩
  · rintro g w1 ⟨cap, xs, h1, h2⟩
    exact linv_start h1 h2
  · intro g bm k w1 h1 h2
    exact linv_step h1 h2
  · rintro e w1 ⟨g, bm, rfl, h1⟩
    exact ⟨bm, rfl, linv_end h1 hc0⟩
end Go.Proofs.YtfhkfnoajbbfdaaGreatDoor
