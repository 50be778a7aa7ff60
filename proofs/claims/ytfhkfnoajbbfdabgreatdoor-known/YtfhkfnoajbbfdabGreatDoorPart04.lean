import Derived.Test.YtfhkfnoajbbfdabGreatDoorPart03
import Derived.Deep.AppendLies
import Derived.Test.YtfhkfnoajbbfdabGreatDoorPart01
import Derived.Laws.AppendOwn
import Derived.Maps.AppendAt
namespace Go.Proofs.YtfhkfnoajbbfdabGreatDoor
open Go.RowKit Go.Shelf

attribute [local go_sem] Oper.semAt_some

theorem seenIn_hit {l q r : List (Int × Int)} {p : Int × Int} {a m : Int} (hl : l = q ++ [p] ++ r) (hq : ∀ s ∈ q, (s.1 == a) = false) (hp : p.1 = a) : seenIn l a m = p.2 := by
  subst hl
  have h1 : List.find? (fun s : Int × Int => s.1 == a) q = none := by
    rw [List.find?_eq_none]; intro s hs; simp [hq s hs]
  simp [seenIn, List.find?_append, h1, hp]

theorem seenIn_none {l : List (Int × Int)} {a m : Int} (hq : ∀ s ∈ l, (s.1 == a) = false) : seenIn l a m = m := by
  have h1 : List.find? (fun s : Int × Int => s.1 == a) l = none := by
    rw [List.find?_eq_none]; intro s hs; simp [hq s hs]
  simp [seenIn, h1]

theorem backUpto_prefix (x y : Nat → Int) (f c k : Nat) (h : k ≤ c) : ∃ r, backUpto x y f c c = backUpto x y f c k ++ r := by
  induction c - k generalizing k with
  | zero => exact ⟨(backUpto x y f c c).drop k, by
      have : backUpto x y f c k = (backUpto x y f c c).take k := by
        simp only [backUpto, ← List.map_take, List.take_range, Nat.min_eq_left h]
      rw [this, List.take_append_drop]⟩
  | succ _ ih => exact ⟨(backUpto x y f c c).drop k, by
      have : backUpto x y f c k = (backUpto x y f c c).take k := by
        simp only [backUpto, ← List.map_take, List.take_range, Nat.min_eq_left h]
      rw [this, List.take_append_drop]⟩

set_option maxRecDepth 100000 in
set_option maxHeartbeats 2000000 in
theorem load_in (n : Nat) (hn : 4 ≤ n) (b bm f c : Nat) (x y : Nat → Int) (a m : Int) (w : World) (h0 : 0 ≤ a) (h1 : a < 256) (hbm : bm < w.heap.size) (hp : w.cell? ⟨b, 0, none⟩ = some (ptr bm)) (hm : w.cell? ⟨bm, a.toNat, none⟩ = some (.int .i64 m)) (hr : RingAt w b 11 x y f c) :
    CallsIn Fence.wide n Tryz.prog 331 #[ptr b, .int .i64 a] w fun e W' => e = .returned (.int .i64 (seenIn (backUpto x y f c c) a m)) ∧ Below w.heap.size w W' := by
  have h1' : 1 ≤ n := by omega
  have hb := hr.lt
  have HR : Hid (RingAt w b 11 x y f c) := hr
  clear hr
  refine callsIn_of_wp_marks Tryz.func331 rfl trivial ?_ rfl
  simp only [Tryz.ntmps331, List.size_toArray, List.length_cons, List.length_nil, Nat.reduceAdd, Nat.reduceSub, Array.replicate_succ, Array.replicate_zero, List.push_toArray, List.append_toArray, List.nil_append, List.cons_append]
  have hw : ∀ f, Fence.wide.fn f := fun _ => trivial
  gi_wp2_with (gi_at_call 335; refine (callsIn_wide.2 (back_any _ _ _)).mono ?_; rintro e w' ⟨rfl, rfl⟩)
  have bA := ((Boxed.new w 3 (.int .i64 a)).alloc (.cells #[.int .i64 0] 2)).alloc (.cells #[.pointer (some ⟨b, 11, none⟩)] 260)
  have bR := (Boxed.new (w.alloc (.cells #[.int .i64 a] 3)) 2 (.int .i64 0)).alloc (.cells #[.pointer (some ⟨b, 11, none⟩)] 260)
  have bP := Boxed.new ((w.alloc (.cells #[.int .i64 a] 3)).alloc (.cells #[.int .i64 0] 2)) 260 (.pointer (some ⟨b, 11, none⟩))
  simp only [World.size_alloc] at bR bP
  have hB0 : Below w.heap.size w (((w.alloc (.cells #[.int .i64 a] 3)).alloc (.cells #[.int .i64 0] 2)).alloc (.cells #[.pointer (some ⟨b, 11, none⟩)] 260)) := (((Below.refl _ w).alloc (Nat.le_refl _) _).alloc (by simp) _).alloc (by simp; omega) _
  have hsz : (((w.alloc (.cells #[.int .i64 a] 3)).alloc (.cells #[.int .i64 0] 2)).alloc (.cells #[.pointer (some ⟨b, 11, none⟩)] 260)).heap.size = w.heap.size + 3 := by simp
  obtain ⟨W0, hW0⟩ : ∃ W0, ((w.alloc (.cells #[.int .i64 a] 3)).alloc (.cells #[.int .i64 0] 2)).alloc (.cells #[.pointer (some ⟨b, 11, none⟩)] 260) = W0 := ⟨_, rfl⟩
  rw [hW0] at bA bR bP hB0 hsz ⊢
  clear hW0
  have hrW : RingAt W0 b 11 x y f c := HR.out.chg (M := fun _ _ => False) (Chg.of_below hB0) (fun _ _ h => h)
  refine wpIn_rangeFunc_ownH rfl h1' (gf := 337) (lb := #[.pointer (some ⟨w.heap.size + 1 + 1, 0, none⟩)]) rfl trivial (enters_of Tryz.func337 (by kernel_rfl) rfl)
    (back_stops (n - 1) (by omega) (w.heap.size + 1 + 1) W0.heap.size b 11 f c x y W0 (by omega) (by omega) (Nat.le_refl _) bP.cell hrW) belowK_t (belowK_b (Nat.le_refl _)) (Below.refl _ _) (fun _ => rfl)
    (fun pre W => ((Boxed W w.heap.size 3 (.int .i64 a) ∧ Boxed W (w.heap.size + 1) 2 (.int .i64 0)) ∧ ((∀ p ∈ pre, (p.1 == a) = false) ∧ W0.heap.size ≤ W.heap.size)) ∧ Below w.heap.size w W)
    (fun c' pre W => ((c' = .ret ∧ ∃ q p, pre = q ++ [p] ∧ (∀ s ∈ q, (s.1 == a) = false) ∧ p.1 = a ∧ Boxed W (w.heap.size + 1) 2 (.int .i64 p.2))) ∧ Below w.heap.size w W)
    (OwnFrom.and (OwnFrom.and (OwnFrom.and (Own.from (boxed_own _ _ _) _) (Own.from (boxed_own _ _ _) _)) (fun _ _ _ _ hs hg _ => ⟨hs.1, Nat.le_trans hs.2 hg.size⟩)) (ownFrom_below (Nat.le_refl _) (by omega)))
    (fun c' => OwnFrom.and (fun pre X Y row hs hg hr => by obtain ⟨h1, q, p, h2, h3, h4, h5⟩ := hs; exact ⟨h1, q, p, h2, h3, h4, boxed_own _ 2 (fun (_ : Unit) => Value.int .i64 p.2) () X Y row h5 hg (fun r e => (hr r e).2)⟩) (ownFrom_below (Nat.le_refl _) (by omega)))
    ⟨⟨⟨bA, bR⟩, by simp, Nat.le_refl _⟩, hB0⟩
    (fun p a' W => ∃ Bx, w.heap.size + 2 < Bx ∧ W.cell? ⟨Bx, 0, none⟩ = some (.int .i64 p.1) ∧ W.cell? ⟨Bx, 1, none⟩ = some (.int .i64 p.2) ∧ a' = { tmps := #[ptr b, .int .i64 a, undef, .pointer (some ⟨w.heap.size, 0, none⟩), .pointer (some ⟨w.heap.size + 1, 0, none⟩), .pointer (some ⟨Bx, 0, none⟩), ptr b, .pointer (some ⟨b, 0, none⟩), .pointer (some ⟨b, 11, none⟩), .func (.func 337) #[] #[.pointer (some ⟨w.heap.size + 1 + 1, 0, none⟩)], .agg #[.int .i64 p.1, .int .i64 p.2], undef, undef, undef, undef, undef, undef, undef, undef, undef, undef, undef, undef, undef, undef], defers := [] })
    (fun p a' _ X Y row hs hg hr => by obtain ⟨Bx, k1, k2, k3, k4⟩ := hs; exact ⟨Bx, k1, cell_kept k2 hg (fun r e => (hr r e).2), cell_kept k3 hg (fun r e => (hr r e).2), k4⟩)
    ?assign ?body ?done ?stop
  case assign =>
    rintro l pre p W K ⟨⟨⟨bA1, bR1⟩, hq, hWs⟩, hB1⟩ hK
    gi_wp2
    refine hK _ _ ((KeepsOthers.alloc _ _).from _) ((Below.refl _ W).alloc hWs _) ⟨⟨⟨bA1.alloc _, bR1.alloc _⟩, hq, by simp; omega⟩, hB1.alloc hB1.size _⟩ ⟨W.heap.size, by omega, ?_, ?_, rfl⟩
    · simp [go_sem]
    · simp [go_sem]
  case body =>
    rintro l pre p a' W hl _ ⟨⟨⟨bA1, bR1⟩, hq, hWs⟩, hB1⟩ ⟨Bx, hBx, k1, k2, rfl⟩ hlt
    have cA := bA1.cell
    have cR := bR1.cell
    have zR := bR1.frozen
    by_cases hpa : p.1 = a
    · have hpb : (p.1 == a) = true := by simp [hpa]
      gi_wp2
      exact ⟨(KeepsOthers.setCell _ _ _).from _, ⟨rfl, pre, p, rfl, hq, hpa, bR1.set _⟩, hB1.setCell (p := ⟨w.heap.size + 1, 0, none⟩) (by simp) _⟩
    · have hpb : (p.1 == a) = false := by simp [hpa]
      gi_wp2
      exact ⟨KeepsFrom.refl _ _, Below.refl _ _, ⟨⟨bA1, bR1⟩, fun s hs => (List.mem_append.1 hs).elim (hq s) (fun e => by simp at e; subst e; exact hpb), hWs⟩, hB1⟩
  case done =>
    rintro D ys W hD rfl ⟨⟨⟨bA1, bR1⟩, hq, hWs⟩, hB1⟩ hK
    obtain ⟨j, rfl⟩ := Int.eq_ofNat_of_zero_le h0
    simp only [Int.toNat_natCast] at hm
    have cA := bA1.cell
    have cR := bR1.cell
    have zR := bR1.frozen
    have hp1 : W.cell? ⟨b, 0, none⟩ = some (.pointer (some ⟨bm, 0, none⟩)) := (hB1.cell (p := ⟨b, 0, none⟩) hb).trans hp
    have hm1 : W.cell? ⟨bm, j, none⟩ = some (.int .i64 m) := (hB1.cell (p := ⟨bm, j, none⟩) hbm).trans hm
    have HD : Hid (w.heap.size + 3 ≤ D) := show w.heap.size + 3 ≤ D by omega
    have HK : Hid (W.heap[D]? = some (.deferred (some []))) := hK
    clear hK hm hp
    gi_wp2
    gi_region
    all_goals gi_wp2
    all_goals
      have hK' : ((W.setCell ⟨w.heap.size + 1, 0, none⟩ (.int .i64 m)).drew).heap[D]? = some (.deferred (some [])) := (KeepsOthers.setCell W ⟨w.heap.size + 1, 0, none⟩ (.int .i64 m)).same D _ HK.out rfl
      refine ⟨by simp, .inl ⟨_, _, rfl, run_takeDeferred hK', ?_⟩⟩
      have hc5 := cell_kept (show ((W.setCell ⟨w.heap.size + 1, 0, none⟩ (.int .i64 m)).drew).cell? ⟨w.heap.size + 1, 0, none⟩ = some (.int .i64 m) from (bR1.set (.int .i64 m)).cell) (grownBy_putObj' _ D (.deferred none)) (fun r e => by cases e; exact ⟨_, hK', rfl⟩)
      refine ⟨.int .i64 m, ?_, by rw [seenIn_none hq], ((hB1.setCell (p := ⟨w.heap.size + 1, 0, none⟩) (by simp) _).drew).trans (belowK_b (w := w) (Nat.le_refl _) _ D _ _ (by have := HD.out; omega) hK' rfl rfl)⟩
      simp [results, Tryz.f331, go_sem, hc5]
  case stop =>
    rintro D c' pre W hD ⟨k, hk, rfl⟩ ⟨⟨rfl, q, p, h2, h3, h4, h5⟩, hB1⟩ hK
    gi_wp2
    refine ⟨by simp, .inl ⟨_, _, rfl, run_takeDeferred hK, ?_⟩⟩
    have hc5 := cell_kept h5.cell (grownBy_putObj' _ D (.deferred none)) (fun r e => by cases e; exact ⟨_, hK, rfl⟩)
    obtain ⟨r, hr⟩ := backUpto_prefix x y f c k hk
    refine ⟨.int .i64 p.2, ?_, by rw [seenIn_hit (hr.trans (by rw [h2])) h3 h4], hB1.trans (belowK_b (w := w) (Nat.le_refl _) W D _ _ (by omega) hK rfl rfl)⟩
    simp [results, Tryz.f331, go_sem, hc5]
theorem load_any (b bm f c : Nat) (x y : Nat → Int) (a m : Int) (w : World) (h0 : 0 ≤ a) (h1 : a < 256) (hbm : bm < w.heap.size) (hp : w.cell? ⟨b, 0, none⟩ = some (ptr bm)) (hm : w.cell? ⟨bm, a.toNat, none⟩ = some (.int .i64 m)) (hr : RingAt w b 11 x y f c) :
    Calls Tryz.prog 331 #[ptr b, .int .i64 a] w fun e W' => e = .returned (.int .i64 (seenIn (backUpto x y f c c) a m)) ∧ Below w.heap.size w W' :=
  callsIn_wide.1 (load_in 4 (Nat.le_refl _) b bm f c x y a m w h0 h1 hbm hp hm hr)

end Go.Proofs.YtfhkfnoajbbfdabGreatDoor

namespace Go.Proofs.YtfhkfnoajbbfdabGreatDoor
open Go.RowKit

/-- What waits, the oldest first: a ring that holds the list q. -/
def RingQ (w : World) (b o : Nat) (q : List (Int × Int)) : Prop :=
  ∃ x y f, RingAt w b o x y f q.length ∧ ∀ i (h : i < q.length), x ((f + i) % 4) = q[i].1 ∧ y ((f + i) % 4) = q[i].2

theorem RingQ.lt {w : World} {b o : Nat} {q : List (Int × Int)} (h : RingQ w b o q) : b < w.heap.size := let ⟨_, _, _, h, _⟩ := h; h.lt
theorem RingQ.le {w : World} {b o : Nat} {q : List (Int × Int)} (h : RingQ w b o q) : q.length ≤ 4 := let ⟨_, _, _, h, _⟩ := h; h.count
theorem RingQ.count {w : World} {b o : Nat} {q : List (Int × Int)} (h : RingQ w b o q) : w.cell? ⟨b, o + 9, none⟩ = some (.int .i64 (q.length : Int)) := let ⟨_, _, _, h, _⟩ := h; h.c9

theorem RingQ.chg {w w' : World} {b o : Nat} {q : List (Int × Int)} {M : Nat → Nat → Prop} (h : RingQ w b o q) (hc : Chg M w w') (hM : ∀ j, j < 10 → ¬ M b (o + j)) : RingQ w' b o q :=
  let ⟨x, y, f, hr, hq⟩ := h; ⟨x, y, f, hr.chg hc hM, hq⟩

theorem backUpto_reverse {x y : Nat → Int} {f : Nat} {q : List (Int × Int)} (hq : ∀ i (h : i < q.length), x ((f + i) % 4) = q[i].1 ∧ y ((f + i) % 4) = q[i].2) : backUpto x y f q.length q.length = q.reverse := by
  apply List.ext_getElem
  · simp [backUpto]
  · intro i h1 h2
    simp [backUpto] at h1
    have := hq (q.length - 1 - i) (by omega)
    simp only [backUpto, List.getElem_map, List.getElem_range, ringBack, List.getElem_reverse]
    rw [this.1, this.2]

theorem popQ_nil (b o : Nat) (w : World) (h : RingQ w b o []) :
    Calls Tryz.prog 79 #[.pointer (some ⟨b, o, none⟩)] w fun e w' => e = .returned (.tuple #[.agg #[.int .i64 0, .int .i64 0], .bool false]) ∧ Below w.heap.size w w' :=
  pop_none b o w h.lt h.count

theorem popQ_cons (b o : Nat) (p : Int × Int) (q : List (Int × Int)) (w : World) (h : RingQ w b o (p :: q)) :
    Calls Tryz.prog 79 #[.pointer (some ⟨b, o, none⟩)] w fun e w' => e = .returned (.tuple #[.agg #[.int .i64 p.1, .int .i64 p.2], .bool true]) ∧ Chg (inRing b o) w w' ∧ RingQ w' b o q := by
  obtain ⟨x, y, f, hr, hq⟩ := h
  have hf := hr.first
  have h0 := hq 0 (by simp)
  have hc := hr.count
  simp only [List.length_cons] at hc
  have e0 : (f + 0) % 4 = f := by omega
  rw [e0] at h0
  simp only [List.getElem_cons_zero] at h0
  refine (pop_some b o f _ x y w hr (by simp)).mono ?_
  rintro e w' ⟨rfl, hch, hr'⟩
  refine ⟨by rw [h0.1, h0.2], hch, _, _, _, hr', ?_⟩
  intro i hi
  have := hq (i + 1) (by simpa using hi)
  simp only [List.getElem_cons_succ] at this
  have e1 : ((f + 1) % 4 + i) % 4 = (f + (i + 1)) % 4 := by omega
  have e2 : ¬ (f + (i + 1)) % 4 = f := by omega
  rw [e1, if_neg e2, if_neg e2]
  exact this

theorem pushQ_room (b o : Nat) (p v : Int) (q : List (Int × Int)) (w : World) (h : RingQ w b o q) (hl : q.length < 4) :
    Calls Tryz.prog 336 #[.pointer (some ⟨b, o, none⟩), .agg #[.int .i64 p, .int .i64 v]] w fun e w' => e = .returned (.tuple #[.agg #[.int .i64 0, .int .i64 0], .bool false]) ∧ Chg (inRing b o) w w' ∧ RingQ w' b o (q ++ [(p, v)]) := by
  obtain ⟨x, y, f, hr, hq⟩ := h
  refine (push_room b o f _ x y p v w hr hl).mono ?_
  rintro e w' ⟨rfl, hch, hr'⟩
  refine ⟨rfl, hch, _, _, _, by rw [List.length_append]; exact hr', ?_⟩
  intro i hi
  by_cases hiq : i < q.length
  · have e2 : ¬ (f + i) % 4 = (f + q.length) % 4 := by omega
    rw [if_neg e2, if_neg e2, List.getElem_append_left hiq]
    exact hq i hiq
  · have hi' : i = q.length := by simp at hi; omega
    subst hi'
    simp

theorem pushQ_full (b o : Nat) (p v : Int) (p0 : Int × Int) (q : List (Int × Int)) (w : World) (h : RingQ w b o (p0 :: q)) (hl : q.length = 3) :
    Calls Tryz.prog 336 #[.pointer (some ⟨b, o, none⟩), .agg #[.int .i64 p, .int .i64 v]] w fun e w' => e = .returned (.tuple #[.agg #[.int .i64 p0.1, .int .i64 p0.2], .bool true]) ∧ Chg (inRing b o) w w' ∧ RingQ w' b o (q ++ [(p, v)]) := by
  obtain ⟨x, y, f, hr, hq⟩ := h
  have hf := hr.first
  have h0 := hq 0 (by simp)
  have e0 : (f + 0) % 4 = f := by omega
  rw [e0] at h0
  simp only [List.getElem_cons_zero] at h0
  have hr4 : RingAt w b o x y f 4 := by
    have : (p0 :: q).length = 4 := by simp [hl]
    rw [this] at hr; exact hr
  refine (push_full b o f x y p v w hr4).mono ?_
  rintro e w' ⟨rfl, hch, hr'⟩
  refine ⟨by rw [h0.1, h0.2], hch, _, _, _, by rw [List.length_append, hl]; exact hr', ?_⟩
  intro i hi
  by_cases hiq : i < q.length
  · have := hq (i + 1) (by simpa using hiq)
    simp only [List.getElem_cons_succ] at this
    have e1 : ((f + 1) % 4 + i) % 4 = (f + (i + 1)) % 4 := by omega
    have e2 : ¬ (f + (i + 1)) % 4 = f := by omega
    rw [e1, if_neg e2, if_neg e2, List.getElem_append_left hiq]
    exact this
  · have hi' : i = q.length := by simp at hi; omega
    subst hi'
    have e1 : ((f + 1) % 4 + q.length) % 4 = f := by omega
    rw [e1]
    simp

theorem loadQ (b bm : Nat) (q : List (Int × Int)) (a m : Int) (w : World) (h0 : 0 ≤ a) (h1 : a < 256) (hbm : bm < w.heap.size) (hp : w.cell? ⟨b, 0, none⟩ = some (ptr bm)) (hm : w.cell? ⟨bm, a.toNat, none⟩ = some (.int .i64 m)) (hr : RingQ w b 11 q) :
    Calls Tryz.prog 331 #[ptr b, .int .i64 a] w fun e W' => e = .returned (.int .i64 (seenIn q.reverse a m)) ∧ Below w.heap.size w W' := by
  obtain ⟨x, y, f, hr, hq⟩ := hr
  have := load_any b bm f _ x y a m w h0 h1 hbm hp hm hr
  rw [backUpto_reverse hq] at this
  exact this

end Go.Proofs.YtfhkfnoajbbfdabGreatDoor

namespace Go.Proofs.YtfhkfnoajbbfdabGreatDoor
open Go.RowKit

structure ThAt (w : World) (b bm : Nat) (iv ov : Value) (T : Th) : Prop where
  sh : w.shape? b = some (120, 23)
  mem : w.cell? ⟨b, 0, none⟩ = some (ptr bm)
  ins : w.cell? ⟨b, 1, none⟩ = some iv
  regs : ∀ j, j < 8 → w.cell? ⟨b, 2 + j, none⟩ = some (.int .i64 (T.r j))
  place : w.cell? ⟨b, 10, none⟩ = some (.int .i64 T.pl)
  ring : RingQ w b 11 T.q
  outc : w.cell? ⟨b, 21, none⟩ = some ov
  out : w.ownsRow 0 2 1 ov T.out.length (T.out.map (Value.int .i64))
  state : w.cell? ⟨b, 22, none⟩ = some (.int .i64 T.st)
  free : ∀ j, j < 23 → w.frozen? ⟨b, j, none⟩ = false
  addr : ∀ p ∈ T.q, 0 ≤ p.1 ∧ p.1 < 256

structure MemAt (w : World) (bm : Nat) (m : Nat → Int) : Prop where
  sh : w.shape? bm = some (80, 257)
  cells : ∀ j, j < 256 → w.cell? ⟨bm, j, none⟩ = some (.int .i64 (m j))
  free : ∀ j, j < 257 → w.frozen? ⟨bm, j, none⟩ = false

theorem lt_of_shape {w : World} {k : Nat} {s : TypeId × Nat} (h : w.shape? k = some s) : k < w.heap.size := by
  unfold World.shape? at h
  split at h
  · rename_i c e f hb; exact (Array.getElem?_eq_some_iff.1 hb).1
  · cases h

theorem ownsRow_shape {w : World} {base : Nat} {e : TypeId} {size : Nat} {v : Value} {n : Nat} {xs : List Value} (h : w.ownsRow base e size v n xs) : ∀ g, v.ownBlock = some g → ∃ c, w.shape? g = some (e, c) := by
  intro g hg
  rcases h.2 with ⟨rfl, _⟩ | ⟨g', cap, cur, rfl, _, hc, _⟩
  · simp [Value.ownBlock] at hg
  · simp [Value.ownBlock] at hg
    subst hg
    exact ⟨cur.size, by simp [World.shape?, hc]⟩

theorem ownsRow_chg {M : Nat → Nat → Prop} {w w' : World} {base : Nat} {e : TypeId} {size : Nat} {v : Value} {n : Nat} {xs : List Value} (h : w.ownsRow base e size v n xs) (hc : Chg M w w') (hM : ∀ g, v.ownBlock = some g → ∀ i, ¬ M g i) : w'.ownsRow base e size v n xs := by
  refine ⟨h.1, ?_⟩
  rcases h.2 with h2 | ⟨g, cap, cur, rfl, hb, hg, h3⟩
  · exact .inl h2
  · exact .inr ⟨g, cap, cur, rfl, hb, (hc.block g (Array.getElem?_eq_some_iff.1 hg).1 (hM g rfl)).trans hg, h3⟩

section
variable {w w' : World} {b bm : Nat} {iv ov : Value} {T : Th} {m : Nat → Int} {M : Nat → Nat → Prop}

theorem ThAt.lt (h : ThAt w b bm iv ov T) : b < w.heap.size := lt_of_shape h.sh
theorem MemAt.lt (h : MemAt w bm m) : bm < w.heap.size := lt_of_shape h.sh
theorem ThAt.ne (h : ThAt w b bm iv ov T) (hm : MemAt w bm m) : b ≠ bm := fun e => by have := h.sh; rw [e, hm.sh] at this; simp at this
theorem ThAt.row_ne (h : ThAt w b bm iv ov T) {k : Nat} {t : TypeId} {n : Nat} (hk : w.shape? k = some (t, n)) (ht : t ≠ 2) : ov.ownBlock ≠ some k := fun e => by
  obtain ⟨c, hc⟩ := ownsRow_shape h.out k e
  rw [hk] at hc; simp at hc; exact ht hc.1

/-- What touches neither the thread's cells nor its row keeps it. -/
theorem ThAt.keep (h : ThAt w b bm iv ov T) (hc : Chg M w w') (hb : ∀ i, ¬ M b i) (ho : ∀ g, ov.ownBlock = some g → ∀ i, ¬ M g i) : ThAt w' b bm iv ov T := {
  sh := (hc.shape b h.lt).trans h.sh
  mem := (hc.cell b _ h.lt (hb _)).trans h.mem
  ins := (hc.cell b _ h.lt (hb _)).trans h.ins
  regs := fun j hj => (hc.cell b _ h.lt (hb _)).trans (h.regs j hj)
  place := (hc.cell b _ h.lt (hb _)).trans h.place
  ring := h.ring.chg hc (fun _ _ => hb _)
  outc := (hc.cell b _ h.lt (hb _)).trans h.outc
  out := ownsRow_chg h.out hc ho
  state := (hc.cell b _ h.lt (hb _)).trans h.state
  free := fun j hj => (hc.frozen b _ h.lt).trans (h.free j hj)
  addr := h.addr }

theorem MemAt.keep (h : MemAt w bm m) (hc : Chg M w w') (hb : ∀ i, i < 256 → ¬ M bm i) : MemAt w' bm m := {
  sh := (hc.shape bm h.lt).trans h.sh
  cells := fun j hj => (hc.cell bm _ h.lt (hb _ hj)).trans (h.cells j hj)
  free := fun j hj => (hc.frozen bm _ h.lt).trans (h.free j hj) }

theorem ThAt.below (h : ThAt w b bm iv ov T) (hc : Below w.heap.size w w') : ThAt w' b bm iv ov T := h.keep (M := fun _ _ => False) (Chg.of_below hc) (fun _ h => h) (fun _ _ _ h => h)
theorem MemAt.below (h : MemAt w bm m) (hc : Below w.heap.size w w') : MemAt w' bm m := h.keep (M := fun _ _ => False) (Chg.of_below hc) (fun _ _ h => h)

/-- A store into one of the thread's own cells, but for its ring and its row. -/
theorem ThAt.set (h : ThAt w b bm iv ov T) (o : Nat) (v : Value) (ho : 2 ≤ o ∧ o < 11 ∨ o = 22) {T' : Th}
    (hr : ∀ j, j < 8 → (w.setCell ⟨b, o, none⟩ v).cell? ⟨b, 2 + j, none⟩ = some (.int .i64 (T'.r j))) (hp : (w.setCell ⟨b, o, none⟩ v).cell? ⟨b, 10, none⟩ = some (.int .i64 T'.pl)) (hs : (w.setCell ⟨b, o, none⟩ v).cell? ⟨b, 22, none⟩ = some (.int .i64 T'.st)) (hq : T'.q = T.q) (hout : T'.out = T.out) :
    ThAt (w.setCell ⟨b, o, none⟩ v) b bm iv ov T' := {
  sh := (shape_setCell w _ v b).trans h.sh
  mem := (cell_set_ne (by omega)).trans h.mem
  ins := (cell_set_ne (by omega)).trans h.ins
  regs := hr
  place := hp
  ring := hq ▸ h.ring.chg (M := fun k i => k = b ∧ i = o) ((Chg.refl _ w).setCell (fun _ => ⟨rfl, rfl⟩) v) (fun j hj e => by omega)
  outc := (cell_set_ne (by omega)).trans h.outc
  out := hout ▸ ownsRow_chg (M := fun k i => k = b ∧ i = o) h.out ((Chg.refl _ w).setCell (fun _ => ⟨rfl, rfl⟩) v) (fun g hg i e => h.row_ne h.sh (by decide) (e.1 ▸ hg))
  state := hs
  free := fun j hj => (World.frozen?_setCell w _ _ v).trans (h.free j hj)
  addr := hq ▸ h.addr }

theorem ThAt.setReg (h : ThAt w b bm iv ov T) {d : Nat} (hd : d < 8) (v : Int) : ThAt (w.setCell ⟨b, 2 + d, none⟩ (.int .i64 v)) b bm iv ov (T.setR d v) := by
  refine h.set (2 + d) _ (by omega) (fun j hj => ?_) ((cell_set_ne (by omega)).trans h.place) ((cell_set_ne (by omega)).trans h.state) rfl rfl
  by_cases e : j = d
  · subst e; rw [cell_set_eq (h.regs j hj) rfl]; simp [Th.setR]
  · rw [cell_set_ne (by omega), h.regs j hj]; simp [Th.setR, e]

theorem ThAt.setPlace (h : ThAt w b bm iv ov T) (v : Int) : ThAt (w.setCell ⟨b, 10, none⟩ (.int .i64 v)) b bm iv ov { T with pl := v } :=
  h.set 10 _ (by omega) (fun j hj => (cell_set_ne (by omega)).trans (h.regs j hj)) (cell_set_eq h.place rfl) ((cell_set_ne (by omega)).trans h.state) rfl rfl

theorem ThAt.setState (h : ThAt w b bm iv ov T) (v : Int) : ThAt (w.setCell ⟨b, 22, none⟩ (.int .i64 v)) b bm iv ov { T with st := v } :=
  h.set 22 _ (by omega) (fun j hj => (cell_set_ne (by omega)).trans (h.regs j hj)) ((cell_set_ne (by omega)).trans h.place) (cell_set_eq h.state rfl) rfl rfl

/-- The ring has turned, nothing else of the thread. -/
theorem ThAt.setRing (h : ThAt w b bm iv ov T) (hc : Chg (inRing b 11) w w') {q : List (Int × Int)} (hq : RingQ w' b 11 q) (ha : ∀ p ∈ q, 0 ≤ p.1 ∧ p.1 < 256) : ThAt w' b bm iv ov { T with q := q } := {
  sh := (hc.shape b h.lt).trans h.sh
  mem := (hc.cell b _ h.lt (fun e => by unfold inRing at e; omega)).trans h.mem
  ins := (hc.cell b _ h.lt (fun e => by unfold inRing at e; omega)).trans h.ins
  regs := fun j hj => (hc.cell b _ h.lt (fun e => by unfold inRing at e; omega)).trans (h.regs j hj)
  place := (hc.cell b _ h.lt (fun e => by unfold inRing at e; omega)).trans h.place
  ring := hq
  outc := (hc.cell b _ h.lt (fun e => by unfold inRing at e; omega)).trans h.outc
  out := ownsRow_chg h.out hc (fun g hg i e => h.row_ne h.sh (by decide) (e.1 ▸ hg))
  state := (hc.cell b _ h.lt (fun e => by unfold inRing at e; omega)).trans h.state
  free := fun j hj => (hc.frozen b _ h.lt).trans (h.free j hj)
  addr := ha }

theorem MemAt.set (h : MemAt w bm m) {a : Nat} (ha : a < 256) (v : Int) : MemAt (w.setCell ⟨bm, a, none⟩ (.int .i64 v)) bm (putM m a v) := {
  sh := (shape_setCell w _ _ bm).trans h.sh
  cells := fun j hj => by
    by_cases e : j = a
    · subst e; rw [cell_set_eq (h.cells j hj) rfl]; simp [putM]
    · rw [cell_set_ne (by omega), h.cells j hj]; simp [putM, e]
  free := fun j hj => (World.frozen?_setCell w _ _ _).trans (h.free j hj) }

theorem ThAt.setMem (h : ThAt w b bm iv ov T) (hm : MemAt w bm m) (a : Nat) (v : Value) : ThAt (w.setCell ⟨bm, a, none⟩ v) b bm iv ov T :=
  h.keep (M := fun k i => k = bm ∧ i = a) ((Chg.refl _ w).setCell (fun _ => ⟨rfl, rfl⟩) v) (fun i e => h.ne hm e.1) (fun g hg i e => h.row_ne hm.sh (by decide) (e.1 ▸ hg))
end

/-- Where a thread may write: its own cells, the memory, its row. -/
def foot (b bm : Nat) (ov : Value) : Nat → Nat → Prop := fun k i => k = b ∨ k = bm ∧ i < 256 ∨ ov.ownBlock = some k

/-- What a thread's call has come to. -/
def Eff (w : World) (b bm : Nat) (iv ov : Value) (T' : Th) (m' : Nat → Int) (w' : World) : Prop :=
  ∃ ov', ThAt w' b bm iv ov' T' ∧ MemAt w' bm m' ∧ Chg (foot b bm ov) w w' ∧ (ov'.ownBlock = ov.ownBlock ∨ ∃ k, ov'.ownBlock = some k ∧ w.heap.size ≤ k)

theorem Eff.then {w w1 w2 : World} {b bm : Nat} {iv ov ov1 ov2 : Value} {T' : Th} {m' : Nat → Int} (hc : Chg (foot b bm ov) w w1) (h1 : ov1.ownBlock = ov.ownBlock ∨ ∃ k, ov1.ownBlock = some k ∧ w.heap.size ≤ k)
    (ht : ThAt w2 b bm iv ov2 T') (hm : MemAt w2 bm m') (hc2 : Chg (foot b bm ov1) w1 w2) (h2 : ov2.ownBlock = ov1.ownBlock ∨ ∃ k, ov2.ownBlock = some k ∧ w1.heap.size ≤ k) : Eff w b bm iv ov T' m' w2 := by
  refine ⟨ov2, ht, hm, hc.then hc2 ?_, ?_⟩
  · rintro k i hk (h | h | h)
    · exact .inl h
    · exact .inr (.inl h)
    · rcases h1 with e | ⟨j, e, hj⟩
      · exact .inr (.inr (e ▸ h))
      · rw [e] at h; simp at h; omega
  · rcases h2 with e | ⟨j, e, hj⟩
    · rw [e]; exact h1
    · exact .inr ⟨j, e, Nat.le_trans hc.size hj⟩

end Go.Proofs.YtfhkfnoajbbfdabGreatDoor

namespace Go.Proofs.YtfhkfnoajbbfdabGreatDoor
open Go.RowKit

/-- A line that is being read: its number, its words that are left (in block bw). -/
structure LineAt (w : World) (bl : Nat) (n : Int) (bw : Nat) (ws : List ByteArray) : Prop where
  sh : w.shape? bl = some (202, 2)
  num : w.cell? ⟨bl, 0, none⟩ = some (.int .i64 n)
  wds : ∃ o cap, ws.length ≤ cap ∧ w.cell? ⟨bl, 1, none⟩ = some (.slice (some ⟨bw, o, none⟩) ws.length cap) ∧ ∀ j (h : j < ws.length), w.cell? ⟨bw, o + j, none⟩ = some (.string ws[j])
  free : w.frozen? ⟨bl, 1, none⟩ = false
  ne : bw ≠ bl
  ltw : bw < w.heap.size

theorem LineAt.lt {w : World} {bl bw : Nat} {n : Int} {ws : List ByteArray} (h : LineAt w bl n bw ws) : bl < w.heap.size := lt_of_shape h.sh

theorem LineAt.keep {w w' : World} {bl bw : Nat} {n : Int} {ws : List ByteArray} {M : Nat → Nat → Prop} (h : LineAt w bl n bw ws) (hc : Chg M w w') (h1 : ∀ i, ¬ M bl i) (h2 : ∀ i, ¬ M bw i) : LineAt w' bl n bw ws := {
  sh := (hc.shape bl h.lt).trans h.sh
  num := (hc.cell bl _ h.lt (h1 _)).trans h.num
  wds := by
    obtain ⟨o, cap, hl, hs, hcs⟩ := h.wds
    exact ⟨o, cap, hl, (hc.cell bl _ h.lt (h1 _)).trans hs, fun j hj => (hc.cell bw _ h.ltw (h2 _)).trans (hcs j hj)⟩
  free := (hc.frozen bl _ h.lt).trans h.free
  ne := h.ne
  ltw := Nat.lt_of_lt_of_le h.ltw hc.size }

/-- What a taken word leaves. -/
abbrev lineM (bl : Nat) : Nat → Nat → Prop := fun k i => k = bl ∧ i = 1

theorem LineAt.next {w : World} {bl bw : Nat} {n : Int} {u : ByteArray} {ws : List ByteArray} (h : LineAt w bl n bw (u :: ws)) (o cap : Nat) (hl : ws.length ≤ cap) (hcs : ∀ j (h : j < ws.length), w.cell? ⟨bw, o + j, none⟩ = some (.string ws[j])) :
    LineAt (w.setCell ⟨bl, 1, none⟩ (.slice (some ⟨bw, o, none⟩) ws.length cap)) bl n bw ws ∧ Chg (lineM bl) w (w.setCell ⟨bl, 1, none⟩ (.slice (some ⟨bw, o, none⟩) ws.length cap)) := by
  obtain ⟨o', cap', _, hs, _⟩ := h.wds
  have hc : Chg (lineM bl) w (w.setCell ⟨bl, 1, none⟩ (.slice (some ⟨bw, o, none⟩) ws.length cap)) := (Chg.refl _ w).setCell (fun _ => ⟨rfl, rfl⟩) _
  refine ⟨⟨(hc.shape bl h.lt).trans h.sh, (hc.cell bl 0 h.lt (fun e => by cases e.2)).trans h.num, ⟨o, cap, hl, cell_set_eq hs rfl, fun j hj => (hc.cell bw _ h.ltw (fun e => h.ne e.1)).trans (hcs j hj)⟩, (hc.frozen bl _ h.lt).trans h.free, h.ne, Nat.lt_of_lt_of_le h.ltw hc.size⟩, hc⟩

set_option maxRecDepth 100000 in
set_option maxHeartbeats 1000000 in
theorem word_ok {w : World} {bl bw : Nat} {n : Int} {u : ByteArray} {ws : List ByteArray} (h : LineAt w bl n bw (u :: ws)) (hlen : ws.length < 1000000) :
    Calls Tryz.prog 85 #[ptr bl] w fun e w' => e = .returned (.string u) ∧ LineAt w' bl n bw ws ∧ Chg (lineM bl) w w' := by
  obtain ⟨o, cap, hl, hs, hcs⟩ := h.wds
  have H := hid h
  have hf := h.free
  have h0 := hcs 0 (by simp)
  simp only [List.getElem_cons_zero, Nat.add_zero] at h0
  have HC := hid hcs
  clear hcs
  simp only [List.length_cons] at hs hl
  have hlt := h.lt
  clear h
  go_enter Tryz.func85, Tryz.ntmps85
  go_wp2
  all_goals go_ret
  · refine ⟨rfl, H.out.next o 0 (by omega) (fun j hj => by omega)⟩
  · refine ⟨rfl, H.out.next (o + 1) (cap - 1) (by omega) (fun j hj => ?_)⟩
    have := HC.out (j + 1) (by simp; omega)
    rw [show o + 1 + j = o + (j + 1) by omega, this]; rfl

set_option maxRecDepth 100000 in
set_option maxHeartbeats 1000000 in
theorem end_ok {w : World} {bl bw : Nat} {n : Int} (h : LineAt w bl n bw []) :
    Calls Tryz.prog 86 #[ptr bl] w fun e w' => e = .returned (.tuple #[]) ∧ w' = w := by
  obtain ⟨o, cap, hl, hs, hcs⟩ := h.wds
  clear hcs h
  simp only [List.length_nil] at hs hl
  go_enter Tryz.func86, Tryz.ntmps86
  go_wp2
  go_end0
  exact ⟨rfl, rfl⟩

theorem LineAt.below {w w' : World} {bl bw : Nat} {n : Int} {ws : List ByteArray} (h : LineAt w bl n bw ws) (hb : Below w.heap.size w w') : LineAt w' bl n bw ws :=
  h.keep (M := fun _ _ => False) (Chg.of_below hb) (fun _ h => h) (fun _ h => h)

end Go.Proofs.YtfhkfnoajbbfdabGreatDoor

namespace Go.Proofs.YtfhkfnoajbbfdabGreatDoor
open Go.RowKit

section
variable {w : World} {b bm : Nat} {iv ov : Value} {T : Th} {m : Nat → Int}

theorem foot_mem {b bm : Nat} {ov : Value} {a : Nat} (h : a < 256) : foot b bm ov bm a := .inr (.inl ⟨rfl, h⟩)
theorem foot_own {b bm : Nat} {ov : Value} (i : Nat) : foot b bm ov b i := .inl rfl

theorem th_setCell (h : ThAt w b bm iv ov T) (hm : MemAt w bm m) (a v : Int) (h0 : 0 ≤ a) (h1 : a < 256) :
    Calls Tryz.prog 80 #[ptr b, .int .i64 a, .int .i64 v] w fun e w' => e = .returned (.tuple #[]) ∧ Eff w b bm iv ov T (putM m a.toNat v) w' := by
  have ha : a.toNat < 256 := by omega
  refine (setCell_any b bm a v _ w h0 h1 h.mem (hm.cells _ ha) (hm.free _ (by omega))).mono ?_
  rintro e w' ⟨rfl, rfl⟩
  exact ⟨rfl, ov, h.setMem hm _ _, hm.set ha v, (Chg.refl _ w).setCell (fun _ => foot_mem ha) _, .inl rfl⟩

set_option maxHeartbeats 1000000 in
theorem th_flush_nil (h : ThAt w b bm iv ov T) (hm : MemAt w bm m) (hq : T.q = []) :
    Calls Tryz.prog 53 #[ptr b] w fun e w' => e = .returned (.bool false) ∧ Eff w b bm iv ov T m w' := by
  have hr := hq ▸ h.ring
  go_enter Tryz.func53, Tryz.ntmps53
  go_wp2_with fail
  refine (popQ_nil b 11 _ hr).mono ?_
  rintro e w1 ⟨rfl, hb1⟩
  go_wp2
  go_ret
  have hb2 : Below w.heap.size w (w1.alloc (Obj.cells #[Value.int IntKind.i64 0, Value.int IntKind.i64 0] 115)) := hb1.alloc hb1.size _
  exact ⟨rfl, ov, h.below hb2, hm.below hb2, Chg.of_below hb2, .inl rfl⟩

set_option maxHeartbeats 1000000 in
theorem th_flush_cons (h : ThAt w b bm iv ov T) (hm : MemAt w bm m) (p : Int × Int) (q : List (Int × Int)) (hq : T.q = p :: q) :
    Calls Tryz.prog 53 #[ptr b] w fun e w' => e = .returned (.bool true) ∧ Eff w b bm iv ov { T with q := q } (putM m p.1.toNat p.2) w' := by
  have hr := hq ▸ h.ring
  have hp : 0 ≤ p.1 ∧ p.1 < 256 := h.addr p (by rw [hq]; simp)
  have hqa : ∀ p' ∈ q, 0 ≤ p'.1 ∧ p'.1 < 256 := fun p' hp' => h.addr p' (by rw [hq]; simp [hp'])
  have H : Hid (ThAt w b bm iv ov T) := h
  have HM : Hid (MemAt w bm m) := hm
  have HQ : Hid (T.q = p :: q) := hq
  clear h hm hq
  go_enter Tryz.func53, Tryz.ntmps53
  go_wp2_with fail
  refine (popQ_cons b 11 p q _ hr).mono ?_
  rintro e w1 ⟨rfl, hc1, hq1⟩
  have ht1 := H.out.setRing hc1 hq1 hqa
  have hm1 := HM.out.keep hc1 (fun i _ e => H.out.ne HM.out e.1.symm)
  have hc1' : Chg (foot b bm ov) w w1 := hc1.mono (fun k i _ e => .inl e.1)
  clear hc1 hq1
  have HC : Hid (Chg (foot b bm ov) w w1) := hc1'
  clear hc1'
  go_wp2_with fail
  have hb2 : Below w1.heap.size w1 (w1.alloc (Obj.cells #[Value.int IntKind.i64 p.1, Value.int IntKind.i64 p.2] 115)) := (Below.refl _ _).alloc (Nat.le_refl _) _
  refine (th_setCell (ht1.below hb2) (hm1.below hb2) p.1 p.2 hp.1 hp.2).mono ?_
  rintro e w2 ⟨rfl, ov2, ht2, hm2, hc2, ho2⟩
  go_wp2
  go_ret
  exact ⟨rfl, Eff.then (HC.out.alloc _) (.inl rfl) ht2 hm2 hc2 ho2⟩

end
end Go.Proofs.YtfhkfnoajbbfdabGreatDoor

namespace Go.Proofs.YtfhkfnoajbbfdabGreatDoor
open Go.RowKit

section
variable {w : World} {b bm : Nat} {iv ov : Value} {T : Th} {m : Nat → Int}

/-- How much waits, read off the world: for the loop's measure. -/
def waits (b : Nat) (w : World) : Nat := (intOf ((w.cell? ⟨b, 20, none⟩).getD (.int .i64 0))).toNat

theorem waits_eq {w : World} {q : List (Int × Int)} (h : RingQ w b 11 q) : waits b w = q.length := by
  have := h.count
  simp only [waits, this, Option.getD_some, intOf, Int.toNat_natCast]

set_option maxHeartbeats 1000000 in
theorem th_drain (h : ThAt w b bm iv ov T) (hm : MemAt w bm m) :
    Calls Tryz.prog 276 #[ptr b] w fun e w' => e = .returned (.tuple #[]) ∧ Eff w b bm iv ov { T with q := [] } (drainM m T.q) w' := by
  go_enter Tryz.func276, Tryz.ntmps276
  go_wp2_with fail
  go_loopw [] (fun wr => ∃ q m' ov', ThAt wr b bm iv ov' { T with q := q } ∧ MemAt wr bm m' ∧ Chg (foot b bm ov) w wr ∧ (ov'.ownBlock = ov.ownBlock ∨ ∃ k, ov'.ownBlock = some k ∧ w.heap.size ≤ k) ∧ drainM m' q = drainM m T.q) (fun wr => waits b wr)
  case atStart => exact ⟨T.q, m, ov, h, hm, Chg.refl _ _, .inl rfl, rfl⟩
  case round =>
    obtain ⟨q, m', ov', ht, hm', hc, ho, hd⟩ := hrel
    cases q with
    | nil =>
      go_wp2_with fail
      refine (th_flush_nil ht hm' rfl).mono ?_
      rintro e w1 ⟨rfl, ov1, ht1, hm1, hc1, ho1⟩
      go_wp2
      go_end0
      exact ⟨rfl, by rw [← hd]; exact Eff.then hc ho ht1 hm1 hc1 ho1⟩
    | cons p q =>
      go_wp2_with fail
      refine (th_flush_cons ht hm' p q rfl).mono ?_
      rintro e w1 ⟨rfl, ov1, ht1, hm1, hc1, ho1⟩
      go_wp2
      go_roundw
      case rel =>
        obtain ⟨ov2, ht2, hm2, hc2, ho2⟩ := Eff.then hc ho ht1 hm1 hc1 ho1
        exact ⟨q, _, ov2, ht2, hm2, hc2, ho2, hd⟩
      case measure =>
        rw [waits_eq ht1.ring, waits_eq ht.ring]; simp
end
end Go.Proofs.YtfhkfnoajbbfdabGreatDoor

namespace Go.Proofs.YtfhkfnoajbbfdabGreatDoor
open Go.RowKit

section
variable {w : World} {b bm : Nat} {iv ov : Value} {T : Th} {m : Nat → Int}

set_option maxHeartbeats 1000000 in
theorem th_store_room (h : ThAt w b bm iv ov T) (hm : MemAt w bm m) (a v : Int) (h0 : 0 ≤ a) (h1 : a < 256) (hl : T.q.length < 4) :
    Calls Tryz.prog 334 #[ptr b, .int .i64 a, .int .i64 v] w fun e w' => e = .returned (.tuple #[]) ∧ Eff w b bm iv ov { T with q := T.q ++ [(a, v)] } m w' := by
  have hr := h.ring
  have hqa : ∀ p' ∈ T.q ++ [(a, v)], 0 ≤ p'.1 ∧ p'.1 < 256 := fun p' hp' => (List.mem_append.1 hp').elim (h.addr p') (fun e => by simp at e; subst e; exact ⟨h0, h1⟩)
  have H : Hid (ThAt w b bm iv ov T) := h
  have HM : Hid (MemAt w bm m) := hm
  clear h hm
  go_enter Tryz.func334, Tryz.ntmps334
  go_wp2_with fail
  refine (pushQ_room b 11 a v T.q _ hr hl).mono ?_
  rintro e w1 ⟨rfl, hc1, hq1⟩
  have ht1 := H.out.setRing hc1 hq1 hqa
  have hm1 := HM.out.keep hc1 (fun i _ e => H.out.ne HM.out e.1.symm)
  have hc1' : Chg (foot b bm ov) w w1 := hc1.mono (fun k i _ e => .inl e.1)
  have HC : Hid (Chg (foot b bm ov) w w1) := hc1'
  clear hc1' hc1 hq1
  go_wp2
  go_end0
  have hb2 : Below w1.heap.size w1 (w1.alloc (Obj.cells #[Value.int IntKind.i64 0, Value.int IntKind.i64 0] 115)) := (Below.refl _ _).alloc (Nat.le_refl _) _
  exact ⟨rfl, ov, ht1.below hb2, hm1.below hb2, HC.out.alloc _, .inl rfl⟩

set_option maxHeartbeats 1000000 in
theorem th_store_full (h : ThAt w b bm iv ov T) (hm : MemAt w bm m) (a v : Int) (h0 : 0 ≤ a) (h1 : a < 256) (p : Int × Int) (q : List (Int × Int)) (hq : T.q = p :: q) (hl : q.length = 3) :
    Calls Tryz.prog 334 #[ptr b, .int .i64 a, .int .i64 v] w fun e w' => e = .returned (.tuple #[]) ∧ Eff w b bm iv ov { T with q := q ++ [(a, v)] } (putM m p.1.toNat p.2) w' := by
  have hr := hq ▸ h.ring
  have hp : 0 ≤ p.1 ∧ p.1 < 256 := h.addr p (by rw [hq]; simp)
  have hqa : ∀ p' ∈ q ++ [(a, v)], 0 ≤ p'.1 ∧ p'.1 < 256 := fun p' hp' => (List.mem_append.1 hp').elim (fun e => h.addr p' (by rw [hq]; simp [e])) (fun e => by simp at e; subst e; exact ⟨h0, h1⟩)
  have H : Hid (ThAt w b bm iv ov T) := h
  have HM : Hid (MemAt w bm m) := hm
  clear h hm hq
  go_enter Tryz.func334, Tryz.ntmps334
  go_wp2_with fail
  refine (pushQ_full b 11 a v p q _ hr hl).mono ?_
  rintro e w1 ⟨rfl, hc1, hq1⟩
  have ht1 := H.out.setRing hc1 hq1 hqa
  have hm1 := HM.out.keep hc1 (fun i _ e => H.out.ne HM.out e.1.symm)
  have hc1' : Chg (foot b bm ov) w w1 := hc1.mono (fun k i _ e => .inl e.1)
  have HC : Hid (Chg (foot b bm ov) w w1) := hc1'
  clear hc1' hc1 hq1
  go_wp2_with fail
  have hb2 : Below w1.heap.size w1 (w1.alloc (Obj.cells #[Value.int IntKind.i64 p.1, Value.int IntKind.i64 p.2] 115)) := (Below.refl _ _).alloc (Nat.le_refl _) _
  refine (th_setCell (ht1.below hb2) (hm1.below hb2) p.1 p.2 hp.1 hp.2).mono ?_
  rintro e w2 ⟨rfl, ov2, ht2, hm2, hc2, ho2⟩
  go_wp2
  go_end0
  exact ⟨rfl, Eff.then (HC.out.alloc _) (.inl rfl) ht2 hm2 hc2 ho2⟩

theorem th_store (h : ThAt w b bm iv ov T) (hm : MemAt w bm m) (a v : Int) (h0 : 0 ≤ a) (h1 : a < 256) :
    Calls Tryz.prog 334 #[ptr b, .int .i64 a, .int .i64 v] w fun e w' => e = .returned (.tuple #[]) ∧ Eff w b bm iv ov { T with q := (storeQ T.q m a v).1 } (storeQ T.q m a v).2 w' := by
  by_cases hl : T.q.length < 4
  · rw [storeQ_room hl]; exact th_store_room h hm a v h0 h1 hl
  · have h4 := h.ring.le
    obtain ⟨p, q, hq⟩ : ∃ p q, T.q = p :: q := by
      cases hT : T.q with
      | nil => rw [hT] at hl; simp at hl
      | cons p q => exact ⟨p, q, rfl⟩
    have hl3 : q.length = 3 := by rw [hq] at hl h4; simp at hl h4; omega
    have := th_store_full h hm a v h0 h1 p q hq hl3
    rw [hq, storeQ_full hl3]; exact this

end
end Go.Proofs.YtfhkfnoajbbfdabGreatDoor

/- One element more on a row of one's own: what has turned. -/
namespace Go.Proofs.YtfhkfnoajbbfdabGreatDoor
open Go.RowKit

theorem Chg.setRow {w : World} {g : Nat} {old cs : Array Value} {e : TypeId} {fr : Nat × Nat} (hg : w.heap[g]? = some (.cells old e fr)) (hs : cs.size = old.size) : Chg (fun k _ => k = g) w (w.setRow g cs) := by
  have hh := setRow_heap w g old cs e fr hg
  refine ⟨rfl, rfl, rfl, by simp [World.setRow], ?_, ?_, ?_, ?_⟩
  · intro k hk hn; exact setRow_other w g k cs (hn 0)
  · intro k i hk hn; exact World.cell?_of_block (w := w) (setRow_other w g k cs hn)
  · intro k i hk
    by_cases e' : k = g
    · subst e'; simp [World.frozen?, hh, hg]
    · exact World.frozen?_of_block (w := w) (setRow_other w g k cs e')
  · intro k hk
    by_cases e' : k = g
    · subst e'; simp [World.shape?, hh, hg, hs]
    · exact shape_of_block (setRow_other w g k cs e')

theorem run_app1 {P : Program} (w : World) (t ty e : TypeId) (i : TypeInfo) (z : Value) (bytes : Nat) (ht : P.underlying t = some (.slice e)) (hi : P.info? e = some i) (hz : i.zero = some z) (hsize : i.size = 1) (hby : i.bytes = bytes) (hzs : z.cells.size = 1)
    (v : Value) (n : Nat) (xs : List Value) (hown : w.ownsRow 0 e 1 v n xs) (ad : Addr) (u : Value) (hu : ∀ j u', [u][j]? = some u' → w.cell? (ad.add j) = some u') (hu1 : u.oneCell' = true) (h63 : n + 1 ≤ maxLen) (hbytes : (n + 1) * bytes ≤ 140737488355328) :
    ∃ g cap w', (Builtin.append_ #[t, t] ty #[v, .slice (some ad) 1 1]).run P w = .ok (.slice (some ⟨g, 0, none⟩) (n + 1) cap) w' ∧
      w'.ownsRow 0 e 1 (.slice (some ⟨g, 0, none⟩) (n + 1) cap) (n + 1) (xs ++ [u]) ∧ Chg (fun k _ => v.ownBlock = some k) w w' ∧ (v.ownBlock = some g ∨ g = w.heap.size) := by
  have h1 : ∀ u' ∈ [u], u'.oneCell' = true := by simpa using hu1
  obtain ⟨v', w', hr, h2, _, _⟩ := run_append_own (P := P) w 0 t ty e i z 1 bytes ht hi hz hsize hby hzs (by decide) v n xs hown ad 1 1 [u] (by simp) hu h1 h63 hbytes (Nat.zero_le _)
  subst hby
  have hlu : [u].length = 1 * i.size := by simp [hsize]
  rcases hown.2 with ⟨rfl, rfl⟩ | ⟨g, cap, cur, rfl, hbg, hg, hnc, hcm, hcs, htake⟩
  · have hx := run_append_nil (P := P) w t ty e i z ht hi hz ad 1 1 [u] hlu hu (by decide) (by decide) (by omega)
    rw [hx] at hr
    injection hr with e1 e2
    subst e1; subst e2
    exact ⟨_, _, _, hx, h2, ((Chg.refl _ w).drew).alloc _, .inr rfl⟩
  · by_cases hroom : n + 1 ≤ cap
    · have hx := run_append_room (P := P) w t ty e i ht hi g n cap cur hg ad 1 1 [u] hlu hu h1 hroom (by simp [hsize, hcs]; omega)
      rw [hx] at hr
      injection hr with e1 e2
      subst e1; subst e2
      refine ⟨_, _, _, hx, h2, (Chg.setRow hg ?_).mono (fun k i _ e => by simp [Value.ownBlock, e]), .inl rfl⟩
      simp only [List.size_toArray, List.length_append, List.length_take, List.length_drop, Array.length_toList, hsize, List.length_cons, List.length_nil]
      omega
    · have hlo : xs.length = n * i.size := by rw [hown.1, hsize]
      have hx := run_append_grow (P := P) w t ty e i z ht hi hz ⟨g, 0, none⟩ n cap xs hlo (hown.cells (g := g) rfl) ad 1 1 [u] hlu hu (by omega) (by unfold maxLen at h63; omega) (growslice_fits (by omega) hbytes)
      rw [hx] at hr
      injection hr with e1 e2
      subst e1; subst e2
      exact ⟨_, _, _, hx, h2, ((Chg.refl _ w).drew).alloc _, .inr rfl⟩

theorem wpList_app1 {P : Program} {w : World} {ops : Array Oper} {rest : List Oper} {o : Oper} {a : Act} {Q : Exit → Act → World → Prop} (hgd : o.guard = none) (s x : Operand) (t : TypeId)
    (ho : o.op = .call { callee := .builtin .append, args := #[s, x], argTypes := #[t, t] })
    (e : TypeId) (i : TypeInfo) (z : Value) (bytes : Nat) (ht : P.underlying t = some (.slice e)) (hi : P.info? e = some i) (hz : i.zero = some z) (hsize : i.size = 1) (hby : i.bytes = bytes) (hzs : z.cells.size = 1)
    (v : Value) (n : Nat) (xs : List Value) (hs : a.eval s = v) (hown : w.ownsRow 0 e 1 v n xs) (ad : Addr) (u : Value) (hx : a.eval x = .slice (some ad) 1 1) (hu : ∀ j u', [u][j]? = some u' → w.cell? (ad.add j) = some u') (hu1 : u.oneCell' = true) (h63 : n + 1 ≤ maxLen) (hbytes : (n + 1) * bytes ≤ 140737488355328)
    (h : ∀ g cap w', w'.ownsRow 0 e 1 (.slice (some ⟨g, 0, none⟩) (n + 1) cap) (n + 1) (xs ++ [u]) → Chg (fun k _ => v.ownBlock = some k) w w' → (v.ownBlock = some g ∨ g = w.heap.size) → wpList P ops Q rest (a.put o.dst (.slice (some ⟨g, 0, none⟩) (n + 1) cap)) w') : wpList P ops Q (o :: rest) a w :=
  wpList_plain hgd fun K hK => by
    obtain ⟨g, cap, w', hr, h2, h3, h4⟩ := run_app1 (P := P) w t o.type e i z bytes ht hi hz hsize hby hzs v n xs hown ad u hu hu1 h63 hbytes
    unfold Oper.wp execOp
    simp only [ho, resolve, invoke, builtin, Sem.run_bind, Sem.run_pure, Result.andThen_ok, List.map_toArray, List.map_cons, List.map_nil, hs, hx, hr]
    exact hK _ _ (h g cap w' h2 h3 h4)

end Go.Proofs.YtfhkfnoajbbfdabGreatDoor

namespace Go.Proofs.YtfhkfnoajbbfdabGreatDoor
open Go.RowKit

section
variable {w : World} {b bm : Nat} {iv ov : Value} {T : Th} {m : Nat → Int}

theorem infoInt64 : (Tryz.prog.info? 2).map (fun i => (i.zero, i.size, i.bytes)) = some (some (.int .i64 0), 1, 8) := by kernel_rfl

theorem th_give_fin (h : ThAt w b bm iv ov T) (hm : MemAt w bm m) (v : Int) {w1 : World} {g cap : Nat} (o : Obj)
    (hown : w1.ownsRow 0 2 1 (.slice (some ⟨g, 0, none⟩) (T.out.length + 1) cap) (T.out.length + 1) (T.out.map (Value.int .i64) ++ [.int .i64 v]))
    (hc : Chg (fun k _ => ov.ownBlock = some k) (w.alloc o) w1) (hg : ov.ownBlock = some g ∨ g = (w.alloc o).heap.size) :
    Eff w b bm iv ov { T with out := T.out ++ [v] } m (w1.setCell ⟨b, 21, none⟩ (.slice (some ⟨g, 0, none⟩) (T.out.length + 1) cap)) := by
  have hc0 : Chg (fun k _ => ov.ownBlock = some k) w w1 := ((Chg.refl _ w).alloc o).trans hc
  have hne : ∀ k t n, w.shape? k = some (t, n) → t ≠ 2 → ¬ ov.ownBlock = some k := fun k t n hk ht => h.row_ne hk ht
  have hbo := hne b _ _ h.sh (by decide)
  have hmo := hne bm _ _ hm.sh (by decide)
  have hgb : g ≠ b := by
    rcases hg with e | e
    · exact fun e' => hbo (e' ▸ e)
    · have := h.lt; simp at e; omega
  let sv : Value := .slice (some ⟨g, 0, none⟩) (T.out.length + 1) cap
  have hset : Chg (fun k i => k = b ∧ i = 21) w1 (w1.setCell ⟨b, 21, none⟩ sv) := (Chg.refl _ w1).setCell (fun _ => ⟨rfl, rfl⟩) _
  have c : ∀ i v', i ≠ 21 → w.cell? ⟨b, i, none⟩ = some v' → (w1.setCell ⟨b, 21, none⟩ sv).cell? ⟨b, i, none⟩ = some v' := fun i v' hi hv => (cell_set_ne (by omega)).trans ((hc0.cell b i h.lt hbo).trans hv)
  refine ⟨sv, ⟨?_, c _ _ (by omega) h.mem, c _ _ (by omega) h.ins, fun j hj => c _ _ (by omega) (h.regs j hj), c _ _ (by omega) h.place, ?_, ?_, ?_, c _ _ (by omega) h.state, ?_, h.addr⟩, ?_, ?_, ?_⟩
  · exact (shape_setCell w1 _ _ b).trans ((hc0.shape b h.lt).trans h.sh)
  · exact (h.ring.chg hc0 (fun _ _ => hbo)).chg hset (fun j hj e => by omega)
  · exact cell_set_eq ((hc0.cell b 21 h.lt hbo).trans h.outc) rfl
  · have := ownsRow_chg hown hset (fun k hk i e => by simp [Value.ownBlock] at hk; exact hgb (hk.trans e.1))
    simpa using this
  · exact fun j hj => (World.frozen?_setCell w1 _ _ _).trans ((hc0.frozen b _ h.lt).trans (h.free j hj))
  · exact ((hm.keep hc0 (fun _ _ => hmo))).keep hset (fun i _ e => h.ne hm e.1.symm)
  · exact (hc0.mono (fun k i _ e => .inr (.inr e))).trans (hset.mono (fun k i _ e => .inl e.1))
  · rcases hg with e | e
    · exact .inl e.symm
    · exact .inr ⟨g, rfl, by simp at e; omega⟩

theorem hid {p : Prop} (h : p) : Hid p := h
theorem give_cell (h : ThAt w b bm iv ov T) {w1 : World} {o : Obj} (hc : Chg (fun k _ => ov.ownBlock = some k) (w.alloc o) w1) : w1.cell? ⟨b, 21, none⟩ = some ov :=
  (hc.cell b 21 (by have := h.lt; simp; omega) (h.row_ne h.sh (by decide))).trans ((World.cell?_alloc_past _ _ _ h.lt).trans h.outc)
theorem give_free (h : ThAt w b bm iv ov T) {w1 : World} {o : Obj} (hc : Chg (fun k _ => ov.ownBlock = some k) (w.alloc o) w1) : w1.frozen? ⟨b, 21, none⟩ = false :=
  (hc.frozen b 21 (by have := h.lt; simp; omega)).trans ((World.frozen?_alloc_past _ _ _ h.lt).trans (h.free 21 (by omega)))

set_option maxRecDepth 100000 in
set_option maxHeartbeats 1000000 in
theorem th_give (h : ThAt w b bm iv ov T) (hm : MemAt w bm m) (v : Int) (hl : T.out.length < 1099511627776) :
    Calls Tryz.prog 329 #[ptr b, .int .i64 v] w fun e w' => e = .returned (.tuple #[]) ∧ Eff w b bm iv ov { T with out := T.out ++ [v] } m w' := by
  obtain ⟨i0, hi, hz0, hz1, hz2⟩ := info_parts infoInt64
  have hc21 := h.outc
  have hb := h.lt
  have hb1 : b < w.heap.size + 1 := by omega
  have hown : Hid (w.ownsRow 0 2 1 ov T.out.length (T.out.map (Value.int .i64))) := h.out
  have H : Hid (ThAt w b bm iv ov T) := h
  have HM : Hid (MemAt w bm m) := hm
  have hl1 : T.out.length + 1 ≤ maxLen := by unfold maxLen; omega
  have hl2 : (T.out.length + 1) * 8 ≤ 140737488355328 := by omega
  clear h hm hl
  go_enter Tryz.func329, Tryz.ntmps329
  go_wp2_with (at_builtin; refine wpList_app1 rfl _ _ 31 rfl 2 i0 (.int .i64 0) 8 Tryz.underlying31 hi hz0 hz1 hz2 rfl ov T.out.length _ rfl (hown.out.alloc _) ⟨w.heap.size, 0, none⟩ (.int .i64 v) rfl (cell_one_new _ _ _) rfl hl1 hl2 ?_; go_must (intro g cap w1 hown1 hch hg; have hcb := give_cell H.out hch; have hfb := give_free H.out hch; have HC := hid hown1; have HD := hid hch; have HG := hid hg; clear hown1 hch hg))
  go_end0
  exact ⟨rfl, th_give_fin H.out HM.out v _ HC.out HD.out HG.out⟩
end
end Go.Proofs.YtfhkfnoajbbfdabGreatDoor

namespace Go.Proofs.YtfhkfnoajbbfdabGreatDoor
open Go.RowKit
/- Which function a method of a known type is. -/
theorem mNumOf (v : Value) (w : World) : (method 578 359 v "commits/codes.of").run Tryz.prog w = .ok (322, v) w := by kernel_rfl
theorem mRegOf (v : Value) (w : World) : (method 578 264 v "commits/codes.of").run Tryz.prog w = .ok (297, v) w := by kernel_rfl
theorem mSetRegister (v : Value) (w : World) : (method 578 75 v "SetRegister").run Tryz.prog w = .ok (333, v) w := by kernel_rfl
theorem mLoad (v : Value) (w : World) : (method 578 75 v "Load").run Tryz.prog w = .ok (331, v) w := by kernel_rfl
theorem mStore (v : Value) (w : World) : (method 578 75 v "Store").run Tryz.prog w = .ok (334, v) w := by kernel_rfl
theorem mSetCell (v : Value) (w : World) : (method 578 75 v "SetCell").run Tryz.prog w = .ok (80, v) w := by kernel_rfl
theorem mDrain (v : Value) (w : World) : (method 578 75 v "Drain").run Tryz.prog w = .ok (276, v) w := by kernel_rfl
theorem mGive (v : Value) (w : World) : (method 578 75 v "Give").run Tryz.prog w = .ok (329, v) w := by kernel_rfl
theorem mLeap (v : Value) (w : World) : (method 578 75 v "Leap").run Tryz.prog w = .ok (330, v) w := by kernel_rfl
theorem mEnd (v : Value) (w : World) : (method 578 75 v "End").run Tryz.prog w = .ok (328, v) w := by kernel_rfl
theorem mDomove (v : Value) (w : World) : (method 578 272 v "Do").run Tryz.prog w = .ok (304, v) w := by kernel_rfl
theorem mDooperate (v : Value) (w : World) : (method 578 270 v "Do").run Tryz.prog w = .ok (298, v) w := by kernel_rfl
theorem mDoload (v : Value) (w : World) : (method 578 277 v "Do").run Tryz.prog w = .ok (306, v) w := by kernel_rfl
theorem mDostore (v : Value) (w : World) : (method 578 279 v "Do").run Tryz.prog w = .ok (307, v) w := by kernel_rfl
theorem mDocas (v : Value) (w : World) : (method 578 281 v "Do").run Tryz.prog w = .ok (308, v) w := by kernel_rfl
theorem mDoxadd (v : Value) (w : World) : (method 578 283 v "Do").run Tryz.prog w = .ok (309, v) w := by kernel_rfl
theorem mDofence (v : Value) (w : World) : (method 578 285 v "Do").run Tryz.prog w = .ok (310, v) w := by kernel_rfl
theorem mDogive (v : Value) (w : World) : (method 578 287 v "Do").run Tryz.prog w = .ok (311, v) w := by kernel_rfl
theorem mDoleap (v : Value) (w : World) : (method 578 290 v "Do").run Tryz.prog w = .ok (312, v) w := by kernel_rfl
theorem mDoleapIf (v : Value) (w : World) : (method 578 292 v "Do").run Tryz.prog w = .ok (313, v) w := by kernel_rfl
theorem mDoend (v : Value) (w : World) : (method 578 295 v "Do").run Tryz.prog w = .ok (314, v) w := by kernel_rfl
end Go.Proofs.YtfhkfnoajbbfdabGreatDoor
