import Derived.WalkKit
import Derived.Test.YtfhkfnoajbbfdaaGreatDoorPart03
/- A thread and a memory as plain data, and what instructions do to them. -/
namespace Go.Proofs.YtfhkfnoajbbfdaaGreatDoor

/-- What an instruction reads: a register, or a number. -/
structure Vl where
  reg : Bool
  v : Int

/-- An instruction: its kind (0 move, 1 operate, 2 load, 3 store, 4 cas, 5 xadd, 6 fence, 7 give, 8 leap, 9 leapIf, 10 end), its operation, its register, its values, its number. -/
structure Ic where
  k : Nat
  op : Nat
  d : Nat
  a : Vl
  b : Vl
  c : Vl
  n : Int

structure Th where
  r : Nat → Int
  pl : Int
  q : List (Int × Int)
  out : List Int
  st : Int

def Vl.of (x : Vl) (T : Th) : Int := if x.reg = true then T.r x.v.toNat else x.v
def Vl.ok (x : Vl) : Prop := x.reg = true → 0 ≤ x.v ∧ x.v < 8
def Th.setR (T : Th) (d : Nat) (v : Int) : Th := { T with r := fun j => if j = d then v else T.r j }
def putM (m : Nat → Int) (a : Nat) (v : Int) : Nat → Int := fun j => if j = a then v else m j
def drainM (m : Nat → Int) : List (Int × Int) → Nat → Int
  | [] => m
  | p :: q => drainM (putM m p.1.toNat p.2) q
/-- A store more that waits; of four the first goes into the memory. -/
def storeQ (q : List (Int × Int)) (m : Nat → Int) (a v : Int) : List (Int × Int) × (Nat → Int) :=
  if q.length < 4 then (q ++ [(a, v)], m) else match q with
    | [] => ([(a, v)], m)
    | p :: q => (q ++ [(a, v)], putM m p.1.toNat p.2)
theorem storeQ_room {q : List (Int × Int)} {m : Nat → Int} {a v : Int} (h : q.length < 4) : storeQ q m a v = (q ++ [(a, v)], m) := by simp [storeQ, h]
theorem storeQ_full {p : Int × Int} {q : List (Int × Int)} {m : Nat → Int} {a v : Int} (h : q.length = 3) : storeQ (p :: q) m a v = (q ++ [(a, v)], putM m p.1.toNat p.2) := by simp [storeQ, h]
/-- Of what waits, the last first, the first that speaks of a; else m. -/
def seenIn (l : List (Int × Int)) (a m : Int) : Int := ((l.find? (fun p => p.1 == a)).map (·.2)).getD m

end Go.Proofs.YtfhkfnoajbbfdaaGreatDoor

namespace Go.Proofs.YtfhkfnoajbbfdaaGreatDoor
open Go.RowKit Go.Shelf

attribute [local go_sem] Oper.semAt_some

theorem seenIn_hit {l q r : List (Int × Int)} {p : Int × Int} {a m : Int} (hl : l = q ++ [p] ++ r) (hq : ∀ s ∈ q, (s.1 == a) = false) (hp : p.1 = a) : seenIn l a m = p.2 := by
  subst hl
  have h1 : List.find? (fun s : Int × Int => s.1 == a) q = none := by
    rw [List.find?_eq_none]; intro s hs; simp [hq s hs]
  simp [seenIn, List.find?_append, h1, hp]

theorem seenIn_none {l : List (Int × Int)} {a m : Int} (hq : ∀ s ∈ l, (s.1 == a) = false) : seenIn l a m = m := by
  have h1 : List.find? (fun s : Int × Int => s.1 == a) l = none := by
    rw [List.find?_eq_none]; intro s hs; simp [hq s hs]
  simp [seenIn, h1]

theorem backUpto_prefix (x y : Nat → Int) (f c k : Nat) (h : k ≤ c) : ∃ r, backUpto x y f c c = backUpto x y f c k ++ r := by
  induction c - k generalizing k with
  | zero => exact ⟨(backUpto x y f c c).drop k, by
      have : backUpto x y f c k = (backUpto x y f c c).take k := by
        simp only [backUpto, ← List.map_take, List.take_range, Nat.min_eq_left h]
      rw [this, List.take_append_drop]⟩
  | succ _ ih => exact ⟨(backUpto x y f c c).drop k, by
      have : backUpto x y f c k = (backUpto x y f c c).take k := by
        simp only [backUpto, ← List.map_take, List.take_range, Nat.min_eq_left h]
      rw [this, List.take_append_drop]⟩

set_option maxRecDepth 100000 in
set_option maxHeartbeats 2000000 in
theorem load_in (n : Nat) (hn : 4 ≤ n) (b bm f c : Nat) (x y : Nat → Int) (a m : Int) (w : World) (h0 : 0 ≤ a) (h1 : a < 256) (hbm : bm < w.heap.size) (hp : w.cell? ⟨b, 0, none⟩ = some (ptr bm)) (hm : w.cell? ⟨bm, a.toNat, none⟩ = some (.int .i64 m)) (hr : RingAt w b 11 x y f c) :
    CallsIn Fence.wide n Tryz.prog 349 #[ptr b, .int .i64 a] w fun e W' => e = .returned (.int .i64 (seenIn (backUpto x y f c c) a m)) ∧ Below w.heap.size w W' := by
  have h1' : 1 ≤ n := by omega
  have hb := hr.lt
  have HR : Hid (RingAt w b 11 x y f c) := hr
  clear hr
  refine callsIn_of_wp_marks Tryz.func349 rfl trivial ?_ rfl
  simp only [Tryz.ntmps349, List.size_toArray, List.length_cons, List.length_nil, Nat.reduceAdd, Nat.reduceSub, Array.replicate_succ, Array.replicate_zero, List.push_toArray, List.append_toArray, List.nil_append, List.cons_append]
  have hw : ∀ f, Fence.wide.fn f := fun _ => trivial
  gi_wp2_with (gi_at_call 353; refine (callsIn_wide.2 (back_any _ _ _)).mono ?_; rintro e w' ⟨rfl, rfl⟩)
  have bA := ((Boxed.new w 3 (.int .i64 a)).alloc (.cells #[.int .i64 0] 2)).alloc (.cells #[.pointer (some ⟨b, 11, none⟩)] 275)
  have bR := (Boxed.new (w.alloc (.cells #[.int .i64 a] 3)) 2 (.int .i64 0)).alloc (.cells #[.pointer (some ⟨b, 11, none⟩)] 275)
  have bP := Boxed.new ((w.alloc (.cells #[.int .i64 a] 3)).alloc (.cells #[.int .i64 0] 2)) 275 (.pointer (some ⟨b, 11, none⟩))
  simp only [World.size_alloc] at bR bP
  have hB0 : Below w.heap.size w (((w.alloc (.cells #[.int .i64 a] 3)).alloc (.cells #[.int .i64 0] 2)).alloc (.cells #[.pointer (some ⟨b, 11, none⟩)] 275)) := (((Below.refl _ w).alloc (Nat.le_refl _) _).alloc (by simp) _).alloc (by simp; omega) _
  have hsz : (((w.alloc (.cells #[.int .i64 a] 3)).alloc (.cells #[.int .i64 0] 2)).alloc (.cells #[.pointer (some ⟨b, 11, none⟩)] 275)).heap.size = w.heap.size + 3 := by simp
  obtain ⟨W0, hW0⟩ : ∃ W0, ((w.alloc (.cells #[.int .i64 a] 3)).alloc (.cells #[.int .i64 0] 2)).alloc (.cells #[.pointer (some ⟨b, 11, none⟩)] 275) = W0 := ⟨_, rfl⟩
  rw [hW0] at bA bR bP hB0 hsz ⊢
  clear hW0
  have hrW : RingAt W0 b 11 x y f c := HR.out.chg (M := fun _ _ => False) (Chg.of_below hB0) (fun _ _ h => h)
  refine wpIn_rangeFunc_ownH rfl h1' (gf := 355) (lb := #[.pointer (some ⟨w.heap.size + 1 + 1, 0, none⟩)]) rfl trivial (enters_of Tryz.func355 (by kernel_rfl) rfl)
    (back_stops (n - 1) (by omega) (w.heap.size + 1 + 1) W0.heap.size b 11 f c x y W0 (by omega) (by omega) (Nat.le_refl _) bP.cell hrW) belowK_t (belowK_b (Nat.le_refl _)) (Below.refl _ _) (fun _ => rfl)
    (fun pre W => ((Boxed W w.heap.size 3 (.int .i64 a) ∧ Boxed W (w.heap.size + 1) 2 (.int .i64 0)) ∧ ((∀ p ∈ pre, (p.1 == a) = false) ∧ W0.heap.size ≤ W.heap.size)) ∧ Below w.heap.size w W)
    (fun c' pre W => ((c' = .ret ∧ ∃ q p, pre = q ++ [p] ∧ (∀ s ∈ q, (s.1 == a) = false) ∧ p.1 = a ∧ Boxed W (w.heap.size + 1) 2 (.int .i64 p.2))) ∧ Below w.heap.size w W)
    (OwnFrom.and (OwnFrom.and (OwnFrom.and (Own.from (boxed_own _ _ _) _) (Own.from (boxed_own _ _ _) _)) (fun _ _ _ _ hs hg _ => ⟨hs.1, Nat.le_trans hs.2 hg.size⟩)) (ownFrom_below (Nat.le_refl _) (by omega)))
    (fun c' => OwnFrom.and (fun pre X Y row hs hg hr => by obtain ⟨h1, q, p, h2, h3, h4, h5⟩ := hs; exact ⟨h1, q, p, h2, h3, h4, boxed_own _ 2 (fun (_ : Unit) => Value.int .i64 p.2) () X Y row h5 hg (fun r e => (hr r e).2)⟩) (ownFrom_below (Nat.le_refl _) (by omega)))
    ⟨⟨⟨bA, bR⟩, by simp, Nat.le_refl _⟩, hB0⟩
    (fun p a' W => ∃ Bx, w.heap.size + 2 < Bx ∧ W.cell? ⟨Bx, 0, none⟩ = some (.int .i64 p.1) ∧ W.cell? ⟨Bx, 1, none⟩ = some (.int .i64 p.2) ∧ a' = { tmps := #[ptr b, .int .i64 a, undef, .pointer (some ⟨w.heap.size, 0, none⟩), .pointer (some ⟨w.heap.size + 1, 0, none⟩), .pointer (some ⟨Bx, 0, none⟩), ptr b, .pointer (some ⟨b, 0, none⟩), .pointer (some ⟨b, 11, none⟩), .func (.func 355) #[] #[.pointer (some ⟨w.heap.size + 1 + 1, 0, none⟩)], .agg #[.int .i64 p.1, .int .i64 p.2], undef, undef, undef, undef, undef, undef, undef, undef, undef, undef, undef, undef, undef, undef], defers := [] })
    (fun p a' _ X Y row hs hg hr => by obtain ⟨Bx, k1, k2, k3, k4⟩ := hs; exact ⟨Bx, k1, cell_kept k2 hg (fun r e => (hr r e).2), cell_kept k3 hg (fun r e => (hr r e).2), k4⟩)
    ?assign ?body ?done ?stop
  case assign =>
    rintro l pre p W K ⟨⟨⟨bA1, bR1⟩, hq, hWs⟩, hB1⟩ hK
    gi_wp2
    refine hK _ _ ((KeepsOthers.alloc _ _).from _) ((Below.refl _ W).alloc hWs _) ⟨⟨⟨bA1.alloc _, bR1.alloc _⟩, hq, by simp; omega⟩, hB1.alloc hB1.size _⟩ ⟨W.heap.size, by omega, ?_, ?_, rfl⟩
    · simp [go_sem]
    · simp [go_sem]
  case body =>
    rintro l pre p a' W hl _ ⟨⟨⟨bA1, bR1⟩, hq, hWs⟩, hB1⟩ ⟨Bx, hBx, k1, k2, rfl⟩ hlt
    have cA := bA1.cell
    have cR := bR1.cell
    have zR := bR1.frozen
    by_cases hpa : p.1 = a
    · have hpb : (p.1 == a) = true := by simp [hpa]
      gi_wp2
      exact ⟨(KeepsOthers.setCell _ _ _).from _, ⟨rfl, pre, p, rfl, hq, hpa, bR1.set _⟩, hB1.setCell (p := ⟨w.heap.size + 1, 0, none⟩) (by simp) _⟩
    · have hpb : (p.1 == a) = false := by simp [hpa]
      gi_wp2
      exact ⟨KeepsFrom.refl _ _, Below.refl _ _, ⟨⟨bA1, bR1⟩, fun s hs => (List.mem_append.1 hs).elim (hq s) (fun e => by simp at e; subst e; exact hpb), hWs⟩, hB1⟩
  case done =>
    rintro D ys W hD rfl ⟨⟨⟨bA1, bR1⟩, hq, hWs⟩, hB1⟩ hK
    obtain ⟨j, rfl⟩ := Int.eq_ofNat_of_zero_le h0
    simp only [Int.toNat_natCast] at hm
    have cA := bA1.cell
    have cR := bR1.cell
    have zR := bR1.frozen
    have hp1 : W.cell? ⟨b, 0, none⟩ = some (.pointer (some ⟨bm, 0, none⟩)) := (hB1.cell (p := ⟨b, 0, none⟩) hb).trans hp
    have hm1 : W.cell? ⟨bm, j, none⟩ = some (.int .i64 m) := (hB1.cell (p := ⟨bm, j, none⟩) hbm).trans hm
    have HD : Hid (w.heap.size + 3 ≤ D) := show w.heap.size + 3 ≤ D by omega
    have HK : Hid (W.heap[D]? = some (.deferred (some []))) := hK
    clear hK hm hp
    gi_wp2
    gi_region
    all_goals gi_wp2
    all_goals
      have hK' : ((W.setCell ⟨w.heap.size + 1, 0, none⟩ (.int .i64 m)).drew).heap[D]? = some (.deferred (some [])) := (KeepsOthers.setCell W ⟨w.heap.size + 1, 0, none⟩ (.int .i64 m)).same D _ HK.out rfl
      refine ⟨by simp, .inl ⟨_, _, rfl, run_takeDeferred hK', ?_⟩⟩
      have hc5 := cell_kept (show ((W.setCell ⟨w.heap.size + 1, 0, none⟩ (.int .i64 m)).drew).cell? ⟨w.heap.size + 1, 0, none⟩ = some (.int .i64 m) from (bR1.set (.int .i64 m)).cell) (grownBy_putObj' _ D (.deferred none)) (fun r e => by cases e; exact ⟨_, hK', rfl⟩)
      refine ⟨.int .i64 m, ?_, by rw [seenIn_none hq], ((hB1.setCell (p := ⟨w.heap.size + 1, 0, none⟩) (by simp) _).drew).trans (belowK_b (w := w) (Nat.le_refl _) _ D _ _ (by have := HD.out; omega) hK' rfl rfl)⟩
      simp [results, Tryz.f349, go_sem, hc5]
  case stop =>
    rintro D c' pre W hD ⟨k, hk, rfl⟩ ⟨⟨rfl, q, p, h2, h3, h4, h5⟩, hB1⟩ hK
    gi_wp2
    refine ⟨by simp, .inl ⟨_, _, rfl, run_takeDeferred hK, ?_⟩⟩
    have hc5 := cell_kept h5.cell (grownBy_putObj' _ D (.deferred none)) (fun r e => by cases e; exact ⟨_, hK, rfl⟩)
    obtain ⟨r, hr⟩ := backUpto_prefix x y f c k hk
    refine ⟨.int .i64 p.2, ?_, by rw [seenIn_hit (hr.trans (by rw [h2])) h3 h4], hB1.trans (belowK_b (w := w) (Nat.le_refl _) W D _ _ (by omega) hK rfl rfl)⟩
    simp [results, Tryz.f349, go_sem, hc5]
theorem load_any (b bm f c : Nat) (x y : Nat → Int) (a m : Int) (w : World) (h0 : 0 ≤ a) (h1 : a < 256) (hbm : bm < w.heap.size) (hp : w.cell? ⟨b, 0, none⟩ = some (ptr bm)) (hm : w.cell? ⟨bm, a.toNat, none⟩ = some (.int .i64 m)) (hr : RingAt w b 11 x y f c) :
    Calls Tryz.prog 349 #[ptr b, .int .i64 a] w fun e W' => e = .returned (.int .i64 (seenIn (backUpto x y f c c) a m)) ∧ Below w.heap.size w W' :=
  callsIn_wide.1 (load_in 4 (Nat.le_refl _) b bm f c x y a m w h0 h1 hbm hp hm hr)

end Go.Proofs.YtfhkfnoajbbfdaaGreatDoor

namespace Go.Proofs.YtfhkfnoajbbfdaaGreatDoor
open Go.RowKit

/-- What waits, the oldest first: a ring that holds the list q. -/
def RingQ (w : World) (b o : Nat) (q : List (Int × Int)) : Prop :=
  ∃ x y f, RingAt w b o x y f q.length ∧ ∀ i (h : i < q.length), x ((f + i) % 4) = q[i].1 ∧ y ((f + i) % 4) = q[i].2

theorem RingQ.lt {w : World} {b o : Nat} {q : List (Int × Int)} (h : RingQ w b o q) : b < w.heap.size := let ⟨_, _, _, h, _⟩ := h; h.lt
theorem RingQ.le {w : World} {b o : Nat} {q : List (Int × Int)} (h : RingQ w b o q) : q.length ≤ 4 := let ⟨_, _, _, h, _⟩ := h; h.count
theorem RingQ.count {w : World} {b o : Nat} {q : List (Int × Int)} (h : RingQ w b o q) : w.cell? ⟨b, o + 9, none⟩ = some (.int .i64 (q.length : Int)) := let ⟨_, _, _, h, _⟩ := h; h.c9

theorem RingQ.chg {w w' : World} {b o : Nat} {q : List (Int × Int)} {M : Nat → Nat → Prop} (h : RingQ w b o q) (hc : Chg M w w') (hM : ∀ j, j < 10 → ¬ M b (o + j)) : RingQ w' b o q :=
  let ⟨x, y, f, hr, hq⟩ := h; ⟨x, y, f, hr.chg hc hM, hq⟩

theorem backUpto_reverse {x y : Nat → Int} {f : Nat} {q : List (Int × Int)} (hq : ∀ i (h : i < q.length), x ((f + i) % 4) = q[i].1 ∧ y ((f + i) % 4) = q[i].2) : backUpto x y f q.length q.length = q.reverse := by
  apply List.ext_getElem
  · simp [backUpto]
  · intro i h1 h2
    simp [backUpto] at h1
    have := hq (q.length - 1 - i) (by omega)
    simp only [backUpto, List.getElem_map, List.getElem_range, ringBack, List.getElem_reverse]
    rw [this.1, this.2]

theorem popQ_nil (b o : Nat) (w : World) (h : RingQ w b o []) :
    Calls Tryz.prog 113 #[.pointer (some ⟨b, o, none⟩)] w fun e w' => e = .returned (.tuple #[.agg #[.int .i64 0, .int .i64 0], .bool false]) ∧ Below w.heap.size w w' :=
  pop_none b o w h.lt h.count

theorem popQ_cons (b o : Nat) (p : Int × Int) (q : List (Int × Int)) (w : World) (h : RingQ w b o (p :: q)) :
    Calls Tryz.prog 113 #[.pointer (some ⟨b, o, none⟩)] w fun e w' => e = .returned (.tuple #[.agg #[.int .i64 p.1, .int .i64 p.2], .bool true]) ∧ Chg (inRing b o) w w' ∧ RingQ w' b o q := by
  obtain ⟨x, y, f, hr, hq⟩ := h
  have hf := hr.first
  have h0 := hq 0 (by simp)
  have hc := hr.count
  simp only [List.length_cons] at hc
  have e0 : (f + 0) % 4 = f := by omega
  rw [e0] at h0
  simp only [List.getElem_cons_zero] at h0
  refine (pop_some b o f _ x y w hr (by simp)).mono ?_
  rintro e w' ⟨rfl, hch, hr'⟩
  refine ⟨by rw [h0.1, h0.2], hch, _, _, _, hr', ?_⟩
  intro i hi
  have := hq (i + 1) (by simpa using hi)
  simp only [List.getElem_cons_succ] at this
  have e1 : ((f + 1) % 4 + i) % 4 = (f + (i + 1)) % 4 := by omega
  have e2 : ¬ (f + (i + 1)) % 4 = f := by omega
  rw [e1, if_neg e2, if_neg e2]
  exact this

theorem pushQ_room (b o : Nat) (p v : Int) (q : List (Int × Int)) (w : World) (h : RingQ w b o q) (hl : q.length < 4) :
    Calls Tryz.prog 354 #[.pointer (some ⟨b, o, none⟩), .agg #[.int .i64 p, .int .i64 v]] w fun e w' => e = .returned (.tuple #[.agg #[.int .i64 0, .int .i64 0], .bool false]) ∧ Chg (inRing b o) w w' ∧ RingQ w' b o (q ++ [(p, v)]) := by
  obtain ⟨x, y, f, hr, hq⟩ := h
  refine (push_room b o f _ x y p v w hr hl).mono ?_
  rintro e w' ⟨rfl, hch, hr'⟩
  refine ⟨rfl, hch, _, _, _, by rw [List.length_append]; exact hr', ?_⟩
  intro i hi
  by_cases hiq : i < q.length
  · have e2 : ¬ (f + i) % 4 = (f + q.length) % 4 := by omega
    rw [if_neg e2, if_neg e2, List.getElem_append_left hiq]
    exact hq i hiq
  · have hi' : i = q.length := by simp at hi; omega
    subst hi'
    simp

theorem pushQ_full (b o : Nat) (p v : Int) (p0 : Int × Int) (q : List (Int × Int)) (w : World) (h : RingQ w b o (p0 :: q)) (hl : q.length = 3) :
    Calls Tryz.prog 354 #[.pointer (some ⟨b, o, none⟩), .agg #[.int .i64 p, .int .i64 v]] w fun e w' => e = .returned (.tuple #[.agg #[.int .i64 p0.1, .int .i64 p0.2], .bool true]) ∧ Chg (inRing b o) w w' ∧ RingQ w' b o (q ++ [(p, v)]) := by
  obtain ⟨x, y, f, hr, hq⟩ := h
  have hf := hr.first
  have h0 := hq 0 (by simp)
  have e0 : (f + 0) % 4 = f := by omega
  rw [e0] at h0
  simp only [List.getElem_cons_zero] at h0
  have hr4 : RingAt w b o x y f 4 := by
    have : (p0 :: q).length = 4 := by simp [hl]
    rw [this] at hr; exact hr
  refine (push_full b o f x y p v w hr4).mono ?_
  rintro e w' ⟨rfl, hch, hr'⟩
  refine ⟨by rw [h0.1, h0.2], hch, _, _, _, by rw [List.length_append, hl]; exact hr', ?_⟩
  intro i hi
  by_cases hiq : i < q.length
  · have := hq (i + 1) (by simpa using hiq)
    simp only [List.getElem_cons_succ] at this
    have e1 : ((f + 1) % 4 + i) % 4 = (f + (i + 1)) % 4 := by omega
    have e2 : ¬ (f + (i + 1)) % 4 = f := by omega
    rw [e1, if_neg e2, if_neg e2, List.getElem_append_left hiq]
    exact this
  · have hi' : i = q.length := by simp at hi; omega
    subst hi'
    have e1 : ((f + 1) % 4 + q.length) % 4 = f := by omega
    rw [e1]
    simp

theorem loadQ (b bm : Nat) (q : List (Int × Int)) (a m : Int) (w : World) (h0 : 0 ≤ a) (h1 : a < 256) (hbm : bm < w.heap.size) (hp : w.cell? ⟨b, 0, none⟩ = some (ptr bm)) (hm : w.cell? ⟨bm, a.toNat, none⟩ = some (.int .i64 m)) (hr : RingQ w b 11 q) :
    Calls Tryz.prog 349 #[ptr b, .int .i64 a] w fun e W' => e = .returned (.int .i64 (seenIn q.reverse a m)) ∧ Below w.heap.size w W' := by
  obtain ⟨x, y, f, hr, hq⟩ := hr
  have := load_any b bm f _ x y a m w h0 h1 hbm hp hm hr
  rw [backUpto_reverse hq] at this
  exact this

end Go.Proofs.YtfhkfnoajbbfdaaGreatDoor
