import Derived.Test.YtfhkfnoajbbfdabGreatDoorPart31
import Derived.Test.YtfhkfnoajbbfdabGreatDoorPart24
import Derived.Test.YtfhkfnoajbbfdabGreatDoorPart30
import Derived.Test.YtfhkfnoajbbfdabGreatDoorPart28
import Derived.Test.YtfhkfnoajbbfdabGreatDoorProg
import Derived.Deep.RegionHeld
import Derived.RegionIn
import Derived.RangeFuncCalls
/- Known, purely: what a program's threads show, one after the other. -/
namespace Go.Proofs.YtfhkfnoajbbfdabGreatDoor
open Go.RowKit

abbrev Mx := List (Th × List Ic) × (Nat → Int)

/-- A thread alone until its end, at most so many steps. -/
def runE (t : Nat) : Nat → Mx → Option Mx
  | 0, p => if stOf p.1 t = 0 then none else some p
  | f + 1, p => if stOf p.1 t = 0 then runE t f (sfA t p) else some p

def runAll : List (List Int × Int) → Nat → Mx → Bool
  | [], _, _ => true
  | (o, s) :: r, t, p => match runE t 250 p with
    | none => false
    | some p' => decide (outsOf p'.1 t = o) && (decide (stOf p'.1 t = s) && runAll r (t + 1) p')

theorem sfN_in (t : Nat) : ∀ (n : Nat) (p : Mx), sfN t (n + 1) p = sfN t n (sfA t p)
  | 0, _ => rfl
  | n + 1, p => by
    show sfA t (sfN t (n + 1) p) = sfA t (sfN t n (sfA t p))
    rw [sfN_in t n p]

theorem runE_spec (t : Nat) : ∀ (f : Nat) (p p' : Mx), runE t f p = some p' → ∃ N, N ≤ f ∧ p' = sfN t N p ∧ (∀ k, k < N → stOf (sfN t k p).1 t = 0) ∧ stOf p'.1 t ≠ 0
  | 0, p, p', h => by
    unfold runE at h
    split at h
    · simp at h
    · rename_i hs
      simp only [Option.some.injEq] at h
      subst h
      exact ⟨0, Nat.le_refl _, rfl, fun k hk => by omega, hs⟩
  | f + 1, p, p', h => by
    unfold runE at h
    split at h
    · rename_i hs
      obtain ⟨N, h1, h2, h3, h4⟩ := runE_spec t f _ p' h
      refine ⟨N + 1, by omega, by rw [sfN_in]; exact h2, fun k hk => ?_, h4⟩
      cases k with
      | zero => exact hs
      | succ k => rw [sfN_in]; exact h3 k (by omega)
    · rename_i hs
      simp only [Option.some.injEq] at h
      subst h
      exact ⟨0, Nat.zero_le _, rfl, fun k hk => by omega, hs⟩

theorem sfN_fine (t : Nat) {M : Nat} {p : Mx} (h : Fine M p.1) : ∀ n, Fine (M + n) (sfN t n p).1
  | 0 => h
  | n + 1 => ((sfN_fine t h n).step _ t).flush _ t

/-- The machine behind the first threads. -/
def pAt (p : Mx) : Nat → Mx
  | 0 => p
  | t + 1 => (runE t 250 (pAt p t)).getD (pAt p t)

theorem runAll_at : ∀ (rs : List (List Int × Int)) (t : Nat) (p : Mx), runAll rs t (pAt p t) = true → ∀ (i : Nat) (o : List Int) (s : Int), rs[i]? = some (o, s) → runE (t + i) 250 (pAt p (t + i)) = some (pAt p (t + i + 1)) ∧ outsOf (pAt p (t + i + 1)).1 (t + i) = o ∧ stOf (pAt p (t + i + 1)).1 (t + i) = s
  | [], _, _, _, i, o, s, hi => by simp at hi
  | (o', s') :: r, t, p, h, i, o, s, hi => by
    simp only [runAll] at h
    cases hr : runE t 250 (pAt p t) with
    | none => rw [hr] at h; simp at h
    | some p' =>
      rw [hr] at h
      simp only [Bool.and_eq_true, decide_eq_true_eq] at h
      have hp : pAt p (t + 1) = p' := by show (runE t 250 (pAt p t)).getD (pAt p t) = p'; rw [hr]; rfl
      cases i with
      | zero =>
        simp only [List.getElem?_cons_zero, Option.some.injEq, Prod.mk.injEq] at hi
        obtain ⟨rfl, rfl⟩ := hi
        rw [Nat.add_zero, hp]
        exact ⟨hr, h.1, h.2.1⟩
      | succ i =>
        have := runAll_at r (t + 1) p (by rw [hp]; exact h.2.2) i o s (by simpa using hi)
        rw [show t + (i + 1) = t + 1 + i by omega]
        exact this

theorem pAt_fine {p : Mx} {M : Nat} (h : Fine M p.1) : ∀ t, Fine (M + 250 * t) (pAt p t).1
  | 0 => h
  | t + 1 => by
    have ih := pAt_fine h t
    show Fine _ ((runE t 250 (pAt p t)).getD (pAt p t)).1
    cases hr : runE t 250 (pAt p t) with
    | none => exact ih.mono (by omega)
    | some p' =>
      obtain ⟨N, h1, h2, _, _⟩ := runE_spec t 250 _ _ hr
      show Fine _ p'.1
      rw [h2]
      exact (sfN_fine t ih N).mono (by omega)

section
variable {D : Nat → Prop} {w : World} {bm : Nat} {p p' : Mx}

/-- A thread alone until its end. -/
theorem end_e (h : MRep D w bm p.1 p.2) (hD : ∀ k, w.heap.size ≤ k → D k) {M : Nat} (hf : Fine M p.1) (hM : M < 1000000) (t : Nat) (hr : runE t 250 p = some p') :
    Calls Tryz.prog 21 #[ptr bm, .int .i64 t] w fun e w' => e = .returned (.bool true) ∧ MRep D w' bm p'.1 p'.2 ∧ Chg (fun k _ => D k) w w' := by
  obtain ⟨N, h1, h2, h3, h4⟩ := runE_spec t 250 p p' hr
  rw [h2] at h4 ⊢
  exact end_n h hD t N (by omega) h3 h4 (fun k hk => (sfN_fine t hf k).ok (by omega))
end
end Go.Proofs.YtfhkfnoajbbfdabGreatDoor

/- Known, at a program: it is made, its threads run one after the other. -/
namespace Go.Proofs.YtfhkfnoajbbfdabGreatDoor
open Go.RowKit

theorem outs_len {M : Nat} {A : List (Th × List Ic)} (h : Fine M A) (i : Nat) : (outsOf A i).length ≤ M := by
  unfold outsOf
  split
  · rename_i q hq
    exact (h q (List.mem_iff_getElem?.2 ⟨i, hq⟩)).2.2.2
  · simp

theorem ShowAt.map {X Y : World} {go gs t : Nat} {o : List Int} {s : Int} (h : ShowAt X go gs t o s) (k : ∀ b i v, X.cell? ⟨b, i, none⟩ = some v → Y.cell? ⟨b, i, none⟩ = some v) : ShowAt Y go gs t o s := by
  obtain ⟨a, c, h1, h2⟩ := h.out
  exact ⟨k _ _ _ h.st, a, c, k _ _ _ h1, fun i v hv => by
    obtain ⟨ga, q1, q2, q3⟩ := h2 i v hv
    exact ⟨ga, q1, q2, k _ _ _ q3⟩⟩

section
variable {W W3 : World} {r v c : Nat} {a : Int}

set_option maxRecDepth 100000 in
set_option maxHeartbeats 8000000 in
theorem known_run (h : Lists W W3 r v c) (k : Nat) (hk : k < 13) {s : ByteArray} {rs : List (List Int × Int)} (hp : knRans[k]? = some (s, rs)) (hrs : rs.length ≤ 3) (p : Mx) (hall : runAll rs 0 p = true)
    (KP : Hid (∀ w, Calls Tryz.prog 13 #[.int .i64 a, .int .i64 53] w fun e w' => e = .returned (.int .i64 (k : Int)) ∧ w' = w))
    (KM : Hid (∀ w, Below W.heap.size W w → Calls Tryz.prog 8 #[.string s] w fun e w' => ∃ bm D, e = .returned (ptr bm) ∧ MRep D w' bm p.1 p.2 ∧ (∀ k, w'.heap.size ≤ k → D k) ∧ (∀ k, D k → w.heap.size ≤ k) ∧ Fine 0 p.1 ∧ Below w.heap.size w w')) :
    Calls Tryz.prog 6 #[.int .i64 a] W fun e w' => e = .returned (.bool true) ∧ Below W.heap.size W w' := by
  have hra := h.rans k s rs hp
  have cs := hra.s
  obtain ⟨go, gs, co, ct, hsh⟩ := hra.r
  obtain ⟨W1, W2, k1, k2, k3⟩ := h.run
  have hlow := hid h.low
  have lr := World.block_lt_of_cell? _ _ cs
  have h40 : ¬ 40 ≤ (k : Int) := by omega
  have h13 : ¬ 13 ≤ (k : Int) := by omega
  have j0 : (0 : Int) ≤ (k : Int) := by omega
  have j13 : (k : Int) < 13 := by omega
  have K1 := hid k1
  have K2 := hid k2
  have K3 := hid k3
  have HSH := hid hsh
  have HA := hid (runAll_at rs 0 p hall)
  clear h k1 k2 k3 hsh hra hall
  go_enter Tryz.func6, Tryz.ntmps6
  go_wp2_with fail
  refine K1.out.mono ?_
  rintro e w' ⟨rfl, rfl⟩
  go_wp2_with fail
  refine K2.out.mono ?_
  rintro e w' ⟨rfl, rfl⟩
  go_wp2_with fail
  refine K3.out.mono ?_
  rintro e w' ⟨rfl, hw3⟩
  subst hw3
  go_wp2_with fail
  refine (KP.out _).mono ?_
  rintro e w' ⟨rfl, hw4⟩
  subst hw4
  go_wp2_with fail
  refine (KM.out _ hlow.out).mono ?_
  rintro e w4 ⟨bm, D, rfl, hM, hD, hDl, hf, hb⟩
  have HF := hid (pAt_fine hf)
  have q : ∀ b i v, w'.cell? ⟨b, i, none⟩ = some v → w4.cell? ⟨b, i, none⟩ = some v := fun b i v hv => (hb.cell (p := ⟨b, i, none⟩) (World.block_lt_of_cell? _ _ hv)).trans hv
  have HQ := hid q
  have HM := hid hM
  have HD := hid hD
  have HDL := hid hDl
  have HB := hid hb
  clear hM hD hDl hb q hf
  go_wp2_with fail
  go_loopw [16] (fun v16 wr => ∃ i : Nat, i ≤ rs.length ∧ v16 = .int .i64 i ∧ Hid (MRep D wr bm (pAt p i).1 (pAt p i).2 ∧ Chg (fun k _ => D k) w4 wr)) (fun v16 _ => rs.length - (intOf v16).toNat)
  case atStart => exact ⟨0, Nat.zero_le _, rfl, hid ⟨HM.out, Chg.refl _ _⟩⟩
  case round =>
    obtain ⟨i, hi, rfl, hI⟩ := hrel
    have kq : ∀ b i v, w'.cell? ⟨b, i, none⟩ = some v → wr.cell? ⟨b, i, none⟩ = some v := fun b i v hv => (hI.out.2.cell b i (World.block_lt_of_cell? _ _ (HQ.out b i v hv)) (fun e => by
      have h1 := HDL.out b e
      have h2 := World.block_lt_of_cell? _ _ hv
      simp at h2
      omega)).trans (HQ.out b i v hv)
    have KQ := hid kq
    have do1 := kq _ _ _ co
    have dt1 := kq _ _ _ ct
    by_cases hlt : i < rs.length
    · have hlt' : (i : Int) < (rs.length : Int) := by omega
      have hi0 : (0 : Int) ≤ (i : Int) := by omega
      obtain ⟨o, s', hos⟩ : ∃ o s', rs[i]? = some (o, s') := ⟨rs[i].1, rs[i].2, by rw [List.getElem?_eq_getElem hlt]⟩
      obtain ⟨hrun, hout, hst⟩ := HA.out i o s' hos
      rw [Nat.zero_add] at hrun hout hst
      have hol : o.length ≤ 1000 := by
        have := outs_len (HF.out (i + 1)) i
        rw [hout] at this
        omega
      have hsh := (HSH.out i o s' hos).map kq
      have KE := hid (end_e hI.out.1 (fun k hk => HD.out k (Nat.le_trans hI.out.2.size hk)) (HF.out i) (by omega) i hrun)
      clear kq hrun
      go_wp2_with fail
      refine KE.out.mono ?_
      rintro e w5 ⟨rfl, h5, c5⟩
      have KO := hid (p_outG h5 (HF.out (i + 1)) (by omega) i)
      rw [hout] at KO
      have H5 := hid h5
      have C5 := hid c5
      clear KE h5 c5
      go_wp2_with fail
      refine KO.out.mono ?_
      rintro e w6 ⟨oa, rfl, b6, hoa⟩
      have H6 := hid (H5.out.below b6)
      have KS := hid (p_stateG H6.out i)
      rw [hst] at KS
      have B6 := hid b6
      have HOA := hid hoa
      have C6 : Hid (Chg (fun k _ => D k) w4 w6) := hid ((hI.out.2.trans C5.out).trans (Chg.of_below b6))
      have kq6 : ∀ b i v, w'.cell? ⟨b, i, none⟩ = some v → w6.cell? ⟨b, i, none⟩ = some v := fun b i v hv => (C6.out.cell b i (World.block_lt_of_cell? _ _ (HQ.out b i v hv)) (fun e => by
        have h1 := HDL.out b e
        have h2 := World.block_lt_of_cell? _ _ hv
        simp at h2
        omega)).trans (HQ.out b i v hv)
      have hsh6 := (HSH.out i o s' hos).map kq6
      have d1 := kq6 _ _ _ co
      have d2 := kq6 _ _ _ ct
      have d3 := hsh6.st
      obtain ⟨xa, xc, d4, hx⟩ := hsh6.out
      have HX := hid hx
      clear KO b6 hoa kq6 hsh hsh6 hx do1 dt1 KQ
      go_wp2_with fail
      refine KS.out.mono ?_
      rintro e w7 ⟨rfl, rfl⟩
      clear KS
      go_wp2_with fail
      go_loopw [20] (fun v20 wq => ∃ j : Nat, j ≤ o.length ∧ v20 = .int .i64 j ∧ Hid (Below w7.heap.size w7 wq)) (fun v20 _ => o.length - (intOf v20).toNat)
      case atStart => exact ⟨0, Nat.zero_le _, rfl, hid (Below.refl _ _)⟩
      case round =>
        obtain ⟨j, hj, rfl, hJ⟩ := hrel
        by_cases hjl : j < o.length
        · have hjl' : (j : Int) < (o.length : Int) := by omega
          have hj0 : (0 : Int) ≤ (j : Int) := by omega
          have HJL : Hid (j + 1 ≤ o.length) := hid hjl
          have kj : ∀ b i v, w7.cell? ⟨b, i, none⟩ = some v → wr.cell? ⟨b, i, none⟩ = some v := fun b i v hv => (hJ.out.cell (p := ⟨b, i, none⟩) (World.block_lt_of_cell? _ _ hv)).trans hv
          obtain ⟨ga, hxa, hxc, f1⟩ := HX.out j o[j] (List.getElem?_eq_getElem hjl)
          subst hxa
          obtain ⟨g2, hoa, f2⟩ : ∃ g2, oa = some ⟨g2, 0, none⟩ ∧ w7.cell? ⟨g2, j, none⟩ = some (.int .i64 o[j]) := by
            rcases HOA.out with e | ⟨g, e1, _, e3⟩
            · rw [e] at hjl; simp at hjl
            · exact ⟨g, e1, e3 j hjl⟩
          subst hoa
          have g1 := kj _ _ _ f1
          have g3 := kj _ _ _ f2
          have g4 := kj _ _ _ d1
          have g5 := kj _ _ _ d4
          generalize o[j] = ov at *
          clear kj f1 f2
          go_wp2_with fail
          go_region_law fail
          all_goals
            go_wp2
            go_roundw
            case rel => exact ⟨j + 1, HJL.out, by go_num, hid (hJ.out.trans ⟨rfl, rfl, rfl, Nat.le_refl _, fun _ _ => rfl⟩)⟩
            case measure => have := HJL.out; simp [intOf]; omega
        · have hjl' : ¬ (j : Int) < (o.length : Int) := by omega
          go_wp2
          go_roundw
          case rel => exact ⟨i + 1, by omega, by go_num, hid ⟨H6.out.below hJ.out, C6.out.trans (Chg.of_below hJ.out)⟩⟩
          case measure => simp [intOf]; omega
    · have hlt' : ¬ (i : Int) < (rs.length : Int) := by omega
      go_wp2
      go_ret
      exact ⟨rfl, (hlow.out.trans (HB.out.mono hlow.out.size)).trans (hI.out.2.below (Nat.le_trans hlow.out.size HB.out.size) (fun k i e => Nat.le_trans hlow.out.size (HDL.out k e)))⟩
end
end Go.Proofs.YtfhkfnoajbbfdabGreatDoor

/- The coder: all cells of a variable marked. -/
namespace Go.Proofs.YtfhkfnoajbbfdabGreatDoor
open Go.RowKit

/-- The first n cells from f on marked. -/
def markN (l : List Bool) (f n : Nat) : List Bool := (List.range n).foldl (fun l i => l.set (f + i) true) l

theorem markN_succ (l : List Bool) (f n : Nat) : markN l f (n + 1) = (markN l f n).set (f + n) true := by
  simp [markN, List.range_succ, List.foldl_append]

theorem markN_len (l : List Bool) (f : Nat) : ∀ n, (markN l f n).length = l.length
  | 0 => rfl
  | n + 1 => by rw [markN_succ, List.length_set, markN_len l f n]

/-- Marks from offset o on. -/
def MarksAt (w : World) (b o : Nat) (l : List Bool) : Prop := ∀ (i : Nat) v, l[i]? = some v → w.cell? ⟨b, o + i, none⟩ = some (.bool v)

section
variable {w : World} {b o f n : Nat} {l : List Bool}

theorem MarksAt.set (h : MarksAt w b o l) (hf : f < l.length) : MarksAt (w.setCell ⟨b, o + f, none⟩ (.bool true)) b o (l.set f true) := by
  intro i v hv
  by_cases e : i = f
  · subst e
    rw [List.getElem?_set_self hf] at hv
    cases hv
    exact cell_set_eq (h i _ (List.getElem?_eq_getElem hf)) rfl
  · rw [List.getElem?_set_ne (fun e' => e e'.symm)] at hv
    exact (cell_set_ne (.inr (by omega))).trans (h i v hv)

set_option maxRecDepth 100000 in
set_option maxHeartbeats 2000000 in
theorem mark_c (h : MarksAt w b o l) (hl : l.length = 6) (hfr : ∀ j, w.frozen? ⟨b, j, none⟩ = false) (hfn : f + n ≤ 6) :
    Calls Tryz.prog 215 #[.pointer (some ⟨b, o, none⟩), .agg #[.int .i64 (f : Int), .int .i64 (n : Int)]] w fun e w' => e = .returned (.tuple #[]) ∧ MarksAt w' b o (markN l f n) ∧ Chg (fun k j => k = b ∧ o ≤ j ∧ j < o + 6) w w' := by
  have lb : b < w.heap.size := World.block_lt_of_cell? _ _ (h 0 l[0] (List.getElem?_eq_getElem (by omega)))
  have H0 : Hid (MarksAt (w.alloc (.cells #[.int .i64 (f : Int), .int .i64 (n : Int)] 299)) b o l) := hid fun i v hv => (World.cell?_alloc_past _ _ _ lb).trans (h i v hv)
  have HF := hid hfr
  clear h hfr
  go_enter Tryz.func215, Tryz.ntmps215
  go_wp2
  go_loopw [7] (fun v7 wr => ∃ k : Nat, k ≤ n ∧ v7 = .int .i64 k ∧ Hid (MarksAt wr b o (markN l f k)) ∧ Hid (Chg (fun k j => k = b ∧ o ≤ j ∧ j < o + 6) (w.alloc (.cells #[.int .i64 (f : Int), .int .i64 (n : Int)] 299)) wr)) (fun v7 _ => n - (intOf v7).toNat)
  case atStart => exact ⟨0, Nat.zero_le _, rfl, H0, hid (Chg.refl _ _)⟩
  case round =>
    obtain ⟨k, hk, rfl, hB, hC⟩ := hrel
    by_cases hlt : k < n
    · have hlt' : (k : Int) < (n : Int) := by omega
      have hi0 : (0 : Int) ≤ (f : Int) + (k : Int) := by omega
      have hi6 : (f : Int) + (k : Int) < 6 := by omega
      have hwr : IntKind.i64.wrap ((f : Int) + (k : Int)) = (f : Int) + (k : Int) := by rw [IntKind.wrap_i64]; omega
      have htn : ((f : Int) + (k : Int)).toNat = f + k := by omega
      have e0 : wr.cell? ⟨w.heap.size, 0, none⟩ = some (.int .i64 (f : Int)) := (hC.out.cell _ _ (by simp) (by omega)).trans (World.cell?_alloc_new _ _ _ 0)
      have hlen := markN_len l f k
      have ec := hB.out (f + k) (markN l f k)[f + k] (List.getElem?_eq_getElem (by omega))
      have ef : wr.frozen? ⟨b, o + (f + k), none⟩ = false := (hC.out.frozen _ _ (by simp; omega)).trans ((World.frozen?_alloc_past _ _ _ lb).trans (HF.out _))
      have HN := hid (hB.out.set (f := f + k) (by omega))
      rw [← markN_succ] at HN
      have HC2 := hid (hC.out.then (((Chg.refl (fun kk j => kk = b ∧ j = o + (f + k)) wr).setCell (b := b) (o := o + (f + k)) (fun _ => ⟨rfl, rfl⟩) (.bool true))) (fun j i _ e => ⟨e.1, by omega, by omega⟩))
      clear hB hC
      generalize (markN l f k)[f + k] = v0 at *
      go_wp2_with fail
      go_region_law fail
      go_wp2
      go_roundw
      case rel => exact ⟨k + 1, by omega, by go_num, hid fun i v hv => HN.out i v hv, hid HC2.out.drew⟩
      case measure => simp [intOf]; omega
    · have hlt' : ¬ (k : Int) < (n : Int) := by omega
      have hk6 : k = n := by omega
      rw [hk6] at hB
      go_wp2
      go_end0
      exact ⟨rfl, hB.out, ((Chg.refl _ w).alloc _).trans hC.out⟩
end
end Go.Proofs.YtfhkfnoajbbfdabGreatDoor

/- All that stands within, of entries of which more is known (written by gen-cow.py). -/
namespace Go.Proofs.YtfhkfnoajbbfdabGreatDoor
open Go.RowKit Go.Shelf

attribute [local go_sem] Oper.semAt_some

abbrev EnP (P : En → Prop) := { e : En // P e }

section
variable {hs : List Hd} {ms : List HM} {W0 : World} {P : En → Prop}

set_option maxRecDepth 100000 in
set_option maxHeartbeats 2000000 in
theorem walk_rowP (hP : ∀ e, P e → enG hs 3 e) (n l n₀ N : Nat) {rv : Value} {es : List En} (hA0 : Ar hs ms W0) (hn₀ : W0.heap.size ≤ n₀) (hrow : W0.ownsRow 0 222 1 rv es.length (es.map (enV (idsOf ms)))) (h14 : es.length ≤ 14) (hes : Hid (∀ e ∈ es, P e)) (J Jx : List (EnP P) → World → Prop)
    (hY : Hid (∀ m pre (x : EnP P) W, J pre W → Below W0.heap.size W0 W → pre.length < N → YieldAt Fence.wide m Tryz.prog l #[enV (idsOf ms) x.1] W fun e W' => (e = .returned (.bool true) ∧ J (pre ++ [x]) W' ∧ Below n₀ W W') ∨ (e = .returned (.bool false) ∧ Jx (pre ++ [x]) W')))
    (sub : En → List En)
    (RK : Hid (∀ m pre W, J pre W → Below W0.heap.size W0 W → ∀ e ∈ es, pre.length + (sub e).length ≤ N → CallsIn Fence.wide m Tryz.prog 143 #[wiV ms e, .func (.yield l) #[] #[]] W fun e' W' => (e' = .returned (.bool true) ∧ (∃ ys : List (EnP P), ys.map (·.1) = sub e ∧ J (pre ++ ys) W') ∧ Below n₀ W W') ∨ (e' = .returned (.bool false) ∧ ∃ q : List (EnP P), q.map (·.1) <+: sub e ∧ Jx (pre ++ q) W')))
    (pre : List (EnP P)) (W : World) (hJ : J pre W) (hW : Below W0.heap.size W0 W) (hN : pre.length + (es.flatMap fun e => e :: sub e).length ≤ N) :
    CallsIn Fence.wide n Tryz.prog 143 #[rv, .func (.yield l) #[] #[]] W fun e W' => (e = .returned (.bool true) ∧ (∃ ys : List (EnP P), ys.map (·.1) = (es.flatMap fun e => e :: sub e) ∧ J (pre ++ ys) W') ∧ Below n₀ W W') ∨ (e = .returned (.bool false) ∧ ∃ q : List (EnP P), q.map (·.1) <+: (es.flatMap fun e => e :: sub e) ∧ Jx (pre ++ q) W') := by
  obtain ⟨ra, rk, hrv⟩ : ∃ a k, rv = .slice a es.length k := by
    rcases hrow.2 with ⟨e1, e2⟩ | ⟨g', cap', cur, e1, _⟩
    · exact ⟨none, 0, by rw [e1, e2]⟩
    · exact ⟨_, _, e1⟩
  subst hrv
  have HC : Hid (∀ k (hk : k < es.length), ∃ g, ra = some ⟨g, 0, none⟩ ∧ es.length ≤ rk ∧ g < W0.heap.size ∧ W0.cell? ⟨g, k, none⟩ = some (enV (idsOf ms) es[k])) := by
    intro k hk
    rcases hrow.2 with ⟨_, e2⟩ | ⟨g', cap', cur, e1, _, _, e3, _⟩
    · omega
    · obtain ⟨rfl, rfl⟩ : ra = some ⟨g', 0, none⟩ ∧ rk = cap' := by simpa using e1
      obtain ⟨q1, _, _⟩ := ownsRow_cell hrow k hk
      refine ⟨g', rfl, e3, (hrow.lt g' rfl).2, ?_⟩
      rw [q1, List.getElem?_map, List.getElem?_eq_getElem hk]
      rfl
  have HSN : Hid (∀ k (hk : k < es.length), ((es.take (k + 1)).flatMap fun e => e :: sub e) = ((es.take k).flatMap fun e => e :: sub e) ++ (es[k] :: sub es[k])) := by
    intro k hk
    have e : es.take (k + 1) = es.take k ++ [es[k]] := by rw [List.take_add_one, List.getElem?_eq_getElem hk]; rfl
    rw [e, List.flatMap_append]
    simp only [List.flatMap_cons, List.flatMap_nil, List.append_nil]
  have HPF : Hid (∀ k, ∃ r, (es.flatMap fun e => e :: sub e) = ((es.take k).flatMap fun e => e :: sub e) ++ r) := by
    intro k
    refine ⟨(es.drop k).flatMap fun e => e :: sub e, ?_⟩
    rw [← List.flatMap_append, List.take_append_drop]
  have HA := hid hA0
  clear hrow hA0
  refine callsIn_of_wp Tryz.func143 rfl trivial ?_ rfl
  simp only [Tryz.ntmps143, List.size_toArray, List.length_cons, List.length_nil, Nat.reduceAdd, Nat.reduceSub, Array.replicate_succ, Array.replicate_zero, List.push_toArray, List.append_toArray, List.nil_append, List.cons_append]
  have hw : ∀ f, Fence.wide.fn f := fun _ => trivial
  have hdd : ∀ k : Nat, (Fence.wide.depth.isSome = true → 1 ≤ k) := fun k h => by cases h
  have HJ0 := hid hJ
  have HW0 := hid hW
  have HN := hid hN
  clear hJ hW hN
  gi_wp2
  gi_loopw [9] (fun i wr => ∃ k : Nat, k ≤ es.length ∧ i = .int .i64 k ∧ Hid (∃ ys : List (EnP P), ys.map (·.1) = ((es.take k).flatMap fun e => e :: sub e) ∧ J (pre ++ ys) wr) ∧ Hid (Below n₀ W wr))
    (fun i _ => es.length - (intOf i).toNat)
  case atStart => exact ⟨0, Nat.zero_le _, rfl, ⟨[], by simp, by simpa using HJ0.out⟩, Below.refl _ _⟩
  case round =>
    obtain ⟨k, hk, rfl, hys, hB⟩ := hrel
    by_cases hlt : k < es.length
    · have hlt' : (k : Int) < (es.length : Int) := by omega
      obtain ⟨g, hra, hrk, hg, hcell⟩ := HC.out k hlt
      subst hra
      obtain ⟨ys, hy1, hJ1⟩ := hys.out
      have hWr : Below W0.heap.size W0 wr := HW0.out.trans (hB.out.mono hn₀)
      have hcell' : wr.cell? ⟨g, k, none⟩ = some (enV (idsOf ms) es[k]) := (hWr.cell (p := ⟨g, k, none⟩) hg).trans hcell
      have hmem : es[k] ∈ es := List.getElem_mem hlt
      have hlen : ys.length = ((es.take k).flatMap fun e => e :: sub e).length := by rw [← hy1]; simp
      obtain ⟨rest, hrest⟩ := HPF.out (k + 1)
      have hsn := HSN.out k hlt
      have hN1 : pre.length + ys.length + 1 + (sub es[k]).length ≤ N := by
        have h1 := HN.out
        rw [hrest, hsn] at h1
        simp only [List.length_append, List.length_cons] at h1
        omega
      obtain ⟨X, hX⟩ : ∃ X : EnP P, X.1 = es[k] := ⟨⟨es[k], hes.out _ hmem⟩, rfl⟩
      obtain ⟨fn, tmps, assign, body, hy, hR⟩ := hY.out (n - 1) (pre ++ ys) X wr hJ1 hWr (by simp; omega)
      rw [hX] at hy
      have hR' := hR.mono (R' := fun e W' => (e = .returned (.bool true) ∧ Hid (J (pre ++ ys ++ [X]) W' ∧ Below n₀ wr W')) ∨ (e = .returned (.bool false) ∧ Hid (Jx (pre ++ ys ++ [X]) W'))) (fun e W' h => h.elim (fun h => .inl ⟨h.1, hid h.2⟩) (fun h => .inr ⟨h.1, hid h.2⟩))
      have KW := hid (fun w1 (h1 : Below W0.heap.size W0 w1) => (callsIn_wide (n := n - 1)).2 (within_any (HA.out.below h1) (hP _ (hes.out _ hmem))))
      have KR := hid (fun W3 (h1 : J (pre ++ ys ++ [X]) W3) (h2 : Below W0.heap.size W0 W3) => RK.out (n - 1) (pre ++ ys ++ [X]) W3 h1 h2 es[k] hmem (by simp; omega))
      have HWr := hid hWr
      have HS : Hid (∀ zs : List (EnP P), zs.map (·.1) = sub es[k] → (ys ++ [X] ++ zs).map (·.1) = ((es.take (k + 1)).flatMap fun e => e :: sub e)) := by
        intro zs hz
        rw [hsn, List.map_append, List.map_append, hy1, hz]
        simp [hX]
      have HP : Hid (∀ q : List (EnP P), q.map (·.1) <+: sub es[k] → (ys ++ [X] ++ q).map (·.1) <+: (es.flatMap fun e => e :: sub e)) := by
        intro q hq
        obtain ⟨r, hr⟩ := hq
        refine ⟨r ++ rest, ?_⟩
        rw [hrest, hsn, ← hr, List.map_append, List.map_append, hy1]
        simp [hX]
      clear hcell hR hWr hJ1 hsn hrest hN1 hlen hy1 hys HJ0 HN
      generalize enV (idsOf ms) es[k] = v at *
      generalize wiV ms es[k] = wv at *
      generalize sub es[k] = sk at *
      gi_wp2_with (first
        | ((try refine ⟨hdd _, ?_⟩); refine hR'.mono ?_; clear hR'; rintro e W3 (⟨rfl, hJ3⟩ | ⟨rfl, hJx3⟩))
        | ((try refine ⟨hdd _, ?_⟩); gi_at_call 183; refine (KW.out _ (HWr.out.trans (hJ3.out.2.mono hn₀))).mono ?_; clear KW; rintro e w' ⟨rfl, rfl⟩)
        | ((try refine ⟨hdd _, ?_⟩); gi_at_call 143; refine (KR.out _ hJ3.out.1 (HWr.out.trans (hJ3.out.2.mono hn₀))).mono ?_; clear KR; rintro e W4 (⟨rfl, hq⟩ | ⟨rfl, hq⟩)))
      · obtain ⟨⟨zs, hz, hJz⟩, hb4⟩ := hq
        refine ⟨⟨k + 1, by omega, rfl, ⟨ys ++ [X] ++ zs, HS.out zs hz, by simpa [List.append_assoc] using hJz⟩, hB.out.trans (hJ3.out.2.trans hb4)⟩, ?_⟩
        simp [intOf]; omega
      · obtain ⟨q, hq1, hq2⟩ := hq
        go_ret
        exact .inr ⟨rfl, ys ++ [X] ++ q, HP.out q hq1, by simpa [List.append_assoc] using hq2⟩
      · go_ret
        exact .inr ⟨rfl, ys ++ [X] ++ [], HP.out [] (by simp), by simpa [List.append_assoc] using hJx3.out⟩
    · have hlt' : ¬ (k : Int) < (es.length : Int) := by omega
      have hke : k = es.length := by omega
      subst hke
      obtain ⟨ys, hy1, hJ1⟩ := hys.out
      rw [List.take_length] at hy1
      have HY := hid hy1
      have HJ1 := hid hJ1
      clear hy1 hJ1 hys HJ0 HN
      gi_wp2
      go_ret
      exact .inl ⟨rfl, ⟨ys, HY.out, HJ1.out⟩, hB.out⟩
/-- What yield is asked. -/
def YieldsP (P : En → Prop) (ms : List HM) (W0 : World) (n₀ N l : Nat) (J Jx : List (EnP P) → World → Prop) : Prop :=
  ∀ m pre (x : EnP P) W, J pre W → Below W0.heap.size W0 W → pre.length < N → YieldAt Fence.wide m Tryz.prog l #[enV (idsOf ms) x.1] W fun e W' => (e = .returned (.bool true) ∧ J (pre ++ [x]) W' ∧ Below n₀ W W') ∨ (e = .returned (.bool false) ∧ Jx (pre ++ [x]) W')

theorem walk_nilP (hP : ∀ e, P e → enG hs 3 e) (n l n₀ N : Nat) (hA0 : Ar hs ms W0) (hn₀ : W0.heap.size ≤ n₀) (J Jx : List (EnP P) → World → Prop) (hY : Hid (YieldsP P ms W0 n₀ N l J Jx)) (pre : List (EnP P)) (W : World) (hJ : J pre W) (hW : Below W0.heap.size W0 W) (hN : pre.length ≤ N) :
    CallsIn Fence.wide n Tryz.prog 143 #[.slice none 0 0, .func (.yield l) #[] #[]] W fun e W' => (e = .returned (.bool true) ∧ (∃ ys : List (EnP P), ys.map (·.1) = [] ∧ J (pre ++ ys) W') ∧ Below n₀ W W') ∨ (e = .returned (.bool false) ∧ ∃ q : List (EnP P), q.map (·.1) <+: [] ∧ Jx (pre ++ q) W') :=
  walk_rowP hP n l n₀ N (es := []) hA0 hn₀ (nil_row W0) (by simp) (hid fun e he => by simp at he) J Jx hY (fun _ => []) (hid fun _ _ _ _ _ e he => by simp at he) pre W hJ hW (by simpa using hN)

theorem walk_inP (hP : ∀ e, P e → enG hs 3 e) (hcl : ∀ j x, P (.inr j) → hs[j]? = some x → ∀ e ∈ x.ents, P e) (l n₀ N : Nat) (hA0 : Ar hs ms W0) (hn₀ : W0.heap.size ≤ n₀) (J Jx : List (EnP P) → World → Prop) (hY : Hid (YieldsP P ms W0 n₀ N l J Jx)) : ∀ f, f ≤ 3 → ∀ (n : Nat) (rv : Value) (es : List En), W0.ownsRow 0 222 1 rv es.length (es.map (enV (idsOf ms))) → es.length ≤ 14 → (∀ e ∈ es, enG hs f e) → (∀ e ∈ es, P e) → ∀ (pre : List (EnP P)) (W : World), J pre W → Below W0.heap.size W0 W → pre.length + (walkL hs f es).length ≤ N →
    CallsIn Fence.wide n Tryz.prog 143 #[rv, .func (.yield l) #[] #[]] W fun e W' => (e = .returned (.bool true) ∧ (∃ ys : List (EnP P), ys.map (·.1) = walkL hs f es ∧ J (pre ++ ys) W') ∧ Below n₀ W W') ∨ (e = .returned (.bool false) ∧ ∃ q : List (EnP P), q.map (·.1) <+: walkL hs f es ∧ Jx (pre ++ q) W')
  | 0, _, n, rv, es, hrow, h14, hes, hpe, pre, W, hJ, hW, hN => by
    have e0 : (es.flatMap fun e => e :: (fun _ : En => ([] : List En)) e) = walkL hs 0 es := by simp [walkL]
    rw [← e0] at hN ⊢
    refine walk_rowP hP n l n₀ N hA0 hn₀ hrow h14 (hid hpe) J Jx hY (fun _ => []) (hid fun m pre W hJ hW e he hl => ?_) pre W hJ hW hN
    obtain ⟨s, rfl, hh⟩ := hes e he
    exact walk_nilP hP m l n₀ N hA0 hn₀ J Jx hY pre W hJ hW (by simpa using hl)
  | f + 1, hf, n, rv, es, hrow, h14, hes, hpe, pre, W, hJ, hW, hN => by
    have e0 : (es.flatMap fun e => e :: (fun e : En => walkL hs f (enEnts hs e)) e) = walkL hs (f + 1) es := rfl
    rw [← e0] at hN ⊢
    refine walk_rowP hP n l n₀ N hA0 hn₀ hrow h14 (hid hpe) J Jx hY (fun e => walkL hs f (enEnts hs e)) (hid fun m pre W hJ hW e he hl => ?_) pre W hJ hW hN
    rcases hes e he with ⟨s, rfl, hh⟩ | ⟨j, x, s, rfl, hj, hk, hh, ht, hl2, hsub⟩
    · have e1 : walkL hs f (enEnts hs (.inl s)) = [] := walkL_nil f
      simp only [e1]
      exact walk_nilP hP m l n₀ N hA0 hn₀ J Jx hY pre W hJ hW (by omega)
    · obtain ⟨hl3, e1⟩ := hA0.at hj
      have hw : wiV ms (.inr j) = ms[j].rv := by simp [wiV, List.getElem?_eq_getElem hl3]
      have e2 : enEnts hs (.inr j) = x.ents := by simp only [enEnts, hj]
      simp only [e2] at hl ⊢
      rw [hw]
      have hr := (hA0.hd j hl3).row
      rw [e1] at hr
      exact walk_inP hP hcl l n₀ N hA0 hn₀ J Jx hY f (by omega) m _ _ hr hl2 hsub (hcl j x (hpe _ he) hj) pre W hJ hW hl

set_option maxRecDepth 100000 in
set_option maxHeartbeats 1000000 in
theorem all1_inP (hP : ∀ e, P e → enG hs 3 e) (hcl : ∀ j x, P (.inr j) → hs[j]? = some x → ∀ e ∈ x.ents, P e) (n l n₀ Bt : Nat) {a : Option Addr} {p c : Nat} {es : List En} (hA0 : Ar hs ms W0) (hn₀ : W0.heap.size ≤ n₀) (hrow : W0.ownsRow 0 222 1 (.slice a p c) es.length (es.map (enV (idsOf ms)))) (h14 : es.length ≤ 14) (hes : ∀ e ∈ es, P e) (J Jx : List (EnP P) → World → Prop)
    (hY : Hid (YieldsP P ms W0 n₀ (walkL hs 3 es).length l J Jx)) (W : World) (hW : Below W0.heap.size W0 W) (hBt : W.cell? ⟨Bt, 0, none⟩ = some (.slice a p c)) (h0 : J [] W) :
    CallsIn Fence.wide n Tryz.prog 142 #[.func (.yield l) #[] #[], .pointer (some ⟨Bt, 0, none⟩)] W fun e W' => (∃ v, e = .returned v) ∧ ((∃ ys : List (EnP P), ys.map (·.1) = walkL hs 3 es ∧ J ys W') ∨ (∃ pre : List (EnP P), pre.map (·.1) <+: walkL hs 3 es ∧ Jx pre W')) := by
  have hdd : ∀ k : Nat, (Fence.wide.depth.isSome = true → 1 ≤ k) := fun k h => by cases h
  have hw : ∀ f, Fence.wide.fn f := fun _ => trivial
  have hp := hid (walk_inP hP hcl l n₀ (walkL hs 3 es).length hA0 hn₀ J Jx hY 3 (by omega) (n - 1) (.slice a p c) es hrow h14 (fun e he => hP e (hes e he)) hes [] W h0 hW (by simp))
  clear hrow hes hA0 h0
  refine callsIn_of_wp Tryz.func142 rfl trivial ?_ rfl
  simp only [Tryz.ntmps142, List.size_toArray, List.length_cons, List.length_nil, Nat.reduceAdd, Nat.reduceSub, Array.replicate_succ, Array.replicate_zero, List.push_toArray, List.append_toArray, List.nil_append, List.cons_append]
  gi_wp2_with ((try refine ⟨hdd _, ?_⟩); gi_at_call 143; refine hp.out.mono ?_; clear hp; rintro e W1 (⟨rfl, hJ1⟩ | ⟨rfl, hx⟩))
  · obtain ⟨⟨ys, hy, hJ2⟩, _⟩ := hJ1
    go_end0
    exact ⟨⟨_, rfl⟩, .inl ⟨ys, hy, by simpa using hJ2⟩⟩
  · obtain ⟨q, hq, hx2⟩ := hx
    go_end0
    exact ⟨⟨_, rfl⟩, .inr ⟨q, hq, by simpa using hx2⟩⟩


/-- All's answer; what lies below what was there ahead may be turned. -/
theorem all_stopsP (hP : ∀ e, P e → enG hs 3 e) (hcl : ∀ j x, P (.inr j) → hs[j]? = some x → ∀ e ∈ x.ents, P e) (n Bt : Nat) {a : Option Addr} {p c : Nat} {es : List En} (w W2 : World) (hA : Ar hs ms w) (hrow : w.ownsRow 0 222 1 (.slice a p c) es.length (es.map (enV (idsOf ms)))) (h14 : es.length ≤ 14) (hes : ∀ e ∈ es, P e) (hb : Below w.heap.size w W2) (hBt : W2.cell? ⟨Bt, 0, none⟩ = some (.slice a p c)) :
    SeqStopsK Fence.wide n Tryz.prog 142 #[.pointer (some ⟨Bt, 0, none⟩)] (fun x : EnP P => #[enV (idsOf ms) x.1]) (Below w.heap.size) (fun ys => ys.map (·.1) = walkL hs 3 es) (fun pre => pre.map (·.1) <+: walkL hs 3 es) (walkL hs 3 es).length W2 := fun l J Jx W hW _ _ hY h0 =>
  all1_inP hP hcl n l w.heap.size Bt hA (Nat.le_refl _) hrow h14 hes J Jx (hid fun m pre x W' hJ _ hl => yield_any m (hY pre x W' hJ hl)) W (hb.trans (hW.mono hb.size)) ((hW.cell (p := ⟨Bt, 0, none⟩) (World.block_lt_of_cell? _ _ hBt)).trans hBt) h0
end
end Go.Proofs.YtfhkfnoajbbfdabGreatDoor

/- The coder: what a block speaks of. -/
namespace Go.Proofs.YtfhkfnoajbbfdabGreatDoor
open Go.RowKit Go.Shelf

theorem cell_of_heap {X Y : World} {b : Nat} (e : Y.heap[b]? = X.heap[b]?) (o : Nat) : Y.cell? ⟨b, o, none⟩ = X.cell? ⟨b, o, none⟩ := by
  unfold World.cell?
  simp only [e]

section
variable {X Y : World} {b : Nat} {k : Bk}

theorem NewBk.keep (h : NewBk X b k) (hc : ∀ o, Y.cell? ⟨b, o, none⟩ = X.cell? ⟨b, o, none⟩) (hf : ∀ o, Y.frozen? ⟨b, o, none⟩ = X.frozen? ⟨b, o, none⟩) (hs : Y.shape? b = X.shape? b) : NewBk Y b k where
  sh := hs.trans h.sh
  cs := ⟨fun i v hv => (hc _).trans (h.cs.g i v hv), fun i v hv => (hc _).trans (h.cs.p i v hv), fun i v hv => (hc _).trans (h.cs.ch i v hv), (hc _).trans h.cs.gv, (hc _).trans h.cs.ag, h.cs.n1, h.cs.n2, h.cs.n3⟩
  un := (hc _).trans h.un
  free := fun j => (hf j).trans (h.free j)
  u := h.u

theorem NewBk.heap (h : NewBk X b k) (e : Y.heap[b]? = X.heap[b]?) : NewBk Y b k :=
  h.keep (cell_of_heap e) (fun o => by unfold World.frozen?; simp only [e]) (by unfold World.shape?; simp only [e])

theorem NewBk.lt (h : NewBk X b k) : b < X.heap.size := lt_of_shape h.sh

theorem NewBk.below (h : NewBk X b k) (hb : Below X.heap.size X Y) : NewBk Y b k := h.heap (hb.block b h.lt)

/-- A local variable that is changed. -/
theorem NewBk.chg (h : NewBk X b k) {i : Nat} (hi : i < 4) : NewBk (X.setCell ⟨b, 12 + i, none⟩ (.bool true)) b { k with chgs := k.chgs.set i true } where
  sh := (shape_setCell _ _ _ _).trans h.sh
  cs := {
    g := fun j v hv => by
      have hj : j < k.gets.length := (List.getElem?_eq_some_iff.1 hv).1
      have := h.cs.n1
      exact (cell_set_ne (.inr (by omega))).trans (h.cs.g j v hv)
    p := fun j v hv => by
      have hj : j < k.puts.length := (List.getElem?_eq_some_iff.1 hv).1
      have := h.cs.n2
      exact (cell_set_ne (.inr (by omega))).trans (h.cs.p j v hv)
    ch := fun j v hv => by
      have n3 := h.cs.n3
      by_cases e : j = i
      · subst e
        have hv' : (k.chgs.set j true)[j]? = some v := hv
        rw [List.getElem?_set_self (by omega)] at hv'
        cases hv'
        exact cell_set_eq (h.cs.ch j _ (List.getElem?_eq_getElem (by omega))) rfl
      · have hv' : (k.chgs.set i true)[j]? = some v := hv
        rw [List.getElem?_set_ne (fun q => e q.symm)] at hv'
        exact (cell_set_ne (.inr (by omega))).trans (h.cs.ch j v hv')
    gv := (cell_set_ne (.inr (by omega))).trans h.cs.gv
    ag := (cell_set_ne (.inr (by omega))).trans h.cs.ag
    n1 := h.cs.n1, n2 := h.cs.n2, n3 := by show (k.chgs.set i true).length = 4; rw [List.length_set]; exact h.cs.n3 }
  un := (cell_set_ne (.inr (by omega))).trans h.un
  free := fun j => (World.frozen?_setCell _ _ _ _).trans (h.free j)
  u := h.u

/-- It gives out. -/
theorem NewBk.give (h : NewBk X b k) : NewBk (X.setCell ⟨b, 16, none⟩ (.bool true)) b { k with gives := true } where
  sh := (shape_setCell _ _ _ _).trans h.sh
  cs := {
    g := fun j v hv => by
      have hj : j < k.gets.length := (List.getElem?_eq_some_iff.1 hv).1
      have := h.cs.n1
      exact (cell_set_ne (.inr (by omega))).trans (h.cs.g j v hv)
    p := fun j v hv => by
      have hj : j < k.puts.length := (List.getElem?_eq_some_iff.1 hv).1
      have := h.cs.n2
      exact (cell_set_ne (.inr (by omega))).trans (h.cs.p j v hv)
    ch := fun j v hv => by
      have hj : j < k.chgs.length := (List.getElem?_eq_some_iff.1 hv).1
      have := h.cs.n3
      exact (cell_set_ne (.inr (by omega))).trans (h.cs.ch j v hv)
    gv := cell_set_eq h.cs.gv rfl
    ag := (cell_set_ne (.inr (by omega))).trans h.cs.ag
    n1 := h.cs.n1, n2 := h.cs.n2, n3 := h.cs.n3 }
  un := (cell_set_ne (.inr (by omega))).trans h.un
  free := fun j => (World.frozen?_setCell _ _ _ _).trans (h.free j)
  u := h.u

theorem NewBk.mg (h : NewBk X b k) {l : List Bool} (hl : l.length = 6) (hm : MarksAt Y b 0 l) (hc : Chg (fun k j => k = b ∧ 0 ≤ j ∧ j < 0 + 6) X Y) : NewBk Y b { k with gets := l } := by
  have lb := h.lt
  have kc : ∀ o, 6 ≤ o → Y.cell? ⟨b, o, none⟩ = X.cell? ⟨b, o, none⟩ := fun o ho => hc.cell b o lb (fun e => by omega)
  exact {
    sh := (hc.shape b lb).trans h.sh
    cs := ⟨fun i v hv => by have q := hm i v hv; rw [Nat.zero_add] at q; exact q, fun i v hv => (kc _ (by omega)).trans (h.cs.p i v hv), fun i v hv => (kc _ (by omega)).trans (h.cs.ch i v hv), (kc _ (by omega)).trans h.cs.gv, (kc _ (by omega)).trans h.cs.ag, hl, h.cs.n2, h.cs.n3⟩
    un := (kc _ (by omega)).trans h.un
    free := fun j => (hc.frozen b j lb).trans (h.free j)
    u := h.u }

theorem NewBk.mp (h : NewBk X b k) {l : List Bool} (hl : l.length = 6) (hm : MarksAt Y b 6 l) (hc : Chg (fun k j => k = b ∧ 6 ≤ j ∧ j < 6 + 6) X Y) : NewBk Y b { k with puts := l } := by
  have lb := h.lt
  have kc : ∀ o, ¬ (6 ≤ o ∧ o < 12) → Y.cell? ⟨b, o, none⟩ = X.cell? ⟨b, o, none⟩ := fun o ho => hc.cell b o lb (fun e => by omega)
  exact {
    sh := (hc.shape b lb).trans h.sh
    cs := ⟨fun i v hv => by
        have hj : i < k.gets.length := (List.getElem?_eq_some_iff.1 hv).1
        have := h.cs.n1
        exact (kc _ (by omega)).trans (h.cs.g i v hv), hm, fun i v hv => (kc _ (by omega)).trans (h.cs.ch i v hv), (kc _ (by omega)).trans h.cs.gv, (kc _ (by omega)).trans h.cs.ag, h.cs.n1, hl, h.cs.n3⟩
    un := (kc _ (by omega)).trans h.un
    free := fun j => (hc.frozen b j lb).trans (h.free j)
    u := h.u }

theorem NewBk.marksG (h : NewBk X b k) : MarksAt X b 0 k.gets := fun i v hv => by rw [Nat.zero_add]; exact h.cs.g i v hv
theorem NewBk.marksP (h : NewBk X b k) : MarksAt X b 6 k.puts := fun i v hv => h.cs.p i v hv
end

theorem markB_is (l : List Bool) (f n : Nat) : markB l ((f : Int), (n : Int)) = markN l f n := rfl

theorem keeps_chg {M : Nat → Nat → Prop} {B : Nat} {X Y : World} (hc : Chg M X Y) (hM : ∀ k i, M k i → k < B) : KeepsFrom B X Y :=
  ⟨hc.size, fun k o hB hk _ => (hc.block k (Array.getElem?_eq_some_iff.1 hk).1 (fun i e => by have := hM k i e; omega)).trans hk⟩

section
variable {W w : World} {x : Cx} {K : List (Nat × Nat × Value)} {c : Nat} {s : Ck} {hs : List Hd} {ms : List HM}

theorem locI_lt (x : Cx) (h : x.loc.length ≤ 4) (u : ByteArray) : x.locI u < 4 := by
  unfold Cx.locI
  cases hf : x.loc.findIdx? fun y => decide (y = u) with
  | none => simp
  | some k =>
    have := (List.findIdx?_eq_some_iff_findIdx_eq.1 hf).1
    simp
    omega

theorem leafOk_nh {x : Cx} {b : Bool} {st : St} (h : x.leafOk b st) : stHolds st = false := by
  rcases st with ⟨to, a⟩ | ⟨to, o, a, c⟩ | ⟨to, f, a⟩ | ⟨f, a, c⟩ | a | ⟨⟩ | a | n
  · rfl
  · rfl
  · rfl
  · rfl
  · rfl
  · exact h.elim
  · exact h.elim
  · exact h.elim

theorem enW_G (hs : List Hd) (x : Cx) : ∀ (f : Nat) (b : Bool) (e : En), enW hs x f b e → enG hs f e
  | 0, b, .inl st, h => ⟨st, rfl, leafOk_nh h⟩
  | 0, _, .inr _, h => h.elim
  | f + 1, b, .inl st, h => .inl ⟨st, rfl, leafOk_nh h⟩
  | f + 1, b, .inr j, h => by
    obtain ⟨es, h14, h⟩ := h
    rcases h with ⟨hj, _, he⟩ | ⟨a, hj, _, he⟩ | ⟨n, hj, hn, he⟩
    · exact .inr ⟨j, _, _, rfl, hj, rfl, rfl, ⟨by decide, by decide⟩, h14, fun e he' => enW_G hs x f true e (he e he')⟩
    · exact .inr ⟨j, _, _, rfl, hj, rfl, rfl, ⟨(by decide : (1 : Int) ≤ 1), (by decide : (1 : Int) ≤ 4)⟩, h14, fun e he' => enW_G hs x f b e (he e he')⟩
    · exact .inr ⟨j, _, _, rfl, hj, rfl, rfl, hn, h14, fun e he' => enW_G hs x f b e (he e he')⟩

/-- What may stand in a block, at any depth. -/
def inBk (hs : List Hd) (x : Cx) (e : En) : Prop := enG hs 3 e ∧ ∃ g, enW hs x g true e

theorem inBk_sub {j : Nat} {y : Hd} (h : inBk hs x (.inr j)) (hj : hs[j]? = some y) : ∀ e ∈ y.ents, inBk hs x e := by
  obtain ⟨h1, g, h2⟩ := h
  intro e he
  constructor
  · rcases h1 with ⟨s, h, _⟩ | ⟨j', y', s, h, hj', _, _, _, _, hsub⟩
    · cases h
    · cases h
      rw [hj] at hj'
      cases hj'
      exact enG_mono 2 e (hsub e he)
  · cases g with
    | zero => exact h2.elim
    | succ g =>
      obtain ⟨es', _, h0⟩ := h2
      rcases h0 with ⟨_, hf, _⟩ | ⟨a, hj', _, he'⟩ | ⟨n, hj', _, he'⟩
      · cases hf
      · rw [hj] at hj'
        cases hj'
        exact ⟨g, he' e he⟩
      · rw [hj] at hj'
        cases hj'
        exact ⟨g, he' e he⟩
end
end Go.Proofs.YtfhkfnoajbbfdabGreatDoor

/- A region that draws its order, in a round of a range over a function. -/
namespace Go.Proofs.YtfhkfnoajbbfdabGreatDoor
open Go.RowKit

section
variable {P : Program} {ops : Array Oper} {Q : Exit → Act → World → Prop} {l n : Nat}

theorem upon_round {o : Oper} {a : Act} {next : Act → World → Prop} {r : Result Next} (h : o.upon P a next Q r) : o.uponIn (Fence.wide.inRound l) n P a next Q r := by
  cases r with
  | ok nx w' =>
    cases nx with
    | value v => exact h
    | skip => exact h
    | defer d => exact h
    | enter f args => exact ⟨(fun e => by cases e), CallsIn.inRound l ((callsIn_wide (n := n - 1)).2 h)⟩
    | row row args => exact ⟨(fun e => by cases e), fun c cs _ => let ⟨v, w'', q, s⟩ := h c cs; ⟨v, w'', q, stepsIn_wide.2 s⟩⟩
    | _ => exact h.elim
  | halt x w' =>
    cases x with
    | panic v => exact h
    | _ => exact h.elim

theorem wpOp_round (hd : ∀ o ∈ ops.toList, ∀ c, o.op ≠ .defer c) (hq : ¬ LetsOut Q) {i : Nat} {K : Act → World → Prop} {a : Act} {w : World} (h : wpOp P ops Q i K a w) : wpOpIn (Fence.wide.inRound l) n P ops Q i K a w := by
  unfold wpOp at h
  unfold wpOpIn
  cases ho : ops[i]? with
  | none => rw [ho] at h; exact h
  | some o =>
    rw [ho] at h
    simp only at h ⊢
    have hm : o ∈ ops.toList := by
      have := Array.mem_of_getElem? ho
      simpa using this
    split at h
    · rename_i hw
      rw [if_pos hw]
      rcases h with h | ⟨_, h⟩
      · refine ⟨fun _ _ => trivial, ?_⟩
        rw [show (Fence.wide.inRound l).round = some l from rfl, Oper.semAt_some l _ _ (hd o hm)]
        exact upon_round h
      · exact absurd h hq
    · rename_i hw
      rw [if_neg hw]
      exact ⟨fun _ _ => trivial, h⟩

theorem wpAny_round (hd : ∀ o ∈ ops.toList, ∀ c, o.op ≠ .defer c) (hq : ¬ LetsOut Q) {md : Region.Mode} : ∀ (fuel : Nat) (listed : Array Bool) (a : Act) (w : World), wpAny P md ops Q fuel listed a w → wpAnyIn (Fence.wide.inRound l) n P md ops Q fuel listed a w
  | 0, _, _, _, h => h
  | fuel + 1, _, _, _, h => ⟨h.1, fun i hi => wpOpIn_mono (fun a' w' h' => wpAny_round hd hq fuel _ a' w' h') (wpOp_round hd hq (h.2 i hi))⟩

theorem region_round {S : World → Prop} {id : Nat} {a : Act} {w : World} (hm : P.follows .mixedOrders = true) (hd : ∀ o ∈ ops.toList, ∀ c, o.op ≠ .defer c) (hq : ¬ LetsOut Q) (hS : S w.drew)
    (h : S w.drew → wpAnyH P .any ops Q S ops.size (Array.replicate ops.size false) a w.drew) : (Code.region id ops true).wpIn (Fence.wide.inRound l) n P Q a w :=
  wpIn_region_any hm (wpAny_round hd hq _ _ _ _ (wpAny_of_held _ _ _ _ (h hS)))
end
end Go.Proofs.YtfhkfnoajbbfdabGreatDoor
