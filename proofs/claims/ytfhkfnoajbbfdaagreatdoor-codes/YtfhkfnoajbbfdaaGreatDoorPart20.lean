import Derived.Test.YtfhkfnoajbbfdaaGreatDoorPart19
import Derived.Test.YtfhkfnoajbbfdaaGreatDoorPart09
/- Two threads that store and then load, with something locked between: what steps and flushes keep. Plain. -/
namespace Go.Proofs.YtfhkfnoajbbfdaaGreatDoor
open Go.RowKit

def nm (n : Int) : Vl := ⟨false, n⟩
def iStore1 (x : Nat) : Ic := { k := 3, op := 0, d := 0, a := nm x, b := nm 1, c := nm 0, n := 0 }
def iLoad0 (y : Nat) : Ic := { k := 2, op := 0, d := 0, a := nm y, b := nm 0, c := nm 0, n := 0 }
def iOut0 : Ic := { k := 7, op := 0, d := 0, a := ⟨true, 0⟩, b := nm 0, c := nm 0, n := 0 }
def iHalt : Ic := { k := 10, op := 0, d := 0, a := nm 0, b := nm 0, c := nm 0, n := 10 }
def iFence : Ic := { k := 6, op := 0, d := 0, a := nm 0, b := nm 0, c := nm 0, n := 0 }
def iXadd9 : Ic := { k := 5, op := 0, d := 1, a := nm 9, b := nm 1, c := nm 0, n := 0 }
def iCas9 : Ic := { k := 4, op := 0, d := 1, a := nm 9, b := nm 0, c := nm 0, n := 0 }
/-- A thread's code: its own cell x, the other's y, what stands between. -/
def litCode (x y : Nat) (bt : Ic) : List Ic := [iStore1 x, bt, iLoad0 y, iOut0, iHalt]
/-- What may stand between. -/
def isBt (bt : Ic) : Prop := bt = iFence ∨ bt = iXadd9 ∨ bt = iCas9

def TI (x : Nat) (T : Th) (m : Nat → Int) : Prop :=
  (T.pl = 0 ∧ T.st = 0 ∧ T.q = [] ∧ T.out = []) ∨
  (T.pl = 1 ∧ T.st = 0 ∧ T.out = [] ∧ (T.q = [((x : Int), 1)] ∨ (T.q = [] ∧ m x = 1))) ∨
  (T.pl = 2 ∧ T.st = 0 ∧ T.out = [] ∧ T.q = [] ∧ m x = 1) ∨
  (T.pl = 3 ∧ T.st = 0 ∧ T.out = [] ∧ T.q = [] ∧ m x = 1) ∨
  (T.pl = 4 ∧ T.st = 0 ∧ T.out = [T.r 0] ∧ T.q = [] ∧ m x = 1) ∨
  (T.pl = 5 ∧ T.st = 10 ∧ T.out = [T.r 0] ∧ T.q = [] ∧ m x = 1)

theorem at_nm (n : Int) (h0 : 0 ≤ n) (h1 : n < 256) (T : Th) : atOf (nm n) 0 T = n := by
  unfold atOf nm Vl.of wrap64; simp; omega

/-- A step keeps it; the other's cell stays; the place goes on; what is loaded is the other's cell. -/
theorem TI.step {x y : Nat} {bt : Ic} {T : Th} {m : Nat → Int} (hx : x = 1 ∨ x = 2) (hy : y = 1 ∨ y = 2) (hxy : x ≠ y) (hb : isBt bt) (h : TI x T m) :
    TI x (stepT T m (litCode x y bt)).1 (stepT T m (litCode x y bt)).2 ∧ (stepT T m (litCode x y bt)).2 y = m y ∧
      (T.pl ≤ (stepT T m (litCode x y bt)).1.pl) ∧ (T.st = 0 → T.pl < (stepT T m (litCode x y bt)).1.pl) ∧
      ((stepT T m (litCode x y bt)).1.pl ≥ 3 → (T.pl = 2 ∧ (stepT T m (litCode x y bt)).1.r 0 = m y) ∨ (T.pl ≥ 3 ∧ (stepT T m (litCode x y bt)).1.r 0 = T.r 0)) := by
  obtain ⟨r, pl, q, out, st⟩ := T
  have ax : atOf (nm (x : Int)) 0 = fun _ => (x : Int) := funext fun T => at_nm _ (by omega) (by omega) T
  have ay : atOf (nm (y : Int)) 0 = fun _ => (y : Int) := funext fun T => at_nm _ (by omega) (by omega) T
  have a9 : atOf (nm 9) 0 = fun _ => 9 := funext fun T => at_nm _ (by omega) (by omega) T
  have x256 : (0 : Int) ≤ (x : Int) ∧ (x : Int) < 256 := by omega
  have y256 : (0 : Int) ≤ (y : Int) ∧ (y : Int) < 256 := by omega
  have x9 : x ≠ 9 := by omega
  have y9 : y ≠ 9 := by omega
  rcases h with ⟨h1, h2, h3, h4⟩ | ⟨h1, h2, h3, h4⟩ | ⟨h1, h2, h3, h4, h5⟩ | ⟨h1, h2, h3, h4, h5⟩ | ⟨h1, h2, h3, h4, h5⟩ | ⟨h1, h2, h3, h4, h5⟩
  · simp only at h1 h2 h3 h4
    subst h1 h2 h3 h4
    have e : stepT ⟨r, 0, [], [], 0⟩ m (litCode x y bt) = (⟨r, 1, [((x : Int), 1)], [], 0⟩, m) := by
      simp [stepT, litCode, iStore1, doI, ax, x256, storeQ, Vl.of]
      simp [nm]
    rw [e]
    exact ⟨.inr (.inl ⟨rfl, rfl, rfl, .inl rfl⟩), rfl, by simp, by simp, by simp⟩
  · simp only at h1 h2 h3 h4
    subst h1 h2 h3
    have key : ∀ m0 : Nat → Int, m0 x = 1 → m0 y = m y → drainM m q = m0 → TI x (stepT ⟨r, 1, q, [], 0⟩ m (litCode x y bt)).1 (stepT ⟨r, 1, q, [], 0⟩ m (litCode x y bt)).2 ∧ (stepT ⟨r, 1, q, [], 0⟩ m (litCode x y bt)).2 y = m y ∧ (stepT ⟨r, 1, q, [], 0⟩ m (litCode x y bt)).1.pl = 2 := by
      intro m0 k1 k2 k3
      rcases hb with rfl | rfl | rfl
      · have e : stepT ⟨r, 1, q, [], 0⟩ m (litCode x y iFence) = (⟨r, 2, [], [], 0⟩, m0) := by
          simp [stepT, litCode, iFence, doI, k3]
        rw [e]
        exact ⟨.inr (.inr (.inl ⟨rfl, rfl, rfl, rfl, k1⟩)), k2, rfl⟩
      · have e : stepT ⟨r, 1, q, [], 0⟩ m (litCode x y iXadd9) = (({ r := r, pl := 2, q := [], out := [], st := 0 } : Th).setR 1 (m0 9), putM m0 9 (wrap64 (m0 9 + 1))) := by
          simp [stepT, litCode, iXadd9, doI, k3, a9, Vl.of]
          simp [nm]
        rw [e]
        refine ⟨.inr (.inr (.inl ⟨rfl, rfl, rfl, rfl, ?_⟩)), ?_, rfl⟩
        · simp [putM, x9, k1]
        · simp [putM, y9, k2]
      · by_cases hz : m0 9 = 0
        · have e : stepT ⟨r, 1, q, [], 0⟩ m (litCode x y iCas9) = (({ r := r, pl := 2, q := [], out := [], st := 0 } : Th).setR 1 1, putM m0 9 0) := by
            simp [stepT, litCode, iCas9, doI, k3, a9, Vl.of, hz]
            simp [nm]
          rw [e]
          refine ⟨.inr (.inr (.inl ⟨rfl, rfl, rfl, rfl, ?_⟩)), ?_, rfl⟩
          · simp [putM, x9, k1]
          · simp [putM, y9, k2]
        · have e : stepT ⟨r, 1, q, [], 0⟩ m (litCode x y iCas9) = (({ r := r, pl := 2, q := [], out := [], st := 0 } : Th).setR 1 0, m0) := by
            simp [stepT, litCode, iCas9, doI, k3, a9, Vl.of]
            simp [nm, hz]
          rw [e]
          exact ⟨.inr (.inr (.inl ⟨rfl, rfl, rfl, rfl, k1⟩)), k2, rfl⟩
    rcases h4 with rfl | ⟨rfl, hm⟩
    · obtain ⟨k1, k2, k3⟩ := key (putM m x 1) (by simp [putM]) (by simp only [putM]; rw [if_neg]; intro e; exact hxy (by simpa using e.symm)) (by simp [drainM])
      exact ⟨k1, k2, by rw [k3]; simp, by rw [k3]; simp, by rw [k3]; simp⟩
    · obtain ⟨k1, k2, k3⟩ := key m hm rfl rfl
      exact ⟨k1, k2, by rw [k3]; simp, by rw [k3]; simp, by rw [k3]; simp⟩
  · simp only at h1 h2 h3 h4 h5
    subst h1 h2 h3 h4
    have e : stepT ⟨r, 2, [], [], 0⟩ m (litCode x y bt) = (({ r := r, pl := 3, q := [], out := [], st := 0 } : Th).setR 0 (m y), m) := by
      simp [stepT, litCode, iLoad0, doI, ay, y256, seenIn]
    rw [e]
    exact ⟨.inr (.inr (.inr (.inl ⟨rfl, rfl, rfl, rfl, h5⟩))), rfl, by simp [Th.setR], by simp [Th.setR], fun _ => .inl ⟨rfl, by simp [Th.setR]⟩⟩
  · simp only at h1 h2 h3 h4 h5
    subst h1 h2 h3 h4
    have e : stepT ⟨r, 3, [], [], 0⟩ m (litCode x y bt) = (⟨r, 4, [], [r 0], 0⟩, m) := by
      simp [stepT, litCode, iOut0, doI, Vl.of]
    rw [e]
    exact ⟨.inr (.inr (.inr (.inr (.inl ⟨rfl, rfl, rfl, rfl, h5⟩)))), rfl, by simp, by simp, fun _ => .inr ⟨by simp, rfl⟩⟩
  · simp only at h1 h2 h3 h4 h5
    subst h1 h2 h3 h4
    have e : stepT ⟨r, 4, [], [r 0], 0⟩ m (litCode x y bt) = (⟨r, 5, [], [r 0], 10⟩, m) := by
      simp [stepT, litCode, iHalt, doI]
    rw [e]
    exact ⟨.inr (.inr (.inr (.inr (.inr ⟨rfl, rfl, rfl, rfl, h5⟩)))), rfl, by simp, by simp, fun _ => .inr ⟨by simp, rfl⟩⟩
  · simp only at h1 h2 h3 h4 h5
    subst h1 h2 h3 h4
    have e : stepT ⟨r, 5, [], [r 0], 10⟩ m (litCode x y bt) = (⟨r, 5, [], [r 0], 10⟩, m) := stepT_still (by simp)
    rw [e]
    exact ⟨.inr (.inr (.inr (.inr (.inr ⟨rfl, rfl, rfl, rfl, h5⟩)))), rfl, by simp, by simp, fun _ => .inr ⟨by simp, rfl⟩⟩

theorem TI.flush {x y : Nat} {T : Th} {m : Nat → Int} (hxy : x ≠ y) (h : TI x T m) :
    TI x (flushT T m).1 (flushT T m).2 ∧ (flushT T m).2 y = m y ∧ (flushT T m).1.pl = T.pl ∧ (flushT T m).1.r = T.r := by
  obtain ⟨r, pl, q, out, st⟩ := T
  rcases h with ⟨h1, h2, h3, h4⟩ | ⟨h1, h2, h3, h4⟩ | ⟨h1, h2, h3, h4, h5⟩ | ⟨h1, h2, h3, h4, h5⟩ | ⟨h1, h2, h3, h4, h5⟩ | ⟨h1, h2, h3, h4, h5⟩
  all_goals simp only at h1 h2 h3 h4
  · subst h1 h2 h3 h4; exact ⟨.inl ⟨rfl, rfl, rfl, rfl⟩, rfl, rfl, rfl⟩
  · subst h1 h2 h3
    rcases h4 with rfl | ⟨rfl, hm⟩
    · refine ⟨.inr (.inl ⟨rfl, rfl, rfl, .inr ⟨rfl, by simp [flushT, putM]⟩⟩), ?_, rfl, rfl⟩
      simp only [flushT, putM]; rw [if_neg]; intro e; exact hxy (by simpa using e.symm)
    · exact ⟨.inr (.inl ⟨rfl, rfl, rfl, .inr ⟨rfl, hm⟩⟩), rfl, rfl, rfl⟩
  · subst h1 h2 h3 h4; exact ⟨.inr (.inr (.inl ⟨rfl, rfl, rfl, rfl, h5⟩)), rfl, rfl, rfl⟩
  · subst h1 h2 h3 h4; exact ⟨.inr (.inr (.inr (.inl ⟨rfl, rfl, rfl, rfl, h5⟩))), rfl, rfl, rfl⟩
  · subst h1 h2 h3 h4; exact ⟨.inr (.inr (.inr (.inr (.inl ⟨rfl, rfl, rfl, rfl, h5⟩)))), rfl, rfl, rfl⟩
  · subst h1 h2 h3 h4; exact ⟨.inr (.inr (.inr (.inr (.inr ⟨rfl, rfl, rfl, rfl, h5⟩)))), rfl, rfl, rfl⟩

theorem TI.mem {x : Nat} {T : Th} {m m' : Nat → Int} (h : TI x T m) (hm : m' x = m x) : TI x T m' := by
  unfold TI at *; rw [hm]; exact h
theorem TI.done {x : Nat} {T : Th} {m : Nat → Int} (h : TI x T m) (h2 : 2 ≤ T.pl) : m x = 1 := by
  rcases h with h | h | h | h | h | h
  · have := h.1; omega
  · have := h.1; omega
  · exact h.2.2.2.2
  · exact h.2.2.2.2
  · exact h.2.2.2.2
  · exact h.2.2.2.2
theorem TI.range {x : Nat} {T : Th} {m : Nat → Int} (h : TI x T m) : 0 ≤ T.pl ∧ T.pl ≤ 5 ∧ T.out.length ≤ 1 ∧ (T.st ≠ 0 → T.out = [T.r 0] ∧ T.pl = 5) := by
  rcases h with h | h | h | h | h | h
  all_goals (refine ⟨by have := h.1; omega, by have := h.1; omega, ?_, ?_⟩)
  · simp [h.2.2.2]
  · exact fun e => absurd h.2.1 e
  · simp [h.2.2.1]
  · exact fun e => absurd h.2.1 e
  · simp [h.2.2.1]
  · exact fun e => absurd h.2.1 e
  · simp [h.2.2.1]
  · exact fun e => absurd h.2.1 e
  · simp [h.2.2.1]
  · exact fun e => absurd h.2.1 e
  · simp [h.2.2.1]
  · exact fun _ => ⟨h.2.2.1, h.1⟩

/-- The two threads' invariant. -/
def LI (bt : Ic) (A : List (Th × List Ic)) (m : Nat → Int) : Prop :=
  ∃ T0 T1, A = [(T0, litCode 1 2 bt), (T1, litCode 2 1 bt)] ∧ TI 1 T0 m ∧ TI 2 T1 m ∧ (3 ≤ T0.pl → 3 ≤ T1.pl → T0.r 0 = 1 ∨ T1.r 0 = 1)

theorem LI.len {bt : Ic} {A : List (Th × List Ic)} {m : Nat → Int} (h : LI bt A m) : A.length = 2 := by
  obtain ⟨T0, T1, rfl, _⟩ := h; rfl

theorem LI.step {bt : Ic} (hb : isBt bt) {A : List (Th × List Ic)} {m : Nat → Int} (i : Nat) (h : LI bt A m) : LI bt (stepA A m i).1 (stepA A m i).2 := by
  obtain ⟨T0, T1, rfl, h0, h1, h2⟩ := h
  match i with
  | 0 =>
    obtain ⟨a1, a2, a3, _, a5⟩ := h0.step (.inl rfl) (.inr rfl) (by decide) hb (y := 2)
    refine ⟨(stepT T0 m (litCode 1 2 bt)).1, T1, rfl, a1, h1.mem a2, fun p q => ?_⟩
    rcases a5 p with ⟨b1, b2⟩ | ⟨b1, b2⟩
    · exact .inl (b2.trans (h1.done (by omega)))
    · rw [b2]; exact h2 b1 q
  | 1 =>
    obtain ⟨a1, a2, a3, _, a5⟩ := h1.step (.inr rfl) (.inl rfl) (by decide) hb (y := 1)
    refine ⟨T0, (stepT T1 m (litCode 2 1 bt)).1, rfl, h0.mem a2, a1, fun p q => ?_⟩
    rcases a5 q with ⟨b1, b2⟩ | ⟨b1, b2⟩
    · exact .inr (b2.trans (h0.done (by omega)))
    · rw [b2]; exact h2 p b1
  | n + 2 => exact ⟨T0, T1, rfl, h0, h1, h2⟩

theorem LI.flush {bt : Ic} {A : List (Th × List Ic)} {m : Nat → Int} (i : Nat) (h : LI bt A m) : LI bt (flushA A m i).1 (flushA A m i).2 := by
  obtain ⟨T0, T1, rfl, h0, h1, h2⟩ := h
  match i with
  | 0 =>
    obtain ⟨a1, a2, a3, a4⟩ := h0.flush (y := 2) (by decide)
    exact ⟨(flushT T0 m).1, T1, rfl, a1, h1.mem a2, fun p q => by rw [a4]; exact h2 (a3 ▸ p) q⟩
  | 1 =>
    obtain ⟨a1, a2, a3, a4⟩ := h1.flush (y := 1) (by decide)
    exact ⟨T0, (flushT T1 m).1, rfl, h0.mem a2, a1, fun p q => by rw [a4]; exact h2 p (a3 ▸ q)⟩
  | n + 2 => exact ⟨T0, T1, rfl, h0, h1, h2⟩

/-- How many steps are left. -/
def litPot (A : List (Th × List Ic)) : Nat := (A.map fun p => (5 - p.1.pl).toNat).sum

theorem LI.pot_step {bt : Ic} (hb : isBt bt) {A : List (Th × List Ic)} {m : Nat → Int} (i : Nat) (h : LI bt A m) : litPot (stepA A m i).1 ≤ litPot A ∧ (i < 2 → stOf A i = 0 → litPot (stepA A m i).1 < litPot A) := by
  obtain ⟨T0, T1, rfl, h0, h1, h2⟩ := h
  have r0 := h0.range
  have r1 := h1.range
  match i with
  | 0 =>
    obtain ⟨a1, a2, a3, a4, a5⟩ := h0.step (.inl rfl) (.inr rfl) (by decide) hb (y := 2)
    have r2 := a1.range
    have e : (stepA [(T0, litCode 1 2 bt), (T1, litCode 2 1 bt)] m 0).1 = [((stepT T0 m (litCode 1 2 bt)).1, litCode 1 2 bt), (T1, litCode 2 1 bt)] := rfl
    rw [e]
    simp only [litPot, List.map_cons, List.map_nil, List.sum_cons, List.sum_nil]
    refine ⟨by omega, fun _ hs => ?_⟩
    have := a4 (by simpa [stOf] using hs)
    omega
  | 1 =>
    obtain ⟨a1, a2, a3, a4, a5⟩ := h1.step (.inr rfl) (.inl rfl) (by decide) hb (y := 1)
    have r2 := a1.range
    have e : (stepA [(T0, litCode 1 2 bt), (T1, litCode 2 1 bt)] m 1).1 = [(T0, litCode 1 2 bt), ((stepT T1 m (litCode 2 1 bt)).1, litCode 2 1 bt)] := rfl
    rw [e]
    simp only [litPot, List.map_cons, List.map_nil, List.sum_cons, List.sum_nil]
    refine ⟨by omega, fun _ hs => ?_⟩
    have := a4 (by simpa [stOf] using hs)
    omega
  | n + 2 => exact ⟨Nat.le_refl _, fun h => absurd h (by omega)⟩

theorem LI.pot_flush {bt : Ic} {A : List (Th × List Ic)} {m : Nat → Int} (i : Nat) (h : LI bt A m) : litPot (flushA A m i).1 ≤ litPot A := by
  obtain ⟨T0, T1, rfl, h0, h1, h2⟩ := h
  match i with
  | 0 =>
    have e : (flushA [(T0, litCode 1 2 bt), (T1, litCode 2 1 bt)] m 0).1 = [((flushT T0 m).1, litCode 1 2 bt), (T1, litCode 2 1 bt)] := rfl
    rw [e]; simp only [litPot, List.map_cons, List.map_nil, List.sum_cons, List.sum_nil, (h0.flush (y := 2) (by decide)).2.2.1]; exact Nat.le_refl _
  | 1 =>
    have e : (flushA [(T0, litCode 1 2 bt), (T1, litCode 2 1 bt)] m 1).1 = [(T0, litCode 1 2 bt), ((flushT T1 m).1, litCode 2 1 bt)] := rfl
    rw [e]; simp only [litPot, List.map_cons, List.map_nil, List.sum_cons, List.sum_nil, (h1.flush (y := 1) (by decide)).2.2.1]; exact Nat.le_refl _
  | n + 2 => exact Nat.le_refl _

theorem okI_lit {x y : Nat} {bt : Ic} (hb : isBt bt) : ∀ i ∈ litCode x y bt, okI i := by
  have hn : ∀ n, (nm n).ok := fun n h => by simp [nm] at h
  have hr : (⟨true, 0⟩ : Vl).ok := fun _ => by simp
  intro i hi
  simp only [litCode, List.mem_cons, List.not_mem_nil, or_false] at hi
  rcases hi with rfl | rfl | rfl | rfl | rfl
  · exact ⟨show (0 : Nat) < 8 by decide, hn _, hn _, hn _, .inr (.inl rfl)⟩
  · rcases hb with rfl | rfl | rfl
    · exact ⟨by decide, hn _, hn _, hn _, .inr (.inr (.inr (.inr (.inl rfl))))⟩
    · exact ⟨by decide, hn _, hn _, hn _, .inr (.inr (.inr (.inl rfl)))⟩
    · exact ⟨by decide, hn _, hn _, hn _, .inr (.inr (.inl rfl))⟩
  · exact ⟨show (0 : Nat) < 8 by decide, hn _, hn _, hn _, .inl rfl⟩
  · exact ⟨by decide, hr, hn _, hn _, .inr (.inr (.inr (.inr (.inr (.inl rfl)))))⟩
  · exact ⟨by decide, hn _, hn _, hn _, .inr (.inr (.inr (.inr (.inr (.inr (.inr (.inl rfl)))))))⟩

theorem LI.ok {bt : Ic} (hb : isBt bt) {A : List (Th × List Ic)} {m : Nat → Int} (h : LI bt A m) : okA A := by
  obtain ⟨T0, T1, rfl, h0, h1, _⟩ := h
  intro p hp
  simp only [List.mem_cons, List.not_mem_nil, or_false] at hp
  rcases hp with rfl | rfl
  · have := h0.range; exact ⟨this.1, by simp [litCode], okI_lit hb, by show T0.out.length < _; omega⟩
  · have := h1.range; exact ⟨this.1, by simp [litCode], okI_lit hb, by show T1.out.length < _; omega⟩

/-- Where both are at their ends: each has given out one number, not both 0. -/
theorem LI.fin {bt : Ic} {A : List (Th × List Ic)} {m : Nat → Int} (h : LI bt A m) (s0 : stOf A 0 ≠ 0) (s1 : stOf A 1 ≠ 0) :
    ∃ T0 T1, A = [(T0, litCode 1 2 bt), (T1, litCode 2 1 bt)] ∧ T0.out = [T0.r 0] ∧ T1.out = [T1.r 0] ∧ ¬ (T0.r 0 = 0 ∧ T1.r 0 = 0) := by
  obtain ⟨T0, T1, rfl, h0, h1, h2⟩ := h
  have e0 := h0.range.2.2.2 (by simpa [stOf] using s0)
  have e1 := h1.range.2.2.2 (by simpa [stOf] using s1)
  refine ⟨T0, T1, rfl, e0.1, e1.1, fun e => ?_⟩
  have := h2 (by omega) (by omega)
  omega

end Go.Proofs.YtfhkfnoajbbfdaaGreatDoor

/- commitskeep.Litmus, out of what Load makes of its four codes. -/
namespace Go.Proofs.YtfhkfnoajbbfdaaGreatDoor
open Go.RowKit

/-- The text of two threads that store and then load, s between. -/
def crossText (s : ByteArray) : ByteArray := ⟨#[116, 104, 114, 101, 97, 100, 10, 115, 116, 111, 114, 101, 32, 49, 32, 48, 32, 49, 10]⟩ ++ s ++ ⟨#[108, 111, 97, 100, 32, 114, 48, 32, 50, 32, 48, 10, 111, 117, 116, 32, 114, 48, 10, 104, 97, 108, 116, 10, 116, 104, 114, 101, 97, 100, 10, 115, 116, 111, 114, 101, 32, 50, 32, 48, 32, 49, 10]⟩ ++ s ++ ⟨#[108, 111, 97, 100, 32, 114, 48, 32, 49, 32, 48, 10, 111, 117, 116, 32, 114, 48, 10, 104, 97, 108, 116, 10]⟩
def btFence : ByteArray := ⟨#[102, 101, 110, 99, 101, 10]⟩
def btXadd : ByteArray := ⟨#[120, 97, 100, 100, 32, 114, 49, 32, 57, 32, 48, 32, 49, 10]⟩
def btCas : ByteArray := ⟨#[99, 97, 115, 32, 114, 49, 32, 57, 32, 48, 32, 48, 32, 48, 10]⟩
def btNone : ByteArray := ⟨#[]⟩

def Th.init : Th := ⟨fun _ => 0, 0, [], [], 0⟩

/-- Load makes the machine of these codes of s, in whatever world behind w. -/
def LoadsTo (w : World) (s : ByteArray) (cs : List (List Ic)) : Prop := ∀ W, Below w.heap.size w W → Calls Tryz.prog 22 #[.string s] W fun e W' =>
  ∃ bm, e = .returned (.tuple #[ptr bm, .int .i64 0, .int .i64 0]) ∧ MRep (fun k => W.heap.size ≤ k) W' bm (cs.map fun c => (Th.init, c)) (fun _ => 0) ∧ Below W.heap.size W W'

set_option maxRecDepth 100000 in
set_option maxHeartbeats 1000000 in
theorem crossing_any (s : ByteArray) (hs : s.size ≤ 100) (w : World) :
    Calls Tryz.prog 23 #[.string s] w fun e w' => e = .returned (.string (crossText s)) ∧ w' = w := by
  go_enter Tryz.func23, Tryz.ntmps23
  go_wp2
  go_ret
  exact ⟨rfl, rfl⟩

section
variable {D : Nat → Prop} {w : World} {bm : Nat} {A : List (Th × List Ic)} {m : Nat → Int}

set_option maxRecDepth 100000 in
set_option maxHeartbeats 1000000 in
theorem p_stepK (h : MRep D w bm A m) (hD : ∀ k, w.heap.size ≤ k → D k) (i : Nat) (hi : i < A.length) (n : Nat) (hn : (n : Int) ≤ 1000000) (hok : ∀ k, k < n → okA (stepsA A m i k).1) :
    Calls Tryz.prog 27 #[ptr bm, .int .i64 i, .int .i64 n] w fun e w' => e = .returned (.tuple #[]) ∧ MRep D w' bm (stepsA A m i n).1 (stepsA A m i n).2 ∧ Chg (fun k _ => D k) w w' := by
  have HK := hid hok
  have HD := hid hD
  have H := hid h
  clear hok hD h
  go_enter Tryz.func27, Tryz.ntmps27
  go_wp2
  go_loopw [7] (fun v wr => ∃ k : Nat, k ≤ n ∧ v = .int .i64 k ∧ Hid (MRep D wr bm (stepsA A m i k).1 (stepsA A m i k).2 ∧ Chg (fun k _ => D k) w wr)) (fun v _ => n - (intOf v).toNat)
  case atStart => exact ⟨0, Nat.zero_le _, rfl, H.out, Chg.refl _ _⟩
  case round =>
    obtain ⟨k, hk, rfl, hr⟩ := hrel
    by_cases hlt : k < n
    · have hlt' : (k : Int) < (n : Int) := by omega
      go_wp2_with fail
      refine (m_step hr.out.1 (fun j hj => HD.out j (Nat.le_trans hr.out.2.size hj)) (HK.out k hlt) i (by rw [stepsA_length]; exact hi)).mono ?_
      rintro e w1 ⟨rfl, h1⟩
      have H1 := hid h1
      clear h1
      go_wp2
      go_roundw
      case rel => exact ⟨k + 1, by omega, by go_num, H1.out.1, hr.out.2.trans H1.out.2⟩
      case measure => simp [intOf]; omega
    · have hk' : k = n := by omega
      subst hk'
      have hlt' : ¬ (k : Int) < (k : Int) := by omega
      go_wp2
      go_end0
      exact ⟨rfl, hr.out⟩

theorem MRep.keep {M : Nat → Nat → Prop} {w' : World} (h : MRep D w bm A m) (hc : Chg M w w') (hM : ∀ k, D k → k < w.heap.size → ∀ i, ¬ M k i) : MRep D w' bm A m :=
  let ⟨ts, h1, h2⟩ := h; ⟨ts, h1.keep hc hM, h2⟩
theorem MRep.newD {D' : Nat → Prop} (h : MRep D w bm A m) (hD : ∀ k, D k → k < w.heap.size → D' k) : MRep D' w bm A m :=
  let ⟨ts, h1, h2⟩ := h; ⟨ts, h1.newD hD, h2⟩
theorem MRep.below {w' : World} (h : MRep D w bm A m) (hc : Below w.heap.size w w') : MRep D w' bm A m := h.keep (M := fun _ _ => False) (Chg.of_below hc) (fun _ _ _ _ h => h)

/-- What a thread has given out, asked of the plain machine. -/
theorem p_outR (h : MRep D w bm A m) (i : Nat) (p : Th × List Ic) (hp : A[i]? = some p) (hl : p.1.out.length < 1099511627776) :
    Calls Tryz.prog 26 #[ptr bm, .int .i64 i] w fun e w' => e = .returned (.slice (some ⟨w.heap.size, 0, none⟩) p.1.out.length p.1.out.length) ∧ Below w.heap.size w w' ∧ w.heap.size < w'.heap.size ∧ ∀ j (hj : j < p.1.out.length), w'.cell? ⟨w.heap.size, j, none⟩ = some (.int .i64 p.1.out[j]) := by
  obtain ⟨ts, h, rfl⟩ := h
  have hi : i < ts.length := by have := (List.getElem?_eq_some_iff.1 hp).1; simpa using this
  have e : (ts[i].T, ts[i].code) = p := by rw [List.getElem?_map, List.getElem?_eq_getElem hi] at hp; simpa using hp
  subst e
  exact p_out h i hi hl
theorem p_waitingR (h : MRep D w bm A m) (i : Nat) (p : Th × List Ic) (hp : A[i]? = some p) :
    Calls Tryz.prog 29 #[ptr bm, .int .i64 i] w fun e w' => e = .returned (.int .i64 (p.1.q.length : Int)) ∧ w' = w := by
  obtain ⟨ts, h, rfl⟩ := h
  have hi : i < ts.length := by have := (List.getElem?_eq_some_iff.1 hp).1; simpa using this
  have e : (ts[i].T, ts[i].code) = p := by rw [List.getElem?_map, List.getElem?_eq_getElem hi] at hp; simpa using hp
  subst e
  exact p_waiting h i hi
theorem p_peekR (h : MRep D w bm A m) (j : Nat) (hj : j < 256) :
    Calls Tryz.prog 28 #[ptr bm, .int .i64 j] w fun e w' => e = .returned (.int .i64 (m j)) ∧ w' = w := by
  obtain ⟨ts, h, rfl⟩ := h
  exact p_peek h j hj
end

/-- The plain code: nothing stands between. -/
def litPlain (x y : Nat) : List Ic := [iStore1 x, iLoad0 y, iOut0, iHalt]
def A0 : List (Th × List Ic) := [(Th.init, litPlain 1 2), (Th.init, litPlain 2 1)]
def T4 (x : Nat) : Th := ⟨fun _ => 0, 4, [((x : Int), 1)], [0], 10⟩

theorem okI_plain {x y : Nat} : ∀ i ∈ litPlain x y, okI i := fun i hi => okI_lit (x := x) (y := y) (bt := iFence) (.inl rfl) i (by
  simp only [litPlain, litCode, List.mem_cons, List.not_mem_nil, or_false] at hi ⊢
  rcases hi with h | h | h | h
  · exact .inl h
  · exact .inr (.inr (.inl h))
  · exact .inr (.inr (.inr (.inl h)))
  · exact .inr (.inr (.inr (.inr h))))

theorem plain_steps (x y : Nat) (hx : x = 1 ∨ x = 2) (hy : y = 1 ∨ y = 2) (hxy : x ≠ y) :
    stepT Th.init (fun _ => 0) (litPlain x y) = (⟨fun _ => 0, 1, [((x : Int), 1)], [], 0⟩, fun _ => 0) ∧
    stepT ⟨fun _ => 0, 1, [((x : Int), 1)], [], 0⟩ (fun _ => 0) (litPlain x y) = (⟨fun _ => 0, 2, [((x : Int), 1)], [], 0⟩, fun _ => 0) ∧
    stepT ⟨fun _ => 0, 2, [((x : Int), 1)], [], 0⟩ (fun _ => 0) (litPlain x y) = (⟨fun _ => 0, 3, [((x : Int), 1)], [0], 0⟩, fun _ => 0) ∧
    stepT ⟨fun _ => 0, 3, [((x : Int), 1)], [0], 0⟩ (fun _ => 0) (litPlain x y) = (T4 x, fun _ => 0) := by
  have ax : atOf (nm (x : Int)) 0 = fun _ => (x : Int) := funext fun T => at_nm _ (by omega) (by omega) T
  have ay : atOf (nm (y : Int)) 0 = fun _ => (y : Int) := funext fun T => at_nm _ (by omega) (by omega) T
  have x256 : (0 : Int) ≤ (x : Int) ∧ (x : Int) < 256 := by omega
  have y256 : (0 : Int) ≤ (y : Int) ∧ (y : Int) < 256 := by omega
  have ne : ((x : Int) == (y : Int)) = false := by simp; omega
  refine ⟨?_, ?_, ?_, ?_⟩
  · simp [stepT, litPlain, Th.init, iStore1, doI, ax, x256, storeQ, Vl.of]
    simp [nm]
  · simp [stepT, litPlain, iLoad0, doI, ay, y256, seenIn, ne, Th.setR]
  · simp [stepT, litPlain, iOut0, doI, Vl.of]
  · simp [stepT, litPlain, iHalt, doI, T4]
end Go.Proofs.YtfhkfnoajbbfdaaGreatDoor

namespace Go.Proofs.YtfhkfnoajbbfdaaGreatDoor
open Go.RowKit

section
variable {D : Nat → Prop} {w : World} {bm : Nat} {A : List (Th × List Ic)} {m : Nat → Int}
theorem p_stepT (h : MRep D w bm A m) (hD : ∀ k, w.heap.size ≤ k → D k) (t n : Int) (i k : Nat) (ht : t = i) (hk : n = k) (hi : i < A.length) (hn : n ≤ 1000000) (hok : ∀ j, j < k → okA (stepsA A m i j).1) :
    Calls Tryz.prog 27 #[ptr bm, .int .i64 t, .int .i64 n] w fun e w' => e = .returned (.tuple #[]) ∧ MRep D w' bm (stepsA A m i k).1 (stepsA A m i k).2 ∧ Chg (fun k _ => D k) w w' := by
  subst ht hk; exact p_stepK h hD i hi k hn hok
theorem p_flushT (h : MRep D w bm A m) (hD : ∀ k, w.heap.size ≤ k → D k) (t : Int) (i : Nat) (ht : t = i) (hi : i < A.length) :
    Calls Tryz.prog 30 #[ptr bm, .int .i64 t] w fun e w' => e = .returned (.tuple #[]) ∧ MRep D w' bm (flushA A m i).1 (flushA A m i).2 ∧ Chg (fun k _ => D k) w w' := by
  subst ht; exact p_flush h hD i hi
theorem p_outT (h : MRep D w bm A m) (t : Int) (i : Nat) (ht : t = i) (T : Th) (c : List Ic) (hp : A[i]? = some (T, c)) (v : Int) (hl : T.out = [v]) :
    Calls Tryz.prog 26 #[ptr bm, .int .i64 t] w fun e w' => e = .returned (.slice (some ⟨w.heap.size, 0, none⟩) 1 1) ∧ Below w.heap.size w w' ∧ w.heap.size < w'.heap.size ∧ w'.cell? ⟨w.heap.size, 0, none⟩ = some (.int .i64 v) := by
  subst ht
  have hlen : T.out.length = 1 := by rw [hl]; rfl
  refine (p_outR h i (T, c) hp (by show T.out.length < _; omega)).mono ?_
  rintro e w' ⟨rfl, h1, h2, h3⟩
  refine ⟨by simp only [hlen], h1, h2, ?_⟩
  have := h3 0 (by show 0 < T.out.length; omega)
  rw [this]; simp only [hl, List.getElem_cons_zero]
theorem p_waitingT (h : MRep D w bm A m) (t : Int) (i : Nat) (ht : t = i) (T : Th) (c : List Ic) (hp : A[i]? = some (T, c)) (v : Int) (hl : (T.q.length : Int) = v) :
    Calls Tryz.prog 29 #[ptr bm, .int .i64 t] w fun e w' => e = .returned (.int .i64 v) ∧ w' = w := by
  subst ht hl; exact p_waitingR h i (T, c) hp
theorem p_peekT (h : MRep D w bm A m) (t : Int) (j : Nat) (ht : t = j) (hj : j < 256) (v : Int) (hv : m j = v) :
    Calls Tryz.prog 28 #[ptr bm, .int .i64 t] w fun e w' => e = .returned (.int .i64 v) ∧ w' = w := by
  subst ht hv; exact p_peekR h j hj
end

/-- Four steps of each of the plain code's threads. -/
theorem plain_run : stepsA A0 (fun _ => 0) 0 4 = ([(T4 1, litPlain 1 2), (Th.init, litPlain 2 1)], fun _ => 0) ∧ (∀ j, j < 4 → okA (stepsA A0 (fun _ => 0) 0 j).1) ∧
    stepsA [(T4 1, litPlain 1 2), (Th.init, litPlain 2 1)] (fun _ => 0) 1 4 = ([(T4 1, litPlain 1 2), (T4 2, litPlain 2 1)], fun _ => 0) ∧ (∀ j, j < 4 → okA (stepsA [(T4 1, litPlain 1 2), (Th.init, litPlain 2 1)] (fun _ => 0) 1 j).1) := by
  obtain ⟨a1, a2, a3, a4⟩ := plain_steps 1 2 (.inl rfl) (.inr rfl) (by decide)
  obtain ⟨b1, b2, b3, b4⟩ := plain_steps 2 1 (.inr rfl) (.inl rfl) (by decide)
  have s1 : stepsA A0 (fun _ => 0) 0 1 = ([(⟨fun _ => 0, 1, [(((1 : Nat) : Int), 1)], [], 0⟩, litPlain 1 2), (Th.init, litPlain 2 1)], fun _ => 0) := by simp [stepsA, stepA, A0, a1]
  have s2 : stepsA A0 (fun _ => 0) 0 2 = ([(⟨fun _ => 0, 2, [(((1 : Nat) : Int), 1)], [], 0⟩, litPlain 1 2), (Th.init, litPlain 2 1)], fun _ => 0) := by rw [stepsA, s1]; simp only [stepA, List.getElem?_cons_zero, a2]; rfl
  have s3 : stepsA A0 (fun _ => 0) 0 3 = ([(⟨fun _ => 0, 3, [(((1 : Nat) : Int), 1)], [0], 0⟩, litPlain 1 2), (Th.init, litPlain 2 1)], fun _ => 0) := by rw [stepsA, s2]; simp only [stepA, List.getElem?_cons_zero, a3]; rfl
  have s4 : stepsA A0 (fun _ => 0) 0 4 = ([(T4 1, litPlain 1 2), (Th.init, litPlain 2 1)], fun _ => 0) := by rw [stepsA, s3]; simp only [stepA, List.getElem?_cons_zero, a4]; rfl
  have r1 : stepsA [(T4 1, litPlain 1 2), (Th.init, litPlain 2 1)] (fun _ => 0) 1 1 = ([(T4 1, litPlain 1 2), (⟨fun _ => 0, 1, [(((2 : Nat) : Int), 1)], [], 0⟩, litPlain 2 1)], fun _ => 0) := by simp [stepsA, stepA, b1]
  have r2 : stepsA [(T4 1, litPlain 1 2), (Th.init, litPlain 2 1)] (fun _ => 0) 1 2 = ([(T4 1, litPlain 1 2), (⟨fun _ => 0, 2, [(((2 : Nat) : Int), 1)], [], 0⟩, litPlain 2 1)], fun _ => 0) := by rw [stepsA, r1]; simp only [stepA, List.getElem?_cons_succ, List.getElem?_cons_zero, b2]; rfl
  have r3 : stepsA [(T4 1, litPlain 1 2), (Th.init, litPlain 2 1)] (fun _ => 0) 1 3 = ([(T4 1, litPlain 1 2), (⟨fun _ => 0, 3, [(((2 : Nat) : Int), 1)], [0], 0⟩, litPlain 2 1)], fun _ => 0) := by rw [stepsA, r2]; simp only [stepA, List.getElem?_cons_succ, List.getElem?_cons_zero, b3]; rfl
  have r4 : stepsA [(T4 1, litPlain 1 2), (Th.init, litPlain 2 1)] (fun _ => 0) 1 4 = ([(T4 1, litPlain 1 2), (T4 2, litPlain 2 1)], fun _ => 0) := by rw [stepsA, r3]; simp only [stepA, List.getElem?_cons_succ, List.getElem?_cons_zero, b4]; rfl
  have ok2 : ∀ (T T' : Th), 0 ≤ T.pl → 0 ≤ T'.pl → T.out.length ≤ 1 → T'.out.length ≤ 1 → okA [(T, litPlain 1 2), (T', litPlain 2 1)] := by
    intro T T' h1 h2 h3 h4 p hp
    simp only [List.mem_cons, List.not_mem_nil, or_false] at hp
    rcases hp with rfl | rfl
    · exact ⟨h1, by simp [litPlain], okI_plain, by show T.out.length < _; omega⟩
    · exact ⟨h2, by simp [litPlain], okI_plain, by show T'.out.length < _; omega⟩
  refine ⟨s4, fun j hj => ?_, r4, fun j hj => ?_⟩
  · match j, hj with
    | 0, _ => exact ok2 _ _ (by simp [Th.init]) (by simp [Th.init]) (by simp [Th.init]) (by simp [Th.init])
    | 1, _ => rw [s1]; exact ok2 _ _ (by simp) (by simp [Th.init]) (by simp) (by simp [Th.init])
    | 2, _ => rw [s2]; exact ok2 _ _ (by simp) (by simp [Th.init]) (by simp) (by simp [Th.init])
    | 3, _ => rw [s3]; exact ok2 _ _ (by simp) (by simp [Th.init]) (by simp) (by simp [Th.init])
  · match j, hj with
    | 0, _ => exact ok2 _ _ (by simp [T4]) (by simp [Th.init]) (by simp [T4]) (by simp [Th.init])
    | 1, _ => rw [r1]; exact ok2 _ _ (by simp [T4]) (by simp) (by simp [T4]) (by simp)
    | 2, _ => rw [r2]; exact ok2 _ _ (by simp [T4]) (by simp) (by simp [T4]) (by simp)
    | 3, _ => rw [r3]; exact ok2 _ _ (by simp [T4]) (by simp) (by simp [T4]) (by simp)

theorem plain_flush : flushA [(T4 1, litPlain 1 2), (T4 2, litPlain 2 1)] (fun _ => 0) 0 = ([({ T4 1 with q := [] }, litPlain 1 2), (T4 2, litPlain 2 1)], putM (fun _ => 0) 1 1) := rfl

theorem lit_start {bt : Ic} : LI bt ([litCode 1 2 bt, litCode 2 1 bt].map fun c => (Th.init, c)) (fun _ => 0) :=
  ⟨Th.init, Th.init, rfl, .inl ⟨rfl, rfl, rfl, rfl⟩, .inl ⟨rfl, rfl, rfl, rfl⟩, fun h => by simp [Th.init] at h⟩

end Go.Proofs.YtfhkfnoajbbfdaaGreatDoor

namespace Go.Proofs.YtfhkfnoajbbfdaaGreatDoor
open Go.RowKit

set_option maxRecDepth 100000 in
set_option maxHeartbeats 1000000 in
/-- No error is told as none. -/
theorem tell_nil (w : World) :
    Calls Tryz.prog 53 #[.nilIface] w fun e w' => e = .returned (.tuple #[.int .i64 0, .int .i64 0]) ∧ Below w.heap.size w w' := by
  go_enter Tryz.func53, Tryz.ntmps53
  go_wp2
  go_ret2
  exact ⟨rfl, ((Below.refl _ w).alloc (Nat.le_refl _) _).alloc (by simp) _⟩

/-- A new thread's cells. -/
def newCells (bm : Nat) (iv : Value) : Array Value := #[ptr bm, iv, .int .i64 0, .int .i64 0, .int .i64 0, .int .i64 0, .int .i64 0, .int .i64 0, .int .i64 0, .int .i64 0, .int .i64 0, .int .i64 0, .int .i64 0, .int .i64 0, .int .i64 0, .int .i64 0, .int .i64 0, .int .i64 0, .int .i64 0, .int .i64 0, .int .i64 0, .slice none 0 0, .int .i64 0]

set_option maxRecDepth 100000 in
set_option maxHeartbeats 1000000 in
theorem newThread_ok (w : World) (bm : Nat) (a : Option Addr) (k c : Nat) :
    Calls Tryz.prog 76 #[.slice a k c, ptr bm] w fun e w' => e = .returned (ptr w.heap.size) ∧ w' = w.alloc (.cells (newCells bm (.slice a k c)) 188) := by
  go_enter Tryz.func76, Tryz.ntmps76
  go_wp2
  go_ret
  exact ⟨rfl, rfl⟩

theorem newTh_at (w : World) (bm : Nat) (iv : Value) : ThAt (w.alloc (.cells (newCells bm iv) 188)) w.heap.size bm iv (.slice none 0 0) Th.init := by
  have hc : ∀ i v, (newCells bm iv)[i]? = some v → (w.alloc (.cells (newCells bm iv) 188)).cell? ⟨w.heap.size, i, none⟩ = some v := fun i v h => (World.cell?_alloc_new w _ _ i).trans h
  have hf : ∀ i, (w.alloc (.cells (newCells bm iv) 188)).frozen? ⟨w.heap.size, i, none⟩ = false := fun i => by simp
  have hz : ∀ i, 2 ≤ i → i < 21 → (newCells bm iv)[i]? = some (.int .i64 0) := by
    intro i h1 h2
    have : i = 2 ∨ i = 3 ∨ i = 4 ∨ i = 5 ∨ i = 6 ∨ i = 7 ∨ i = 8 ∨ i = 9 ∨ i = 10 ∨ i = 11 ∨ i = 12 ∨ i = 13 ∨ i = 14 ∨ i = 15 ∨ i = 16 ∨ i = 17 ∨ i = 18 ∨ i = 19 ∨ i = 20 := by omega
    rcases this with rfl | rfl | rfl | rfl | rfl | rfl | rfl | rfl | rfl | rfl | rfl | rfl | rfl | rfl | rfl | rfl | rfl | rfl | rfl <;> rfl
  refine ⟨?_, hc _ _ rfl, hc _ _ rfl, fun j hj => hc _ _ (hz _ (by omega) (by omega)), hc _ _ rfl, ?_, hc _ _ rfl, ⟨rfl, .inl ⟨rfl, rfl⟩⟩, hc _ _ rfl, fun j _ => hf j, fun p hp => by cases hp⟩
  · have e : (w.alloc (.cells (newCells bm iv) 188)).heap[w.heap.size]? = some (.cells (newCells bm iv) 188) := by show (w.heap.push _)[w.heap.size]? = _; exact Array.getElem?_push_size
    unfold World.shape?
    rw [e]
    rfl
  · refine ⟨fun _ => 0, fun _ => 0, 0, ⟨by simp, by omega, by decide, fun j hj => hc _ _ (hz _ (by omega) (by omega)), fun j hj => hc _ _ (hz _ (by omega) (by omega)), hc _ _ rfl, hc _ _ rfl, fun j _ => hf _⟩, ?_⟩
    exact fun i h => absurd h (Nat.not_lt_zero i)

/-- What commits.Load of a text has come to. -/
def MLoadsTo (w : World) (s : ByteArray) (cs : List (List Ic)) : Prop := ∀ W, Below w.heap.size w W → Calls Tryz.prog 52 #[.string s] W fun e W' =>
  ∃ bm, e = .returned (.tuple #[ptr bm, .nilIface]) ∧ MRep (fun k => W.heap.size ≤ k) W' bm (cs.map fun c => (Th.init, c)) (fun _ => 0) ∧ Below W.heap.size W W'

set_option maxRecDepth 100000 in
set_option maxHeartbeats 1000000 in
theorem plain_load {w : World} {s : ByteArray} {cs : List (List Ic)} (h : MLoadsTo w s cs) : LoadsTo w s cs := by
  intro W hW
  have HW := hid hW
  have H := hid h
  clear h hW
  go_enter Tryz.func22, Tryz.ntmps22
  go_wp2_with fail
  refine (H.out W HW.out).mono ?_
  rintro e W1 ⟨bm, rfl, h1, b1⟩
  have H1 := hid h1
  have B1 := hid b1
  clear h1 b1
  go_wp2_with fail
  refine (tell_nil W1).mono ?_
  rintro e W2 ⟨rfl, b2⟩
  have B2 := hid b2
  clear b2
  go_wp2
  go_ret3
  exact ⟨bm, rfl, H1.out.below B2.out, B1.out.trans (B2.out.mono B1.out.size)⟩
end Go.Proofs.YtfhkfnoajbbfdaaGreatDoor

/- The rows that have been read so far, and what a line makes of them. -/
namespace Go.Proofs.YtfhkfnoajbbfdaaGreatDoor
open Go.RowKit

/-- The threads read so far: rows of one's own within a row of one's own, none below B, no two in one block. -/
structure RowsAt (B : Nat) (w : World) (v : Value) (acc : List (List Ic)) (xs : List Value) : Prop where
  own : w.ownsRow 0 140 1 v acc.length xs
  row : ∀ (i : Nat) (iv : Value), xs[i]? = some iv → ∃ c : List Ic, acc[i]? = some c ∧ w.ownsRow 0 202 1 iv c.length (c.map encIns)
  dis : ∀ (i j : Nat) (iv jv : Value), i ≠ j → xs[i]? = some iv → xs[j]? = some jv → ∀ g, iv.ownBlock = some g → jv.ownBlock ≠ some g
  low : ∀ (g : Nat), v.ownBlock = some g → B ≤ g
  lowr : ∀ (i : Nat) (iv : Value), xs[i]? = some iv → ∀ g, iv.ownBlock = some g → B ≤ g

abbrev rowy (w : World) (k : Nat) : Prop := ∃ t n, w.shape? k = some (t, n) ∧ (t = 140 ∨ t = 202)

theorem RowsAt.keep {B : Nat} {w w' : World} {v : Value} {acc : List (List Ic)} {xs : List Value} {M : Nat → Nat → Prop} (h : RowsAt B w v acc xs) (hc : Chg M w w') (hM : ∀ k i, rowy w k → ¬ M k i) : RowsAt B w' v acc xs := {
  own := ownsRow_chg h.own hc (fun g hg i => by obtain ⟨n, hs⟩ := ownsRow_shape h.own g hg; exact hM g i ⟨_, n, hs, .inl rfl⟩)
  row := fun i iv hi => by
    obtain ⟨c, hc1, hc2⟩ := h.row i iv hi
    exact ⟨c, hc1, ownsRow_chg hc2 hc (fun g hg i => by obtain ⟨n, hs⟩ := ownsRow_shape hc2 g hg; exact hM g i ⟨_, n, hs, .inr rfl⟩)⟩
  dis := h.dis
  low := h.low
  lowr := h.lowr }

theorem RowsAt.len {B : Nat} {w : World} {v : Value} {acc : List (List Ic)} {xs : List Value} (h : RowsAt B w v acc xs) : xs.length = acc.length := by have := h.own.1; omega

/-- A line's words that are an instruction. -/
def ReadsTo (wd : Nat → ByteArray) (ws : List ByteArray) (ic : Ic) : Prop := ∃ u us T p, ws = u :: us ∧ us.length < 1000000 ∧ u ≠ wThread ∧ encIns ic = .iface T p ∧
  ∀ (W : World) (bl : Nat) (n : Int) (bw : Nat), LineAt W bl n bw us → WordsAt W wd → Calls Tryz.prog 140 #[.string u, ptr bl] W fun e w' => e = .returned (.iface T p) ∧ LineAt w' bl n bw [] ∧ Chg (lineM bl) W w'

/-- What a line makes of the threads read so far. -/
def LineTo (wd : Nat → ByteArray) (ws : List ByteArray) (acc acc' : List (List Ic)) : Prop :=
  (ws = [wThread] ∧ acc.length < 3 ∧ acc' = acc ++ [[]]) ∨ ∃ acc0 c ic, acc = acc0 ++ [c] ∧ acc0.length < 3 ∧ c.length < 4000 ∧ acc' = acc0 ++ [c ++ [ic]] ∧ ReadsTo wd ws ic

theorem nilRow (w : World) (t : TypeId) : w.ownsRow 0 t 1 (.slice none 0 0) 0 [] := ⟨rfl, .inl ⟨rfl, rfl⟩⟩

section
variable {B bl bw bt : Nat} {n : Int} {W : World} {v : Value} {acc acc' : List (List Ic)} {xs : List Value} {wd : Nat → ByteArray} {ws : List ByteArray}

/-- What a line may turn. -/
abbrev takeM (W : World) (B bl bt : Nat) : Nat → Nat → Prop := fun q _ => q = bl ∨ q = bt ∨ (B ≤ q ∧ rowy W q)

theorem not_rowy_of {k t n : Nat} {w : World} (h : w.shape? k = some (t, n)) (h1 : t ≠ 140) (h2 : t ≠ 202) : ¬ rowy w k := by
  rintro ⟨t', n', e, h3⟩
  rw [h] at e
  simp at e
  rcases h3 with h3 | h3
  · exact h1 (e.1.trans h3)
  · exact h2 (e.1.trans h3)

theorem rowsAt_head {w' : World} {g cap : Nat} (hB : B ≤ W.heap.size) (hL : LineAt W bl n bw ws) (h : RowsAt B W v acc xs)
    (ho : w'.ownsRow 0 140 1 (.slice (some ⟨g, 0, none⟩) (acc.length + 1) cap) (acc.length + 1) (xs ++ [.slice none 0 0])) (hg : v.ownBlock = some g ∨ W.heap.size ≤ g)
    (hc : Chg (fun q i => lineM bl q i ∨ v.ownBlock = some q) W w') : RowsAt B w' (.slice (some ⟨g, 0, none⟩) (acc.length + 1) cap) (acc ++ [[]]) (xs ++ [.slice none 0 0]) := by
  have hx : ∀ i iv, (xs ++ [.slice none 0 0])[i]? = some iv → xs[i]? = some iv ∨ (i = acc.length ∧ iv = .slice none 0 0) := by
    intro i iv hi
    rw [List.getElem?_append] at hi
    split at hi
    · exact .inl hi
    · rename_i hlt
      right
      have hl := h.len
      obtain ⟨h1, h2⟩ := List.getElem?_eq_some_iff.1 hi
      simp at h1
      have : i - xs.length = 0 := by omega
      simp [this] at hi
      exact ⟨by omega, hi.symm⟩
  refine ⟨by simpa using ho, ?_, ?_, ?_, ?_⟩
  · intro i iv hi
    rcases hx i iv hi with h1 | ⟨rfl, rfl⟩
    · obtain ⟨c, hc1, hc2⟩ := h.row i iv h1
      refine ⟨c, by rw [List.getElem?_append_left (List.getElem?_eq_some_iff.1 hc1).1]; exact hc1, ownsRow_chg hc2 hc ?_⟩
      rintro g' hg' j (e | e)
      · obtain ⟨n', hs⟩ := ownsRow_shape hc2 g' hg'
        rw [e.1, hL.sh] at hs
        simp at hs
      · obtain ⟨n', hs⟩ := ownsRow_shape hc2 g' hg'
        obtain ⟨n2, hs2⟩ := ownsRow_shape h.own g' e
        rw [hs] at hs2
        simp at hs2
    · exact ⟨[], by simp, nilRow _ _⟩
  · intro i j iv jv hij hi hj g' hg'
    rcases hx i iv hi with h1 | ⟨rfl, rfl⟩
    · rcases hx j jv hj with h2 | ⟨rfl, rfl⟩
      · exact h.dis i j iv jv hij h1 h2 g' hg'
      · simp [Value.ownBlock]
    · simp [Value.ownBlock] at hg'
  · intro g' hg'
    simp [Value.ownBlock] at hg'
    subst hg'
    rcases hg with e | e
    · exact h.low _ e
    · omega
  · intro i iv hi g' hg'
    rcases hx i iv hi with h1 | ⟨rfl, rfl⟩
    · exact h.lowr i iv h1 g' hg'
    · simp [Value.ownBlock] at hg'

theorem rowsAt_ins {w' : World} {acc0 : List (List Ic)} {c : List Ic} {ic : Ic} {iv : Value} {g cap b cap2 : Nat} (hB : B ≤ W.heap.size) (hL : LineAt W bl n bw ws) (h : RowsAt B W (.slice (some ⟨g, 0, none⟩) (acc0.length + 1) cap) (acc0 ++ [c]) xs)
    (hx : xs[acc0.length]? = some iv)
    (hi : w'.ownsRow 0 202 1 (.slice (some ⟨b, 0, none⟩) (c.length + 1) cap2) (c.length + 1) (c.map encIns ++ [encIns ic]))
    (ho : w'.ownsRow 0 140 1 (.slice (some ⟨g, 0, none⟩) (acc0.length + 1) cap) (acc0.length + 1) (xs.set acc0.length (.slice (some ⟨b, 0, none⟩) (c.length + 1) cap2))) (hb : iv.ownBlock = some b ∨ W.heap.size ≤ b)
    (hc : Chg (fun q i => lineM bl q i ∨ iv.ownBlock = some q ∨ (q = g ∧ i = acc0.length)) W w') :
    RowsAt B w' (.slice (some ⟨g, 0, none⟩) (acc0.length + 1) cap) (acc0 ++ [c ++ [ic]]) (xs.set acc0.length (.slice (some ⟨b, 0, none⟩) (c.length + 1) cap2)) := by
  have hl := h.len
  simp at hl
  have hx' : ∀ i jv, (xs.set acc0.length (.slice (some ⟨b, 0, none⟩) (c.length + 1) cap2))[i]? = some jv → (i ≠ acc0.length ∧ xs[i]? = some jv) ∨ (i = acc0.length ∧ jv = .slice (some ⟨b, 0, none⟩) (c.length + 1) cap2) := by
    intro i jv hi
    rw [List.getElem?_set] at hi
    split at hi
    · rename_i e
      simp [hl] at hi
      exact .inr ⟨e.symm, hi.symm⟩
    · rename_i e
      exact .inl ⟨fun e' => e e'.symm, hi⟩
  have hbn : ∀ j jv, j ≠ acc0.length → xs[j]? = some jv → jv.ownBlock ≠ some b := by
    intro j jv hj hjx e
    rcases hb with e2 | e2
    · exact h.dis _ _ _ _ hj hjx hx b e e2
    · obtain ⟨c', hc1, hc2⟩ := h.row j jv hjx
      obtain ⟨n', hs⟩ := ownsRow_shape hc2 b e
      have := lt_of_shape hs
      omega
  refine ⟨by simpa using ho, ?_, ?_, h.low, ?_⟩
  · intro i jv hi'
    rcases hx' i jv hi' with ⟨h0, h1⟩ | ⟨rfl, rfl⟩
    · obtain ⟨c', hc1, hc2⟩ := h.row i jv h1
      have hlt : i < acc0.length := by
        have := (List.getElem?_eq_some_iff.1 h1).1
        omega
      rw [List.getElem?_append_left hlt] at hc1
      refine ⟨c', by rw [List.getElem?_append_left hlt]; exact hc1, ownsRow_chg hc2 hc ?_⟩
      rintro g' hg' j (e | e | e)
      · obtain ⟨n', hs⟩ := ownsRow_shape hc2 g' hg'
        rw [e.1, hL.sh] at hs
        simp at hs
      · exact h.dis _ _ _ _ h0 h1 hx g' hg' e
      · obtain ⟨n', hs⟩ := ownsRow_shape hc2 g' hg'
        obtain ⟨n2, hs2⟩ := ownsRow_shape h.own g' (by simp [Value.ownBlock, e.1])
        rw [hs] at hs2
        simp at hs2
    · exact ⟨c ++ [ic], by simp, by simpa using hi⟩
  · intro i j iv' jv hij hi' hj g' hg'
    rcases hx' i iv' hi' with ⟨h0, h1⟩ | ⟨rfl, rfl⟩
    · rcases hx' j jv hj with ⟨h2, h3⟩ | ⟨rfl, rfl⟩
      · exact h.dis i j iv' jv hij h1 h3 g' hg'
      · intro e
        simp [Value.ownBlock] at e
        exact hbn i iv' h0 h1 (e ▸ hg')
    · rcases hx' j jv hj with ⟨h2, h3⟩ | ⟨rfl, rfl⟩
      · simp [Value.ownBlock] at hg'
        exact hg' ▸ hbn j jv h2 h3
      · exact absurd rfl hij
  · intro i jv hi' g' hg'
    rcases hx' i jv hi' with ⟨h0, h1⟩ | ⟨rfl, rfl⟩
    · exact h.lowr i jv h1 g' hg'
    · simp [Value.ownBlock] at hg'
      subst hg'
      rcases hb with e | e
      · exact h.lowr _ _ hx _ e
      · omega

/-- A line taken: the box holds the rows with what it says. -/
theorem take_ok (hB : B ≤ W.heap.size) (hB3 : 3 ≤ B) (hL : LineAt W bl n bw ws) (hbl : B ≤ bl) (hws : W.shape? bw = some (9, ws.length)) (hbt : W.cell? ⟨bt, 0, none⟩ = some v) (hst : W.shape? bt = some (132, 1)) (hft : W.frozen? ⟨bt, 0, none⟩ = false)
    (h : RowsAt B W v acc xs) (hw : WordsAt W wd) (ht : LineTo wd ws acc acc') :
    Calls Tryz.prog 106 #[ptr bl, ptr bt] W fun e W' => e = .returned (.tuple #[]) ∧ ∃ v' xs', W'.cell? ⟨bt, 0, none⟩ = some v' ∧ RowsAt B W' v' acc' xs' ∧ Chg (takeM W B bl bt) W W' := by
  have nbl : ∀ g, v.ownBlock = some g → g ≠ bl ∧ g ≠ bw ∧ g ≠ bt := by
    intro g hg
    obtain ⟨c, hs⟩ := ownsRow_shape h.own g hg
    refine ⟨fun e => ?_, fun e => ?_, fun e => ?_⟩
    · rw [e, hL.sh] at hs; simp at hs
    · rw [e, hws] at hs; simp at hs
    · rw [e, hst] at hs; simp at hs
  have hlt : bt < W.heap.size := lt_of_shape hst
  have nbt : bt ≠ bl := fun e => by rw [e, hL.sh] at hst; simp at hst
  have fin : ∀ (w1 : World) (v1 : Value) (acc1 : List (List Ic)) (xs1 : List Value) (M : Nat → Nat → Prop), RowsAt B w1 v1 acc1 xs1 → w1.cell? ⟨bt, 0, none⟩ = some v → w1.shape? bt = some (132, 1) → Chg M W w1 → (∀ q i, q < W.heap.size → M q i → takeM W B bl bt q i) →
      (w1.setCell ⟨bt, 0, none⟩ v1).cell? ⟨bt, 0, none⟩ = some v1 ∧ RowsAt B (w1.setCell ⟨bt, 0, none⟩ v1) v1 acc1 xs1 ∧ Chg (takeM W B bl bt) W (w1.setCell ⟨bt, 0, none⟩ v1) := by
    intro w1 v1 acc1 xs1 M h1 h2 h2s h3 h4
    have hset : Chg (fun q i => q = bt ∧ i = 0) w1 (w1.setCell ⟨bt, 0, none⟩ v1) := (Chg.refl _ w1).setCell (fun _ => ⟨rfl, rfl⟩) _
    refine ⟨cell_set_eq h2 rfl, h1.keep hset ?_, (h3.mono h4).setCell (fun _ => .inr (.inl rfl)) _⟩
    rintro k i hk ⟨rfl, rfl⟩
    exact not_rowy_of h2s (by decide) (by decide) hk
  rcases ht with ⟨rfl, hl3, rfl⟩ | ⟨acc0, c, ic, rfl, hl3, hcl, rfl, u, us, T, p, rfl, hul, hut, hic, hread⟩
  · obtain ⟨a, cp, rfl⟩ : ∃ a cp, v = .slice a acc.length cp := by
      rcases h.own.2 with ⟨e1, e2⟩ | ⟨g', cap', cur, e1, _⟩
      · exact ⟨none, 0, by rw [e1, e2]⟩
      · exact ⟨_, _, e1⟩
    have k1 := withLine_thread hL hl3 rfl h.own (fun e => (nbl _ e).1 rfl) (fun e => (nbl _ e).2.1 rfl)
    refine (read1_ok (R := fun a1 kk c1 w1 => ∃ g, a1 = some ⟨g, 0, none⟩ ∧ RowsAt B w1 (.slice a1 kk c1) (acc ++ [[]]) (xs ++ [.slice none 0 0]) ∧ w1.shape? bt = some (132, 1) ∧ Chg (fun q i => lineM bl q i ∨ (Value.slice a acc.length cp).ownBlock = some q) W w1) hbt (k1.mono ?_)).mono ?_
    · rintro e w1 ⟨g, cap, rfl, h1, h2, h3, h4⟩
      refine ⟨_, _, _, rfl, ⟨g, rfl, rowsAt_head hB hL h h1 h2 h4, (h4.shape bt hlt).trans hst, h4⟩, (h4.cell bt 0 hlt ?_).trans hbt, (h4.frozen bt 0 hlt).trans hft⟩
      rintro (e | e)
      · exact nbt e.1
      · exact (nbl _ e).2.2 rfl
    · rintro e W' ⟨rfl, a1, kk, c1, w1, ⟨g, rfl, h1, hs, h2⟩, h3, rfl⟩
      refine ⟨rfl, _, _, fin w1 _ _ _ _ h1 h3 hs h2 ?_⟩
      rintro q i hq (e | e)
      · exact .inl e.1
      · obtain ⟨c, hs⟩ := ownsRow_shape h.own q e
        exact .inr (.inr ⟨h.low q e, _, c, hs, .inl rfl⟩)
  · obtain ⟨g, cp, rfl⟩ : ∃ g cp, v = .slice (some ⟨g, 0, none⟩) (acc0.length + 1) cp := by
      rcases h.own.2 with ⟨e1, e2⟩ | ⟨g', cap', cur, e1, _⟩
      · simp at e2
      · exact ⟨g', cap', by simpa using e1⟩
    have hlen := h.len
    simp at hlen
    obtain ⟨iv, hiv⟩ : ∃ iv, xs[acc0.length]? = some iv := ⟨_, List.getElem?_eq_getElem (by omega)⟩
    obtain ⟨c', hc1, hc2⟩ := h.row _ _ hiv
    simp at hc1
    subst hc1
    have nib : ∀ g', iv.ownBlock = some g' → g' ≠ bl ∧ g' ≠ bw ∧ g' ≠ bt := by
      intro g' hg'
      obtain ⟨c', hs⟩ := ownsRow_shape hc2 g' hg'
      refine ⟨fun e => ?_, fun e => ?_, fun e => ?_⟩
      · rw [e, hL.sh] at hs; simp at hs
      · rw [e, hws] at hs; simp at hs
      · rw [e, hst] at hs; simp at hs
    have hown : W.ownsRow 0 140 1 (.slice (some ⟨g, 0, none⟩) (acc0.length + 1) cp) (acc0.length + 1) xs := by simpa using h.own
    have k1 := withLine_ins (T := T) (p := p) hL hul hut hl3 (fun W1 hL1 hC1 => hread W1 bl n bw hL1 (fun j hj => (hC1.cell 2 j (by omega) (fun e => by omega)).trans (hw j hj))) hown (fun e => (nbl g rfl).1 e) (fun e => (nbl g rfl).2.1 e) hiv hc2 hcl (fun e => (nib _ e).1 rfl) (fun e => (nib _ e).2.1 rfl)
    refine (read1_ok (R := fun a1 kk c1 w1 => ∃ xs1, RowsAt B w1 (.slice a1 kk c1) (acc0 ++ [c ++ [ic]]) xs1 ∧ w1.shape? bt = some (132, 1) ∧ Chg (fun q i => lineM bl q i ∨ iv.ownBlock = some q ∨ (q = g ∧ i = acc0.length)) W w1) hbt (k1.mono ?_)).mono ?_
    · rintro e w1 ⟨rfl, b, cap, h1, h2, h3, h4, h5⟩
      rw [← hic] at h1
      refine ⟨_, _, _, rfl, ⟨_, rowsAt_ins hB hL h hiv h1 h2 h3 h5, (h5.shape bt hlt).trans hst, h5⟩, (h5.cell bt 0 hlt ?_).trans hbt, (h5.frozen bt 0 hlt).trans hft⟩
      rintro (e | e | e)
      · exact nbt e.1
      · exact (nib _ e).2.2 rfl
      · exact (nbl g rfl).2.2 e.1.symm
    · rintro e W' ⟨rfl, a1, kk, c1, w1, ⟨xs1, h1, hs, h2⟩, h3, rfl⟩
      refine ⟨rfl, _, _, fin w1 _ _ _ _ h1 h3 hs h2 ?_⟩
      rintro q i hq (e | e | e)
      · exact .inl e.1
      · obtain ⟨c', hs⟩ := ownsRow_shape hc2 q e
        exact .inr (.inr ⟨h.lowr _ _ hiv q e, _, c', hs, .inr rfl⟩)
      · obtain ⟨c', hs⟩ := ownsRow_shape h.own q (by simp [Value.ownBlock, e.1])
        exact .inr (.inr ⟨h.low q (by simp [Value.ownBlock, e.1]), _, c', hs, .inl rfl⟩)
end
end Go.Proofs.YtfhkfnoajbbfdaaGreatDoor
