import Derived.Test.YtfhkfnoajbbfdabGreatDoorPart14
import Derived.Test.YtfhkfnoajbbfdabGreatDoorPart15
/- A code's text, whatever it is: what codes.Read makes of it. -/
namespace Go.Proofs.YtfhkfnoajbbfdabGreatDoor
open Go.RowKit

/-! What is read keeps to its bounds. -/

theorem regVal_lt {u : ByteArray} {r : Nat} (h : regVal u = some r) : r < 8 := by
  unfold regVal at h
  split at h
  · split at h
    · rename_i hc; simp at h; omega
    · simp at h
  · simp at h

theorem gReg_lt {ws ws1 : List ByteArray} {r : Nat} (h : gReg ws = some (r, ws1)) : r < 8 := by
  cases ws with
  | nil => simp [gReg] at h
  | cons u ws =>
    simp [gReg] at h
    obtain ⟨r', h1, rfl, _⟩ := h
    exact regVal_lt h1

theorem gVal_ok {ws ws1 : List ByteArray} {x : Vl} (h : gVal ws = some (x, ws1)) : x.ok := by
  cases ws with
  | nil => simp [gVal] at h
  | cons u ws =>
    simp only [gVal] at h
    split at h
    · rename_i r hr
      simp at h
      obtain ⟨rfl, _⟩ := h
      intro _
      have := regVal_lt hr
      show (0 : Int) ≤ (r : Int) ∧ (r : Int) < 8
      omega
    · simp at h
      obtain ⟨v, _, rfl, _⟩ := h
      intro h
      simp at h

theorem gCell_ok {ws ws1 : List ByteArray} {c : Vl × Int} (h : gCell ws = some (c, ws1)) : c.1.ok := by
  unfold gCell at h
  cases h1 : gVal ws with
  | none => simp [h1] at h
  | some q =>
    cases h2 : gNum q.2 with
    | none => simp [h1, h2] at h
    | some q2 =>
      simp [h1, h2] at h
      obtain ⟨rfl, _⟩ := h
      exact gVal_ok (ws1 := q.2) h1

theorem num_ok (v : Int) : (⟨false, v⟩ : Vl).ok := fun h => by simp at h

theorem gIns_ok {u : ByteArray} {ws ws1 : List ByteArray} {ic : Ic} (h : gIns u ws = some (ic, ws1)) : okI ic := by
  have z := num_ok 0
  unfold gIns at h
  split at h
  · rename_i k hk
    have hop := (opIx_some hk).1
    unfold gop at h
    cases h1 : gReg ws with
    | none => simp [h1] at h
    | some p1 =>
      cases h2 : gVal p1.2 with
      | none => simp [h1, h2] at h
      | some p2 =>
        cases h3 : gVal p2.2 with
        | none => simp [h1, h2, h3] at h
        | some p3 =>
          simp [h1, h2, h3] at h
          obtain ⟨rfl, _⟩ := h
          exact ⟨gReg_lt (ws1 := p1.2) h1, gVal_ok (ws1 := p2.2) h2, gVal_ok (ws1 := p3.2) h3, z, .inr (.inr (.inr (.inr (.inr (.inr (.inr (.inr (.inr (.inl ⟨rfl, hop⟩)))))))))⟩
  · split at h
    · unfold gmov at h
      cases h1 : gReg ws with
      | none => simp [h1] at h
      | some p1 =>
        cases h2 : gVal p1.2 with
        | none => simp [h1, h2] at h
        | some p2 =>
          simp [h1, h2] at h
          obtain ⟨rfl, _⟩ := h
          exact ⟨gReg_lt (ws1 := p1.2) h1, gVal_ok (ws1 := p2.2) h2, z, z, .inr (.inr (.inr (.inr (.inr (.inr (.inr (.inr (.inl rfl))))))))⟩
    split at h
    · unfold gload at h
      cases h1 : gReg ws with
      | none => simp [h1] at h
      | some p1 =>
        cases h2 : gCell p1.2 with
        | none => simp [h1, h2] at h
        | some p2 =>
          simp [h1, h2] at h
          obtain ⟨rfl, _⟩ := h
          exact ⟨gReg_lt (ws1 := p1.2) h1, gCell_ok (ws1 := p2.2) h2, z, z, .inl rfl⟩
    split at h
    · unfold gstore at h
      cases h1 : gCell ws with
      | none => simp [h1] at h
      | some p1 =>
        cases h2 : gVal p1.2 with
        | none => simp [h1, h2] at h
        | some p2 =>
          simp [h1, h2] at h
          obtain ⟨rfl, _⟩ := h
          exact ⟨show 0 < 8 by decide, gCell_ok (ws1 := p1.2) h1, gVal_ok (ws1 := p2.2) h2, z, .inr (.inl rfl)⟩
    split at h
    · unfold gcas at h
      cases h1 : gReg ws with
      | none => simp [h1] at h
      | some p1 =>
        cases h2 : gCell p1.2 with
        | none => simp [h1, h2] at h
        | some p2 =>
          cases h3 : gVal p2.2 with
          | none => simp [h1, h2, h3] at h
          | some p3 =>
            cases h4 : gVal p3.2 with
            | none => simp [h1, h2, h3, h4] at h
            | some p4 =>
              simp [h1, h2, h3, h4] at h
              obtain ⟨rfl, _⟩ := h
              exact ⟨gReg_lt (ws1 := p1.2) h1, gCell_ok (ws1 := p2.2) h2, gVal_ok (ws1 := p3.2) h3, gVal_ok (ws1 := p4.2) h4, .inr (.inr (.inl rfl))⟩
    split at h
    · unfold gxadd at h
      cases h1 : gReg ws with
      | none => simp [h1] at h
      | some p1 =>
        cases h2 : gCell p1.2 with
        | none => simp [h1, h2] at h
        | some p2 =>
          cases h3 : gVal p2.2 with
          | none => simp [h1, h2, h3] at h
          | some p3 =>
            simp [h1, h2, h3] at h
            obtain ⟨rfl, _⟩ := h
            exact ⟨gReg_lt (ws1 := p1.2) h1, gCell_ok (ws1 := p2.2) h2, gVal_ok (ws1 := p3.2) h3, z, .inr (.inr (.inr (.inl rfl)))⟩
    split at h
    · simp [gfence] at h
      obtain ⟨rfl, _⟩ := h
      exact ⟨show 0 < 8 by decide, z, z, z, .inr (.inr (.inr (.inr (.inl rfl))))⟩
    split at h
    · unfold gout at h
      cases h1 : gVal ws with
      | none => simp [h1] at h
      | some p1 =>
        simp [h1] at h
        obtain ⟨rfl, _⟩ := h
        exact ⟨show 0 < 8 by decide, gVal_ok (ws1 := p1.2) h1, z, z, .inr (.inr (.inr (.inr (.inr (.inl rfl)))))⟩
    split at h
    · unfold gjmp at h
      cases h1 : gIn 0 4000 ws with
      | none => simp [h1] at h
      | some p1 =>
        simp [h1] at h
        obtain ⟨rfl, _⟩ := h
        exact ⟨show 0 < 8 by decide, z, z, z, .inr (.inr (.inr (.inr (.inr (.inr (.inl rfl))))))⟩
    split at h
    · unfold gjz at h
      cases h1 : gVal ws with
      | none => simp [h1] at h
      | some p1 =>
        cases h2 : gIn 0 4000 p1.2 with
        | none => simp [h1, h2] at h
        | some p2 =>
          simp [h1, h2] at h
          obtain ⟨rfl, _⟩ := h
          exact ⟨show 0 < 8 by decide, gVal_ok (ws1 := p1.2) h1, z, z, .inr (.inr (.inr (.inr (.inr (.inr (.inr (.inr (.inr (.inr rfl)))))))))⟩
    split at h
    · unfold gtrap at h
      cases h1 : gIn 1 9 ws with
      | none => simp [h1] at h
      | some p1 =>
        simp [h1] at h
        obtain ⟨rfl, _⟩ := h
        exact ⟨show 0 < 8 by decide, z, z, z, .inr (.inr (.inr (.inr (.inr (.inr (.inr (.inl rfl)))))))⟩
    split at h
    · simp [ghalt] at h
      obtain ⟨rfl, _⟩ := h
      exact ⟨show 0 < 8 by decide, z, z, z, .inr (.inr (.inr (.inr (.inr (.inr (.inr (.inl rfl)))))))⟩
    · simp at h

/-- Threads that keep to the bounds. -/
def AccOk (acc : List (List Ic)) : Prop := acc.length ≤ 3 ∧ ∀ c ∈ acc, c.length ≤ 4000 ∧ ∀ i ∈ c, okI i

theorem gLine_ok {ws : List ByteArray} {acc acc' : List (List Ic)} (h : gLine ws acc = .ok acc') (ha : AccOk acc) : AccOk acc' ∧ acc' ≠ [] := by
  unfold gLine at h
  split at h
  · simp at h
  · split at h
    · split at h
      · split at h
        · simp at h
        · simp at h
          subst h
          refine ⟨⟨?_, ?_⟩, by simp⟩
          · have := ha.1; simp; omega
          · intro c hc
            simp at hc
            rcases hc with hc | rfl
            · exact ha.2 c hc
            · exact ⟨by simp, fun i hi => by simp at hi⟩
      · simp at h
    · split at h
      · simp at h
      · simp at h
      · rename_i ic hi
        split at h
        · simp at h
        · rename_i c hc
          split at h
          · simp at h
          · rename_i hne
            simp at h
            subst h
            have hm : c ∈ acc := List.mem_of_getLast? hc
            refine ⟨⟨?_, ?_⟩, by simp⟩
            · have h0 : acc ≠ [] := List.ne_nil_of_mem hm
              have := List.length_pos_iff.2 h0
              have := ha.1
              simp; omega
            · intro d hd
              simp at hd
              rcases hd with hd | rfl
              · exact ha.2 d ((List.dropLast_sublist acc).subset hd)
              · have h1 := (ha.2 c hm).1
                refine ⟨by simp; omega, fun i hi' => ?_⟩
                simp at hi'
                rcases hi' with hi' | rfl
                · exact (ha.2 c hm).2 i hi'
                · exact gIns_ok hi

/-- The lines of a text, one after the other; its first fault and that line. -/
def gText : Nat → List UInt8 → Nat → List (List Ic) → Except (Int × Int) (List (List Ic))
  | 0, _, _, acc => .ok acc
  | f + 1, r, j, acc => if r = [] ∧ j ≠ 0 then .ok acc else match Lib.cut r [10] with
    | (_, _, false) => .error (2, j + 1)
    | (l, r', true) => match gLine (wordsOf l) acc with
      | .ok acc' => gText f r' (j + 1) acc'
      | .error er => .error (er, j + 1)

theorem cut_sizes (r : List UInt8) (c : UInt8) : (Lib.cut r [c]).1.length ≤ r.length := by
  unfold Lib.cut
  split
  · simp only [List.length_take]; omega
  · exact Nat.le_refl _

theorem cut_nil (c : UInt8) : Lib.cut [] [c] = ([], [], false) := rfl

/-- A line's words are not too many, none too long. -/
theorem wordsOf_sz {l : List UInt8} (h : l.length ≤ 131072) : SzOk (wordsOf l) := by
  constructor
  · rw [wordsOf_len]
    have := Lib.countB_le ⟨#[32]⟩ (by decide) _ ⟨l.toArray⟩ (Nat.le_refl _)
    have h2 : (⟨l.toArray⟩ : ByteArray).size = l.length := by show l.toArray.size = _; simp
    omega
  · intro u hu
    have key : ∀ (k : Nat) (s : ByteArray), ∀ u ∈ Lib.splitB ⟨#[32]⟩ 0 k s, u.size ≤ s.size := by
      intro k
      induction k with
      | zero => intro s u hu; simp [Lib.splitB_zero] at hu; rw [hu]; exact Nat.le_refl _
      | succ k ih =>
        intro s u hu
        unfold Lib.splitB at hu
        split at hu
        · simp at hu; rw [hu]; exact Nat.le_refl _
        · simp only [List.mem_cons] at hu
          rcases hu with rfl | hu
          · rw [ByteArray.size_extract]; omega
          · have := ih _ u hu
            rw [ByteArray.size_extract] at this
            omega
    have h2 : (⟨l.toArray⟩ : ByteArray).size = l.length := by show l.toArray.size = _; simp
    have := key _ _ u hu
    omega

/-- What holds between two lines. W: the world in which codes.Read began; R: what the text comes to. -/
def GInv (W : World) (R : Except (Int × Int) (List (List Ic))) (r : List UInt8) (j : Nat) (w : World) : Prop :=
  ∃ f acc v xs, r.length + 1 ≤ f ∧ r.length ≤ 131072 ∧ gText f r j acc = R ∧ AccOk acc ∧ (j ≠ 0 → acc ≠ []) ∧ w.cell? ⟨W.heap.size, 0, none⟩ = some v ∧ w.shape? W.heap.size = some (83, 1) ∧ w.frozen? ⟨W.heap.size, 0, none⟩ = false ∧ RowsAt W.heap.size w v acc xs ∧ Below W.heap.size W w ∧
    w.cell? ⟨W.heap.size + 1, 0, none⟩ = some .nilIface ∧ w.frozen? ⟨W.heap.size + 1, 0, none⟩ = false ∧ w.shape? (W.heap.size + 1) = some (59, 1)

def GBad (W : World) (R : Except (Int × Int) (List (List Ic))) (bf : Nat) (w : World) : Prop :=
  ∃ er ln, R = .error (er, ln) ∧ w.cell? ⟨bf, 0, none⟩ = some (.int .i64 er) ∧ w.cell? ⟨bf, 1, none⟩ = some (.int .i64 ln) ∧ W.heap.size + 1 < bf ∧ Below W.heap.size W w ∧
    w.cell? ⟨W.heap.size + 1, 0, none⟩ = some .nilIface ∧ w.frozen? ⟨W.heap.size + 1, 0, none⟩ = false ∧ W.heap.size + 1 < w.heap.size

section
variable {W : World} {R : Except (Int × Int) (List (List Ic))} {r : List UInt8} {j : Nat} {w : World}

theorem ginv_step (hE : Env W) (h : GInv W R r j w) (hr : r ≠ [] ∨ j = 0) :
    ∃ l r' b, Lib.cut r [10] = (l, r', b) ∧ l.length ≤ r.length ∧
      (b = true → r'.length < r.length ∧ ∀ n, Calls Tryz.prog 56 #[ptr (w.heap.size + 1), ptr W.heap.size] (((w.drewN n).alloc (.cells ((wordsOf l).map Value.string).toArray 9)).alloc (.cells #[.int .i64 (j + 1), .slice (some ⟨w.heap.size, 0, none⟩) (wordsOf l).length (wordsOf l).length] 202)) fun e w2 => (e = .returned (.tuple #[]) ∧ GInv W R r' (j + 1) w2) ∨ ∃ bf, e = .panicked (stopV bf) ∧ GBad W R bf w2) ∧
      (b = false → ∀ n bf w2, Fails 2 (j + 1) (w.heap.size + 1) (((w.drewN n).alloc (.cells ((wordsOf l).map Value.string).toArray 9)).alloc (.cells #[.int .i64 (j + 1), .slice (some ⟨w.heap.size, 0, none⟩) (wordsOf l).length (wordsOf l).length] 202)) (.panicked (stopV bf)) w2 → GBad W R bf w2) := by
  obtain ⟨f, acc, v, xs, hf, hr1, hR, hacc, hne, a1, a2, a3, a4, a5, a6, a7, a8⟩ := h
  obtain ⟨f, rfl⟩ : ∃ f', f = f' + 1 := ⟨f - 1, by omega⟩
  have hcond : ¬ (r = [] ∧ j ≠ 0) := fun ⟨e1, e2⟩ => hr.elim (fun h => h e1) (fun h => e2 h)
  have hB : W.heap.size ≤ w.heap.size := a5.size
  have lt1 : W.heap.size < w.heap.size := lt_of_shape a2
  have lt2 : W.heap.size + 1 < w.heap.size := lt_of_shape a8
  have hl := cut_sizes r 10
  generalize hcu : Lib.cut r [10] = q
  obtain ⟨l, r', b⟩ := q
  rw [hcu] at hl
  simp only at hl
  have hworld : ∀ n, ∃ w1, w1 = ((w.drewN n).alloc (.cells ((wordsOf l).map Value.string).toArray 9)).alloc (.cells #[.int .i64 (j + 1), .slice (some ⟨w.heap.size, 0, none⟩) (wordsOf l).length (wordsOf l).length] 202) ∧ Below w.heap.size w w1 ∧ LineAt w1 (w.heap.size + 1) (j + 1) w.heap.size (wordsOf l) ∧ w1.shape? w.heap.size = some (9, (wordsOf l).length) := by
    intro n
    refine ⟨_, rfl, ((below_drewN w.heap.size w n).alloc (Nat.le_refl _) _).alloc (by simp) _, lineAt_new (w := w.drewN n), ?_⟩
    refine (shape_of_block (Below.heap_alloc _ _ _ (by simp))).trans ?_
    have := shape_new (w.drewN n) ((wordsOf l).map Value.string).toArray 9
    rw [show ((wordsOf l).map Value.string).toArray.size = (wordsOf l).length from by simp] at this
    exact this
  -- what a fault in this line comes to
  have hfall : ∀ (w1 : World) (er : Int) (bf : Nat) (w2 : World), Below w.heap.size w w1 → R = .error (er, (j : Int) + 1) → Fails er (j + 1) (w.heap.size + 1) w1 (.panicked (stopV bf)) w2 → GBad W R bf w2 := by
    rintro w1 er bf w2 hb hR' ⟨bf', e1, e2, e3, e4, e5⟩
    have : bf' = bf := by simpa [stopV] using e1.symm
    subst this
    have hs := hb.size
    have hc : Chg (lineM (w.heap.size + 1)) w w2 := (Chg.of_below hb).trans e5
    refine ⟨er, (j : Int) + 1, hR', e3, e4, by omega, a5.trans (hc.below hB (fun k i e => by omega)), (hc.cell _ 0 lt2 (fun e => by omega)).trans a6, (hc.frozen _ 0 lt2).trans a7, Nat.lt_of_lt_of_le lt2 hc.size⟩
  refine ⟨l, r', b, rfl, hl, ?_, ?_⟩
  · rintro rfl
    have hr0 : r ≠ [] := fun e => by rw [e, cut_nil] at hcu; simp at hcu
    have hlt := (cut_lt hcu hr0).1
    refine ⟨hlt, fun n => ?_⟩
    obtain ⟨w1, hw1, hb, hL, hws⟩ := hworld n
    rw [← hw1]
    have hc1 : Chg (fun _ _ => False) w w1 := Chg.of_below hb
    have hE1 : Env w1 := (hE.keep (M := fun k _ => W.heap.size ≤ k) ((Chg.of_below (a5.trans (hb.mono hB)))) (fun k i hk e => by have := hE.lo; omega))
    have s2 := (hc1.shape _ lt1).trans a2
    have s8 := (hc1.shape _ lt2).trans a8
    have hR2 : R = match gLine (wordsOf l) acc with | .ok acc' => gText f r' (j + 1) acc' | .error er => .error (er, (j : Int) + 1) := by rw [← hR]; simp only [gText, if_neg hcond, hcu]
    refine (take_tot (Nat.le_trans hB hb.size) hE.lo hL (by omega) hws ((hc1.cell _ 0 lt1 (fun e => e)).trans a1) s2 ((hc1.frozen _ 0 lt1).trans a3) (a4.keep hc1 (fun _ _ _ e => e)) hacc.1 (fun c hc => (hacc.2 c hc).1) hE1 (wordsOf_sz (by omega))).mono ?_
    intro e w2 h2
    cases hg : gLine (wordsOf l) acc with
    | error er =>
      rw [hg] at h2 hR2
      right
      obtain ⟨bf, he, h3⟩ := h2.thru (Chg.refl _ w1)
      exact ⟨bf, he, hfall w1 er bf w2 hb hR2 h3⟩
    | ok acc' =>
      rw [hg] at h2 hR2
      left
      obtain ⟨rfl, v', xs', c1, c2, c3⟩ := h2
      have lt1' := Nat.lt_of_lt_of_le lt1 hb.size
      have lt2' := Nat.lt_of_lt_of_le lt2 hb.size
      have nt : ¬ takeM w1 W.heap.size (w.heap.size + 1) W.heap.size (W.heap.size + 1) 0 := by
        rintro (e | e | e)
        · omega
        · omega
        · exact not_rowy_of s8 (by decide) (by decide) e.2
      obtain ⟨ok1, ok2⟩ := gLine_ok hg hacc
      refine ⟨rfl, f, acc', v', xs', by omega, by omega, hR2.symm, ok1, fun _ => ok2, c1, (c3.shape _ lt1').trans s2, (c3.frozen _ 0 lt1').trans ((hc1.frozen _ 0 lt1).trans a3), c2, (a5.trans (hb.mono hB)).trans (c3.below (Nat.le_trans hB hb.size) ?_), (c3.cell _ 0 lt2' nt).trans ((hc1.cell _ 0 lt2 (fun e => e)).trans a6), (c3.frozen _ 0 lt2').trans ((hc1.frozen _ 0 lt2).trans a7), (c3.shape _ lt2').trans s8⟩
      rintro k i (e | e | e)
      · omega
      · omega
      · exact e.1
  · rintro rfl n bf w2 hF
    obtain ⟨w1, hw1, hb, _, _⟩ := hworld n
    rw [← hw1] at hF
    have hR2 : R = .error (2, (j : Int) + 1) := by rw [← hR]; simp only [gText, if_neg hcond, hcu]
    exact hfall w1 2 bf w2 hb hR2 hF
end
end Go.Proofs.YtfhkfnoajbbfdabGreatDoor

/- codes.Read and commits.Load, whatever the text is. -/
namespace Go.Proofs.YtfhkfnoajbbfdabGreatDoor
open Go.RowKit

/-- What a code comes to. -/
def gCode (s : ByteArray) : Except (Int × Int) (List (List Ic)) := if 131072 < s.size then .error (1, 0) else gText (s.size + 2) s.data.toList 0 []

/-- A fault, told as an error. -/
def FaultAt (w : World) (bf : Nat) (er ln : Int) : Prop := w.cell? ⟨bf, 0, none⟩ = some (.int .i64 er) ∧ w.cell? ⟨bf, 1, none⟩ = some (.int .i64 ln)

set_option maxRecDepth 100000 in
set_option maxHeartbeats 1000000 in
theorem textRead_long (W : World) (s : ByteArray) (most : Int) (tk : Value) (hs : most < (s.size : Int)) :
    Calls Tryz.prog 55 #[.string s, .int .i64 most, tk] W fun e w' => ∃ bf, e = .returned (.iface 89 (ptr bf)) ∧ W.heap.size < bf ∧ FaultAt w' bf 1 0 ∧ Below W.heap.size W w' := by
  go_enter_defers Tryz.func55, Tryz.ntmps55
  go_wp2
  have hsz : (W.alloc (.cells #[.iface 89 (ptr (W.heap.size + 1))] 59)).heap.size = W.heap.size + 1 := by simp
  have c0 := World.cell?_alloc_new (W.alloc (.cells #[.iface 89 (ptr (W.heap.size + 1))] 59)) #[.int .i64 1, .int .i64 0] 93 0
  have c1 := World.cell?_alloc_new (W.alloc (.cells #[.iface 89 (ptr (W.heap.size + 1))] 59)) #[.int .i64 1, .int .i64 0] 93 1
  rw [hsz] at c0 c1
  refine ⟨.iface 89 (ptr (W.heap.size + 1)), ?_, W.heap.size + 1, rfl, by omega, ⟨c0, c1⟩, ((Below.refl _ W).alloc (Nat.le_refl _) _).alloc (by simp) _⟩
  simp [results, Tryz.results55, go_sem]

set_option maxRecDepth 100000 in
set_option maxHeartbeats 1000000 in
theorem codesRead_err (W : World) (s : ByteArray) (Post : Nat → World → Prop)
    (hread : Hid (Calls Tryz.prog 55 #[.string s, .int .i64 131072, .func (.func 56) #[] #[ptr W.heap.size]] (W.alloc (.cells #[.slice none 0 0] 83)) fun e w' => ∃ bf, e = .returned (.iface 89 (ptr bf)) ∧ Post bf w')) :
    Calls Tryz.prog 38 #[.string s] W fun e w' => ∃ bf, e = .returned (.tuple #[.slice none 0 0, .iface 89 (ptr bf)]) ∧ Post bf w' := by
  have hmf : ∀ (fn : Fn) (first cap : Array Value) (w : World), (Instr.makeFunc fn first cap).run Tryz.prog w = .ok (.func fn first cap) w := fun _ _ _ _ => rfl
  go_enter Tryz.func38, Tryz.ntmps38
  go_wp2_with fail
  refine hread.out.mono ?_
  rintro e w1 ⟨bf, rfl, hp⟩
  have HP := hid hp
  clear hp hread
  go_wp2
  go_ret2
  exact ⟨bf, rfl, HP.out⟩

set_option maxRecDepth 100000 in
set_option maxHeartbeats 1000000 in
theorem load_err (W : World) (s : ByteArray) (Post : Nat → World → Prop)
    (hread : Hid (Calls Tryz.prog 38 #[.string s] W fun e w' => ∃ bf, e = .returned (.tuple #[.slice none 0 0, .iface 89 (ptr bf)]) ∧ Post bf w')) :
    Calls Tryz.prog 28 #[.string s] W fun e w' => ∃ bf, e = .returned (.tuple #[.pointer none, .iface 89 (ptr bf)]) ∧ Post bf w' := by
  go_enter Tryz.func28, Tryz.ntmps28
  go_wp2_with fail
  refine hread.out.mono ?_
  rintro e w1 ⟨bf, rfl, hp⟩
  have HP := hid hp
  clear hp hread
  go_wp2
  go_ret2
  exact ⟨bf, rfl, HP.out⟩

theorem FaultAt.keep {w w' : World} {bf : Nat} {er ln : Int} {M : Nat → Nat → Prop} (h : FaultAt w bf er ln) (hc : Chg M w w') (hM : ∀ i, ¬ M bf i) : FaultAt w' bf er ln :=
  ⟨(hc.cell bf 0 (World.block_lt_of_cell? _ _ h.1) (hM 0)).trans h.1, (hc.cell bf 1 (World.block_lt_of_cell? _ _ h.2) (hM 1)).trans h.2⟩

/-- codes.Read, whatever the text is. -/
theorem codesRead_any {W : World} (hE : Env W) (s : ByteArray) :
    Calls Tryz.prog 38 #[.string s] W fun e w' => match gCode s with
      | .ok cs => ∃ a k c xs, e = .returned (.tuple #[.slice a k c, .nilIface]) ∧ RowsAt W.heap.size w' (.slice a k c) cs xs ∧ AccOk cs ∧ cs ≠ [] ∧ Below W.heap.size W w'
      | .error (er, ln) => ∃ bf, e = .returned (.tuple #[.slice none 0 0, .iface 89 (ptr bf)]) ∧ W.heap.size ≤ bf ∧ FaultAt w' bf er ln ∧ Below W.heap.size W w' := by
  have hsz : (W.alloc (.cells #[.slice none 0 0] 83)).heap.size = W.heap.size + 1 := by simp
  have hbA : Below W.heap.size W (W.alloc (.cells #[.slice none 0 0] 83)) := (Below.refl _ W).alloc (Nat.le_refl _) _
  by_cases hlong : 131072 < s.size
  · rw [show gCode s = .error (1, 0) from by unfold gCode; rw [if_pos hlong]]
    refine (codesRead_err W s (fun bf w' => W.heap.size ≤ bf ∧ FaultAt w' bf 1 0 ∧ Below W.heap.size W w') ((textRead_long _ s 131072 _ (by omega)).mono ?_)).mono ?_
    · rintro e w' ⟨bf, rfl, h1, h2, h3⟩
      rw [hsz] at h1
      exact ⟨bf, rfl, by omega, h2, hbA.trans (h3.mono (by simp))⟩
    · rintro e w' ⟨bf, rfl, h⟩
      exact ⟨bf, rfl, h⟩
  have hs' : ∀ l : List UInt8, l.length ≤ s.size → (⟨l.toArray⟩ : ByteArray).size < 4294967281 := fun l hl => by
    have : (⟨l.toArray⟩ : ByteArray).size = l.length := by show l.toArray.size = _; simp
    omega
  have hlen : s.data.toList.length = s.size := by rw [Array.length_toList]; rfl
  have hgc : gCode s = gText (s.size + 2) s.data.toList 0 [] := by unfold gCode; rw [if_neg hlong]
  obtain ⟨m, hm⟩ := hE.max
  have hmx : ∀ r j w, GInv W (gCode s) r j w → w.cell? ⟨1, 0, none⟩ = some (.int .i64 m) := by
    rintro r j w ⟨f, acc, v, xs, hf, hr1, hR, hacc, hne, a1, a2, a3, a4, a5, a6, a7, a8⟩
    exact (a5.cell (p := ⟨1, 0, none⟩) (show 1 < W.heap.size by have := hE.lo; omega)).trans hm
  have k := textRead_gen (W.alloc (.cells #[.slice none 0 0] 83)) s 131072 56 W.heap.size (GInv W (gCode s)) (GBad W (gCode s)) (by omega) (by omega) callsRead1 ?_ ?_ ?_ ?_ ?_ ?_
  · rw [hsz] at k
    cases hR : gCode s with
    | ok cs =>
      refine (codesRead_walk W s (fun w' => ∃ a k c xs, w'.cell? ⟨W.heap.size, 0, none⟩ = some (.slice a k c) ∧ RowsAt W.heap.size w' (.slice a k c) cs xs ∧ AccOk cs ∧ cs ≠ [] ∧ Below W.heap.size W w') (k.mono ?_)).mono ?_
      · rintro e w' (⟨rfl, j, w1, hj, ⟨f, acc, v, xs, hf, hr1, hR', hacc, hne, a1, a2, a3, a4, a5, a6, a7, a8⟩, rfl⟩ | ⟨bf, w2, _, ⟨er, ln, hbad, _⟩, _⟩)
        · obtain ⟨f, rfl⟩ : ∃ f', f = f' + 1 := ⟨f - 1, by omega⟩
          rw [hR] at hR'
          simp only [gText, ne_eq, hj, not_false_eq_true, and_self, if_true, Except.ok.injEq] at hR'
          subst hR'
          obtain ⟨a, kk, c, rfl⟩ : ∃ a kk c, v = .slice a kk c := by
            rcases a4.own.2 with ⟨e1, e2⟩ | ⟨g', cap', cur, e1, _⟩
            · exact ⟨_, _, _, e1⟩
            · exact ⟨_, _, _, e1⟩
          have hset : Chg (fun q i => q = W.heap.size + 1 ∧ i = 0) w1 (w1.setCell ⟨W.heap.size + 1, 0, none⟩ .nilIface) := (Chg.refl _ w1).setCell (fun _ => ⟨rfl, rfl⟩) _
          have cb := (hset.cell W.heap.size 0 (lt_of_shape a2) (fun e => by omega)).trans a1
          refine ⟨rfl, ⟨a, kk, c, xs, cb, a4.keep hset ?_, hacc, hne hj, a5.trans (hset.below a5.size ?_)⟩, a, kk, c, cb⟩
          · rintro q i hq ⟨rfl, _⟩
            exact not_rowy_of a8 (by decide) (by decide) hq
          · rintro q i ⟨rfl, _⟩
            omega
        · rw [hR] at hbad
          simp at hbad
      · rintro e w' ⟨a, kk, c, rfl, h1, a', k', c', xs, h2, h3, h4, h5, h6⟩
        rw [h1] at h2
        simp only [Option.some.injEq, Value.slice.injEq] at h2
        obtain ⟨rfl, rfl, rfl⟩ := h2
        exact ⟨a, kk, c, xs, rfl, h3, h4, h5, h6⟩
    | error q =>
      obtain ⟨er, ln⟩ := q
      refine (codesRead_err W s (fun bf w' => W.heap.size ≤ bf ∧ FaultAt w' bf er ln ∧ Below W.heap.size W w') (k.mono ?_)).mono ?_
      · rintro e w' (⟨rfl, j, w1, hj, ⟨f, acc, v, xs, hf, hr1, hR', _⟩, rfl⟩ | ⟨bf, w2, rfl, ⟨er', ln', hbad, b1, b2, b3, b4, b5, b6, b7⟩, rfl⟩)
        · obtain ⟨f, rfl⟩ : ∃ f', f = f' + 1 := ⟨f - 1, by omega⟩
          rw [hR] at hR'
          simp [gText, hj] at hR'
        · rw [hR] at hbad
          simp at hbad
          obtain ⟨rfl, rfl⟩ := hbad
          have hc : Chg (fun q i => q = W.heap.size + 1 ∧ i = 0) w2 ((w2.alloc (.cells #[ptr bf] 197)).setCell ⟨W.heap.size + 1, 0, none⟩ (.iface 89 (ptr bf))) := ((Chg.refl _ w2).alloc _).setCell (fun _ => ⟨rfl, rfl⟩) _
          exact ⟨bf, rfl, by omega, FaultAt.keep ⟨b1, b2⟩ hc (fun i e => by omega), b4.trans (hc.below b4.size (fun q i e => by omega))⟩
      · rintro e w' ⟨bf, rfl, h⟩
        exact ⟨bf, rfl, h⟩
  · -- at the start
    refine ⟨s.size + 2, [], .slice none 0 0, [], by omega, by omega, hgc.symm, ⟨by simp, fun c hc => by simp at hc⟩, fun h => absurd rfl h, ?_, ?_, ?_, ⟨nilRow _ _, ?_, ?_, ?_, ?_⟩, ((Below.refl _ W).alloc (Nat.le_refl _) _).alloc (by simp) _, ?_, ?_, ?_⟩
    · exact (World.cell?_alloc_past _ _ _ (by simp)).trans (World.cell?_alloc_new W _ _ 0)
    · exact (shape_of_block (Below.heap_alloc _ _ _ (by simp))).trans (shape_new W _ _)
    · exact (World.frozen?_alloc_past _ _ _ (by simp)).trans (by simp)
    · intro i iv hi; simp at hi
    · intro i j iv jv _ hi; simp at hi
    · intro g hg; simp [Value.ownBlock] at hg
    · intro i iv hi; simp at hi
    · rw [← hsz]; exact World.cell?_alloc_new _ _ _ 0
    · rw [← hsz]; simp
    · rw [← hsz]; exact shape_new _ _ _
  · intro r j w hr hi
    exact Tryz.strings_Cut ⟨r.toArray⟩ ⟨#[10]⟩ m w (hs' r hr) (hmx r j w hi)
  · intro r j w l n hi hl
    have hmw : w.cell? ⟨1, 0, none⟩ = some (.int .i64 m) := hmx r j w hi
    have hk := Tryz.strings_Split ⟨l.toArray⟩ ⟨#[32]⟩ m (w.drewN n) (hs' l hl) hmw (by decide)
    rw [wordsOf_len]
    exact hk
  · intro r j w hi hr
    exact ginv_step hE hi hr
  · rintro r j w ⟨f, acc, v, xs, hf, hr1, hR, hacc, hne, a1, a2, a3, a4, a5, a6, a7, a8⟩
    rw [hsz]
    exact ⟨a6, a7⟩
  · rintro bf w ⟨er, ln, hbad, b1, b2, b3, b4, b5, b6, b7⟩
    rw [hsz]
    exact ⟨b7, b5, b6⟩

set_option maxRecDepth 100000 in
set_option maxHeartbeats 1000000 in
theorem load_never (W : World) (s : ByteArray) (hread : Hid (Calls Tryz.prog 38 #[.string s] W fun _ _ => False)) :
    Calls Tryz.prog 28 #[.string s] W fun _ _ => False := by
  go_enter Tryz.func28, Tryz.ntmps28
  go_wp2_with fail
  refine hread.out.mono ?_
  intro e w1 h
  exact h.elim

/-- commits.Load, whatever the text is. -/
theorem cload_any {W : World} (hE : Env W) (s : ByteArray) :
    Calls Tryz.prog 28 #[.string s] W fun e w' => match gCode s with
      | .ok cs => ∃ bm, e = .returned (.tuple #[ptr bm, .nilIface]) ∧ MRep (fun k => W.heap.size ≤ k) w' bm (cs.map fun c => (Th.init, c)) (fun _ => 0) ∧ AccOk cs ∧ Below W.heap.size W w'
      | .error (er, ln) => ∃ bf, e = .returned (.tuple #[.pointer none, .iface 89 (ptr bf)]) ∧ W.heap.size ≤ bf ∧ FaultAt w' bf er ln ∧ Below W.heap.size W w' := by
  have k := codesRead_any hE s
  cases hR : gCode s with
  | ok cs =>
    rw [hR] at k
    by_cases hok : AccOk cs ∧ cs ≠ []
    · refine (load_walk W s cs.length (by have := hok.1.1; omega) (fun g w1 => ∃ cap xs, RowsAt W.heap.size w1 (.slice (some ⟨g, 0, none⟩) cs.length cap) cs xs ∧ Below W.heap.size W w1) (LInv W cs) (k.mono ?_) ?_ ?_).mono ?_
      · rintro e w1 ⟨a, k, c, xs, rfl, h1, _, _, h2⟩
        rcases h1.own.2 with ⟨_, e⟩ | ⟨g, cap, cur, e1, _, _, e4, _⟩
        · exact absurd (List.length_eq_zero_iff.1 e) hok.2
        · cases e1
          exact ⟨g, c, rfl, e4, c, xs, h1, h2⟩
      · rintro g w1 ⟨cap, xs, h1, h2⟩
        exact linv_start h1 h2
      · intro g bm k w1 h1 h2
        exact linv_step h1 h2
      · rintro e w1 ⟨g, bm, rfl, h1⟩
        have := linv_end h1 (List.length_pos_iff.2 hok.2)
        exact ⟨bm, rfl, this.1, hok.1, this.2⟩
    · exact (load_never W s (k.mono fun e w' ⟨_, _, _, _, _, _, h1, h2, _⟩ => absurd ⟨h1, h2⟩ hok)).mono fun e w' h => h.elim
  | error q =>
    obtain ⟨er, ln⟩ := q
    rw [hR] at k
    refine (load_err W s (fun bf w' => W.heap.size ≤ bf ∧ FaultAt w' bf er ln ∧ Below W.heap.size W w') k).mono ?_
    rintro e w' ⟨bf, rfl, h⟩
    exact ⟨bf, rfl, h⟩
end Go.Proofs.YtfhkfnoajbbfdabGreatDoor
