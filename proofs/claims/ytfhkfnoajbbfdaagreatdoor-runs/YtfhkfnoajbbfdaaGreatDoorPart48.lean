import Derived.Test.YtfhkfnoajbbfdaaGreatDoorPart38
import Derived.Test.YtfhkfnoajbbfdaaGreatDoorPart39
import Derived.Test.YtfhkfnoajbbfdaaGreatDoorPart45
import Derived.Test.YtfhkfnoajbbfdaaGreatDoorPart46
import Derived.Test.YtfhkfnoajbbfdaaGreatDoorPart47
import Derived.Test.YtfhkfnoajbbfdaaGreatDoorPart26
/- Values of 64 bits: what is read, and what a step makes of them (gIns_in and what follows it as Tw2's gIns_okL). -/
namespace Go.Proofs.YtfhkfnoajbbfdaaGreatDoor
open Go.RowKit

theorem in0 : In64 0 := by unfold In64; omega
theorem in1 : In64 1 := by unfold In64; omega
theorem wrap64_in (x : Int) : In64 (wrap64 x) := by unfold In64 wrap64; omega

/-- The numbers of an instruction. -/
def InI (i : Ic) : Prop := In64 i.a.v ∧ In64 i.b.v ∧ In64 i.c.v

theorem numVal_in {u : ByteArray} {v : Int} (h : numVal u = some v) : In64 v := by
  unfold numVal at h
  split at h
  · unfold Lib.parseIntB at h
    cases hl : u.data.toList with
    | nil => simp [hl] at h
    | cons c r =>
      simp only [hl] at h
      cases hp : Lib.parseUintB 64 (if c.toNat = 43 ∨ c.toNat = 45 then r else c :: r) with
      | «syntax» => simp [hp] at h
      | range => simp [hp] at h
      | ok u =>
        simp only [hp] at h
        by_cases h1 : ¬ c.toNat = 45 ∧ 2 ^ (64 - 1) ≤ u
        · simp [h1] at h
        · by_cases h2 : c.toNat = 45 ∧ 2 ^ (64 - 1) < u
          · simp [h2] at h
          · rw [if_neg h1, if_neg h2] at h
            simp only [Option.some.injEq] at h
            subst h
            unfold In64
            by_cases hc : c.toNat = 45
            · rw [if_pos hc]; omega
            · rw [if_neg hc]; omega
  · simp at h

theorem gVal_in {ws : List ByteArray} {p : Vl × List ByteArray} (h : gVal ws = some p) : In64 p.1.v := by
  cases ws with
  | nil => simp [gVal] at h
  | cons u ws =>
    simp only [gVal] at h
    split at h
    · rename_i r hr
      simp at h
      subst h
      have := regVal_lt hr
      show In64 (r : Int)
      unfold In64
      omega
    · simp at h
      obtain ⟨v, hv, rfl⟩ := h
      exact numVal_in hv

theorem gCell_in {ws : List ByteArray} {p : (Vl × Int) × List ByteArray} (h : gCell ws = some p) : In64 p.1.1.v := by
  unfold gCell at h
  cases h1 : gVal ws with
  | none => simp [h1] at h
  | some q =>
    cases h2 : gNum q.2 with
    | none => simp [h1, h2] at h
    | some q2 =>
      simp [h1, h2] at h
      subst h
      exact gVal_in h1

theorem gIns_in {u : ByteArray} {ws ws1 : List ByteArray} {ic : Ic} (h : gIns u ws = some (ic, ws1)) : InI ic := by
  unfold gIns at h
  split at h
  · unfold gop at h
    cases h1 : gReg ws with
    | none => simp [h1] at h
    | some p1 =>
      cases h2 : gVal p1.2 with
      | none => simp [h1, h2] at h
      | some p2 =>
        cases h3 : gVal p2.2 with
        | none => simp [h1, h2, h3] at h
        | some p3 =>
          simp [h1, h2, h3] at h
          obtain ⟨rfl, _⟩ := h
          refine ⟨?_, ?_, ?_⟩ <;> first | exact in0 | exact gVal_in h1 | exact gVal_in h2 | exact gVal_in h3 | exact gVal_in h4 | exact gCell_in h1 | exact gCell_in h2
  · split at h
    · unfold gmov at h
      cases h1 : gReg ws with
      | none => simp [h1] at h
      | some p1 =>
        cases h2 : gVal p1.2 with
        | none => simp [h1, h2] at h
        | some p2 =>
          simp [h1, h2] at h
          obtain ⟨rfl, _⟩ := h
          refine ⟨?_, ?_, ?_⟩ <;> first | exact in0 | exact gVal_in h1 | exact gVal_in h2 | exact gVal_in h3 | exact gVal_in h4 | exact gCell_in h1 | exact gCell_in h2
    split at h
    · unfold gload at h
      cases h1 : gReg ws with
      | none => simp [h1] at h
      | some p1 =>
        cases h2 : gCell p1.2 with
        | none => simp [h1, h2] at h
        | some p2 =>
          simp [h1, h2] at h
          obtain ⟨rfl, _⟩ := h
          refine ⟨?_, ?_, ?_⟩ <;> first | exact in0 | exact gVal_in h1 | exact gVal_in h2 | exact gVal_in h3 | exact gVal_in h4 | exact gCell_in h1 | exact gCell_in h2
    split at h
    · unfold gstore at h
      cases h1 : gCell ws with
      | none => simp [h1] at h
      | some p1 =>
        cases h2 : gVal p1.2 with
        | none => simp [h1, h2] at h
        | some p2 =>
          simp [h1, h2] at h
          obtain ⟨rfl, _⟩ := h
          refine ⟨?_, ?_, ?_⟩ <;> first | exact in0 | exact gVal_in h1 | exact gVal_in h2 | exact gVal_in h3 | exact gVal_in h4 | exact gCell_in h1 | exact gCell_in h2
    split at h
    · unfold gcas at h
      cases h1 : gReg ws with
      | none => simp [h1] at h
      | some p1 =>
        cases h2 : gCell p1.2 with
        | none => simp [h1, h2] at h
        | some p2 =>
          cases h3 : gVal p2.2 with
          | none => simp [h1, h2, h3] at h
          | some p3 =>
            cases h4 : gVal p3.2 with
            | none => simp [h1, h2, h3, h4] at h
            | some p4 =>
              simp [h1, h2, h3, h4] at h
              obtain ⟨rfl, _⟩ := h
              refine ⟨?_, ?_, ?_⟩ <;> first | exact in0 | exact gVal_in h1 | exact gVal_in h2 | exact gVal_in h3 | exact gVal_in h4 | exact gCell_in h1 | exact gCell_in h2
    split at h
    · unfold gxadd at h
      cases h1 : gReg ws with
      | none => simp [h1] at h
      | some p1 =>
        cases h2 : gCell p1.2 with
        | none => simp [h1, h2] at h
        | some p2 =>
          cases h3 : gVal p2.2 with
          | none => simp [h1, h2, h3] at h
          | some p3 =>
            simp [h1, h2, h3] at h
            obtain ⟨rfl, _⟩ := h
            refine ⟨?_, ?_, ?_⟩ <;> first | exact in0 | exact gVal_in h1 | exact gVal_in h2 | exact gVal_in h3 | exact gVal_in h4 | exact gCell_in h1 | exact gCell_in h2
    split at h
    · simp [gfence] at h
      obtain ⟨rfl, _⟩ := h
      refine ⟨?_, ?_, ?_⟩ <;> first | exact in0 | exact gVal_in h1 | exact gVal_in h2 | exact gVal_in h3 | exact gVal_in h4 | exact gCell_in h1 | exact gCell_in h2
    split at h
    · unfold gout at h
      cases h1 : gVal ws with
      | none => simp [h1] at h
      | some p1 =>
        simp [h1] at h
        obtain ⟨rfl, _⟩ := h
        refine ⟨?_, ?_, ?_⟩ <;> first | exact in0 | exact gVal_in h1 | exact gVal_in h2 | exact gVal_in h3 | exact gVal_in h4 | exact gCell_in h1 | exact gCell_in h2
    split at h
    · unfold gjmp at h
      cases h1 : gIn 0 4000 ws with
      | none => simp [h1] at h
      | some p1 =>
        simp [h1] at h
        obtain ⟨rfl, _⟩ := h
        refine ⟨?_, ?_, ?_⟩ <;> first | exact in0 | exact gVal_in h1 | exact gVal_in h2 | exact gVal_in h3 | exact gVal_in h4 | exact gCell_in h1 | exact gCell_in h2
    split at h
    · unfold gjz at h
      cases h1 : gVal ws with
      | none => simp [h1] at h
      | some p1 =>
        cases h2 : gIn 0 4000 p1.2 with
        | none => simp [h1, h2] at h
        | some p2 =>
          simp [h1, h2] at h
          obtain ⟨rfl, _⟩ := h
          refine ⟨?_, ?_, ?_⟩ <;> first | exact in0 | exact gVal_in h1 | exact gVal_in h2 | exact gVal_in h3 | exact gVal_in h4 | exact gCell_in h1 | exact gCell_in h2
    split at h
    · unfold gtrap at h
      cases h1 : gIn 1 9 ws with
      | none => simp [h1] at h
      | some p1 =>
        simp [h1] at h
        obtain ⟨rfl, _⟩ := h
        refine ⟨?_, ?_, ?_⟩ <;> first | exact in0 | exact gVal_in h1 | exact gVal_in h2 | exact gVal_in h3 | exact gVal_in h4 | exact gCell_in h1 | exact gCell_in h2
    split at h
    · simp [ghalt] at h
      obtain ⟨rfl, _⟩ := h
      refine ⟨?_, ?_, ?_⟩ <;> first | exact in0 | exact gVal_in h1 | exact gVal_in h2 | exact gVal_in h3 | exact gVal_in h4 | exact gCell_in h1 | exact gCell_in h2
    · simp at h

def AccI (acc : List (List Ic)) : Prop := ∀ c ∈ acc, ∀ i ∈ c, InI i

theorem gLine_in {ws : List ByteArray} {acc acc' : List (List Ic)} (h : gLine ws acc = .ok acc') (ha : AccI acc) : AccI acc' := by
  unfold gLine at h
  split at h
  · simp at h
  · split at h
    · split at h
      · split at h
        · simp at h
        · simp at h
          subst h
          intro c hc
          simp at hc
          rcases hc with hc | rfl
          · exact ha c hc
          · intro i hi; simp at hi
      · simp at h
    · split at h
      · simp at h
      · simp at h
      · rename_i ic hi
        split at h
        · simp at h
        · rename_i c hc
          split at h
          · simp at h
          · simp at h
            subst h
            have hm : c ∈ acc := List.mem_of_getLast? hc
            intro d hd
            simp at hd
            rcases hd with hd | rfl
            · exact ha d ((List.dropLast_sublist acc).subset hd)
            · intro i hi'
              simp at hi'
              rcases hi' with hi' | rfl
              · exact ha c hm i hi'
              · exact gIns_in hi

theorem gText_in : ∀ (f : Nat) (r : List UInt8) (j : Nat) (acc cs : List (List Ic)), gText f r j acc = .ok cs → AccI acc → AccI cs
  | 0, r, j, acc, cs, h, ha => by simp [gText] at h; exact h ▸ ha
  | f + 1, r, j, acc, cs, h, ha => by
    unfold gText at h
    split at h
    · simp at h; exact h ▸ ha
    · split at h
      · simp at h
      · split at h
        · rename_i acc' hg
          exact gText_in f _ _ acc' cs h (gLine_in hg ha)
        · simp at h

theorem gCode_in {s : ByteArray} {cs : List (List Ic)} (h : gCode s = .ok cs) : AccI cs := by
  unfold gCode at h
  split at h
  · simp at h
  · exact gText_in _ _ _ _ _ h (fun c hc => by simp at hc)


theorem bits_in (op : BinOp) (a b : Int) : In64 (bits op .i64 a b) := by
  unfold bits
  rw [IntKind.wrap_i64]
  unfold In64
  omega

theorem tmod_in {a : Int} (b : Int) (h : In64 a) : In64 (a.tmod b) := by
  unfold In64 at *
  have h1 : (a.tmod b).natAbs ≤ a.natAbs := by rw [Int.natAbs_tmod]; exact Nat.mod_le _ _
  by_cases h0 : 0 ≤ a
  · have := Int.tmod_nonneg b h0; omega
  · have h2 : 0 ≤ (-a).tmod b := Int.tmod_nonneg b (by omega)
    rw [Int.neg_tmod] at h2
    omega

theorem shr_in {a : Int} (h : In64 a) (k : Nat) : In64 (a / 2 ^ k) := by
  have hd : (0 : Int) < 2 ^ k := Int.pow_pos (by decide)
  generalize (2 : Int) ^ k = d at *
  unfold In64 at *
  exact ⟨(Int.le_ediv_iff_mul_le hd).2 (by omega), Int.ediv_lt_of_lt_mul hd (by omega)⟩

theorem iteO {c : Prop} [Decidable c] {a b : Option Int} (ha : ∀ v, a = some v → In64 v) (hb : ∀ v, b = some v → In64 v) : ∀ v, (if c then a else b) = some v → In64 v := by
  intro v h
  by_cases hc : c
  · rw [if_pos hc] at h; exact ha v h
  · rw [if_neg hc] at h; exact hb v h
theorem someO {x : Int} (h : In64 x) : ∀ v, some x = some v → In64 v := fun v e => by injection e with e; exact e ▸ h
theorem noneO : ∀ v, (none : Option Int) = some v → In64 v := fun v e => by simp at e
theorem bit_in (c : Prop) [Decidable c] : In64 (if c then 1 else 0) := by split; exact in1; exact in0

theorem opV_in {op : Nat} {a b v : Int} (h : opV op a b = some v) (ha : In64 a) : In64 v := by
  unfold opV at h
  exact iteO (someO (wrap64_in _)) (iteO (someO (wrap64_in _)) (iteO (someO (wrap64_in _)) (iteO (iteO noneO (someO (wrap64_in _))) (iteO (iteO noneO (someO (tmod_in _ ha))) (iteO (someO (bits_in _ _ _)) (iteO (someO (bits_in _ _ _)) (iteO (someO (bits_in _ _ _)) (iteO (someO (wrap64_in _)) (iteO (someO (shr_in ha _)) (iteO (someO (bit_in _)) (someO (bit_in _)))))))))))) v h

/-- A thread whose values are of 64 bits, and whose stores that wait speak of cells; at most four. -/
structure Vin (T : Th) : Prop where
  r : ∀ j, In64 (T.r j)
  q : ∀ p ∈ T.q, (0 ≤ p.1 ∧ p.1 < 256) ∧ In64 p.2
  ql : T.q.length ≤ 4

theorem Vl.in {x : Vl} {T : Th} (h : Vin T) (hx : In64 x.v) : In64 (x.of T) := by
  unfold Vl.of
  split
  · exact h.r _
  · exact hx

theorem put_in {m : Nat → Int} (h : ∀ j, In64 (m j)) (a : Nat) {v : Int} (hv : In64 v) : ∀ j, In64 (putM m a v j) := by
  intro j
  unfold putM
  split
  · exact hv
  · exact h j

theorem drain_in : ∀ (q : List (Int × Int)) (m : Nat → Int), (∀ p ∈ q, In64 p.2) → (∀ j, In64 (m j)) → ∀ j, In64 (drainM m q j)
  | [], _, _, h => h
  | p :: q, _, hq, h => drain_in q _ (fun p' hp => hq p' (List.mem_cons_of_mem _ hp)) (put_in h _ (hq p (List.mem_cons_self ..)))

theorem seen_in {l : List (Int × Int)} {a v : Int} (hl : ∀ p ∈ l, In64 p.2) (hv : In64 v) : In64 (seenIn l a v) := by
  unfold seenIn
  cases h : l.find? (fun p => p.1 == a) with
  | none => exact hv
  | some p => exact hl p (List.mem_of_find?_eq_some h)

theorem Vin.setR {T : Th} (h : Vin T) (d : Nat) {v : Int} (hv : In64 v) : Vin (T.setR d v) := ⟨fun j => by
  show In64 (if j = d then v else T.r j)
  split
  · exact hv
  · exact h.r j, h.q, h.ql⟩

theorem Vin.nilq {T : Th} (h : Vin T) : Vin { T with q := [] } := ⟨h.r, fun p hp => by simp at hp, Nat.zero_le _⟩

def VinR (R : Th × (Nat → Int)) : Prop := Vin R.1 ∧ ∀ j, In64 (R.2 j)

theorem iteV {c : Prop} [Decidable c] {a b : Th × (Nat → Int)} (ha : c → VinR a) (hb : ¬ c → VinR b) : VinR (if c then a else b) := by
  by_cases h : c
  · rw [if_pos h]; exact ha h
  · rw [if_neg h]; exact hb h

theorem storeQ_in {q : List (Int × Int)} {m : Nat → Int} {a v : Int} (hq : ∀ p ∈ q, (0 ≤ p.1 ∧ p.1 < 256) ∧ In64 p.2) (hl : q.length ≤ 4) (hm : ∀ j, In64 (m j)) (ha : 0 ≤ a ∧ a < 256) (hv : In64 v) :
    (∀ p ∈ (storeQ q m a v).1, (0 ≤ p.1 ∧ p.1 < 256) ∧ In64 p.2) ∧ (storeQ q m a v).1.length ≤ 4 ∧ ∀ j, In64 ((storeQ q m a v).2 j) := by
  by_cases h4 : q.length < 4
  · rw [storeQ_room h4]
    refine ⟨fun p hp => ?_, by simp; omega, hm⟩
    simp at hp
    rcases hp with hp | rfl
    · exact hq p hp
    · exact ⟨ha, hv⟩
  · cases q with
    | nil => simp at h4
    | cons p0 q =>
      have hl3 : q.length = 3 := by simp at h4 hl; omega
      rw [storeQ_full hl3]
      refine ⟨fun p hp => ?_, by simp; omega, put_in hm _ (hq p0 (List.mem_cons_self ..)).2⟩
      simp at hp
      rcases hp with hp | rfl
      · exact hq p (List.mem_cons_of_mem _ hp)
      · exact ⟨ha, hv⟩

theorem doI_in (i : Ic) (T : Th) (m : Nat → Int) (h : Vin T) (hi : InI i) (hm : ∀ j, In64 (m j)) : VinR (doI i T m) := by
  obtain ⟨ha, hb, hc⟩ := hi
  have hq2 : ∀ p ∈ T.q, In64 p.2 := fun p hp => (h.q p hp).2
  have hdr := drain_in T.q m hq2 hm
  have hav := Vl.in h ha
  have hbv := Vl.in h hb
  have hcv := Vl.in h hc
  have hst : ∀ s, Vin { T with st := s } := fun s => ⟨h.r, h.q, h.ql⟩
  have hst0 : ∀ s, Vin { T with q := [], st := s } := fun s => ⟨h.r, fun p hp => by simp at hp, Nat.zero_le _⟩
  unfold doI
  refine iteV (fun _ => iteV (fun _ => ⟨h.setR _ (seen_in (fun p hp => hq2 p (by simpa using hp)) (hm _)), hm⟩) (fun _ => ⟨hst _, hm⟩)) (fun _ => ?_)
  refine iteV (fun _ => iteV (fun hin => ?_) (fun _ => ⟨hst _, hm⟩)) (fun _ => ?_)
  · obtain ⟨s1, s2, s3⟩ := storeQ_in h.q h.ql hm hin hbv
    exact ⟨⟨h.r, s1, s2⟩, s3⟩
  refine iteV (fun _ => iteV (fun _ => iteV (fun _ => ⟨h.nilq.setR _ in1, put_in hdr _ hcv⟩) (fun _ => ⟨h.nilq.setR _ in0, hdr⟩)) (fun _ => ⟨hst0 _, hdr⟩)) (fun _ => ?_)
  refine iteV (fun _ => iteV (fun _ => ⟨h.nilq.setR _ (hdr _), put_in hdr _ (wrap64_in _)⟩) (fun _ => ⟨hst0 _, hdr⟩)) (fun _ => ?_)
  refine iteV (fun _ => ⟨h.nilq, hdr⟩) (fun _ => ?_)
  refine iteV (fun _ => ⟨⟨h.r, h.q, h.ql⟩, hm⟩) (fun _ => ?_)
  refine iteV (fun _ => ⟨⟨h.r, h.q, h.ql⟩, hm⟩) (fun _ => ?_)
  refine iteV (fun _ => ⟨h.setR _ hav, hm⟩) (fun _ => ?_)
  refine iteV (fun _ => ?_) (fun _ => ?_)
  · cases ho : opV i.op (i.a.of T) (i.b.of T) with
    | some v => exact ⟨h.setR _ (opV_in ho hav), hm⟩
    | none => exact ⟨hst _, hm⟩
  exact iteV (fun _ => iteV (fun _ => ⟨⟨h.r, h.q, h.ql⟩, hm⟩) (fun _ => ⟨h, hm⟩)) (fun _ => ⟨hst _, hm⟩)

theorem stepT_in (T : Th) (m : Nat → Int) (c : List Ic) (h : Vin T) (hc : ∀ i ∈ c, InI i) (hm : ∀ j, In64 (m j)) : VinR (stepT T m c) := by
  unfold stepT
  split
  · split
    · rename_i i hi
      exact doI_in i { T with pl := T.pl + 1 } m ⟨h.r, h.q, h.ql⟩ (hc i (List.mem_of_getElem? hi)) hm
    · exact ⟨⟨h.r, h.q, h.ql⟩, hm⟩
  · exact ⟨h, hm⟩

theorem flushT_in (T : Th) (m : Nat → Int) (h : Vin T) (hm : ∀ j, In64 (m j)) : VinR (flushT T m) := by
  unfold flushT
  split
  · exact ⟨h, hm⟩
  · rename_i p q hq
    refine ⟨⟨h.r, fun p' hp => h.q p' (by rw [hq]; exact List.mem_cons_of_mem _ hp), ?_⟩, put_in hm _ (h.q p (by rw [hq]; exact List.mem_cons_self ..)).2⟩
    have := h.ql
    rw [hq] at this
    simp at this
    show q.length ≤ 4
    omega

/-- A machine's bounds. -/
def VinA (A : List (Th × List Ic)) (m : Nat → Int) : Prop := (∀ p ∈ A, Vin p.1 ∧ ∀ i ∈ p.2, InI i) ∧ ∀ j, In64 (m j)

theorem VinA.step {A : List (Th × List Ic)} {m : Nat → Int} (h : VinA A m) (i : Nat) : VinA (stepA A m i).1 (stepA A m i).2 := by
  unfold stepA
  split
  · exact h
  · rename_i q hq
    have hqm : q ∈ A := List.mem_of_getElem? hq
    have hs := stepT_in q.1 m q.2 (h.1 q hqm).1 (h.1 q hqm).2 h.2
    refine ⟨fun p hp => ?_, hs.2⟩
    rcases List.mem_or_eq_of_mem_set hp with hp | rfl
    · exact h.1 p hp
    · exact ⟨hs.1, (h.1 q hqm).2⟩

theorem VinA.flush {A : List (Th × List Ic)} {m : Nat → Int} (h : VinA A m) (i : Nat) : VinA (flushA A m i).1 (flushA A m i).2 := by
  unfold flushA
  split
  · exact h
  · rename_i q hq
    have hqm : q ∈ A := List.mem_of_getElem? hq
    have hs := flushT_in q.1 m (h.1 q hqm).1 h.2
    refine ⟨fun p hp => ?_, hs.2⟩
    rcases List.mem_or_eq_of_mem_set hp with hp | rfl
    · exact h.1 p hp
    · exact ⟨hs.1, (h.1 q hqm).2⟩

theorem VinA.steps {A : List (Th × List Ic)} {m : Nat → Int} (h : VinA A m) (i : Nat) : ∀ k, VinA (stepsA A m i k).1 (stepsA A m i k).2
  | 0 => h
  | k + 1 => (VinA.steps h i k).step i

theorem vin_init {cs : List (List Ic)} (h : AccI cs) : VinA (cs.map fun c => (Th.init, c)) (fun _ => 0) := by
  refine ⟨fun p hp => ?_, fun _ => in0⟩
  simp at hp
  obtain ⟨c, hc, rfl⟩ := hp
  exact ⟨⟨fun _ => in0, fun p hp => by simp [Th.init] at hp, by simp [Th.init]⟩, h c hc⟩
end Go.Proofs.YtfhkfnoajbbfdaaGreatDoor

/- The document's Step, whatever stands at the thread's place. -/
namespace Go.Proofs.YtfhkfnoajbbfdaaGreatDoor
open Go.RowKit

/-- What Step asks of a thread. -/
structure CFine (t : CT) : Prop where
  pl : 0 ≤ t.T.pl
  len : t.code.length ≤ 4000
  ok : ∀ i ∈ t.code, okI i
  ini : ∀ i ∈ t.code, InI i
  out : t.T.out.length < 1099511627776
  vin : Vin t.T

section
variable {D : Nat → Prop} {lab : Nat → Nat × Nat} {w : World} {bm mb : Nat} {tv : Value} {m : Nat → Int} {ts : List CT}

/-- The machine in which thread k is T, and the memory m', whatever its rows are. -/
def CNow (D : Nat → Prop) (bm mb : Nat) (tv : Value) (ts : List CT) (k : Nat) (hk : k < ts.length) (R : Th × (Nat → Int)) (w' : World) : Prop :=
  ∃ lab' wv' ov', CMach D lab' w' bm mb tv R.2 (ts.set k { ts[k] with wv := wv', ov := ov', T := R.1 })

theorem zV_ok : zV.ok := fun h => by simp at h

theorem cdo_mem (h : CMach D lab w bm mb tv m ts) (hD : ∀ k, w.heap.size ≤ k → D k) (k : Nat) (hk : k < ts.length) (hs : ts[k].T.st = 0) (p : Nat) (hpl : ts[k].T.pl = p) (hp : p < ts[k].code.length) (hcl : ts[k].code.length ≤ 4000) (ic : Ic) (hic : ts[k].code[p]'hp = ic) (hkk : ic.k = 2 ∨ ic.k = 3 ∨ ic.k = 4 ∨ ic.k = 5) (hok : okI ic) (hv : Vin ts[k].T) :
    Calls Tryz.prog 49 #[ptr bm, .int .i64 k] w fun e w' => e = .returned (.tuple #[]) ∧ CNow D bm mb tv ts k hk (doI ic { ts[k].T with pl := (p : Int) + 1 } m) w' ∧ Chg (fun j _ => D j) w w' := by
  obtain ⟨kk, op, d, xa, xb, xc, n⟩ := ic
  obtain ⟨hd, ha, hb, hc, _⟩ := hok
  simp only at hkk hd ha hb hc
  have hks : k < (ts.set k { ts[k] with T := { ts[k].T with pl := (p : Int) + 1 } }).length := by simpa using hk
  have hql : ({ ts[k].T with pl := (p : Int) + 1 } : Th).q.length < 1000 := by have := hv.ql; show ts[k].T.q.length < 1000; omega
  have hadr : ∀ p' ∈ ({ ts[k].T with pl := (p : Int) + 1 } : Th).q, 0 ≤ p'.1 ∧ p'.1 < 256 := fun p' hp' => (hv.q p' hp').1
  have hat : atOf xa n { ts[k].T with pl := (p : Int) + 1 } = wrap64 (xa.of ts[k].T + n) := rfl
  generalize hAT : wrap64 (xa.of ts[k].T + n) = at' at hat
  have hq4 := hv.ql
  rcases hkk with rfl | rfl | rfl | rfl
  · have hi : dOf (ts[k].code[p]'hp) = ⟨⟨#[108, 111, 97, 100]⟩, d, xa, zV, zV, n⟩ := by rw [hic]; rfl
    refine cStep_mem h k hk hs p hpl hp hcl xa zV zV ⟨#[108, 111, 97, 100]⟩ (.inl rfl) d n hi ha zV_ok _ (hid fun W hW hM => ?_)
    rw [hAT]
    simp only [doI, hat, if_true]
    by_cases hin : 0 ≤ at' ∧ at' < 256
    · rw [if_pos hin]
      obtain ⟨a, rfl⟩ := Int.eq_ofNat_of_zero_le hin.1
      have key := cMem_load hM k hks d hd xa zV zV n a (by omega) (zV.of ts[k].T) (by rw [set_get hk]; exact hql)
      rw [set_get hk] at key
      simp only [List.set_set] at key
      refine key.mono ?_
      rintro e w' ⟨rfl, ⟨lab', h1⟩, h2⟩
      exact ⟨rfl, ⟨lab', _, _, h1⟩, h2⟩
    · rw [if_neg hin]
      have key := cMem_bad hM k hks ⟨#[108, 111, 97, 100]⟩ (.inl rfl) d xa zV zV n at' (by omega) (zV.of ts[k].T)
      rw [set_get hk] at key
      simp only [List.set_set] at key
      refine key.mono ?_
      rintro e w' ⟨rfl, h1, h2⟩
      exact ⟨rfl, ⟨_, _, _, h1⟩, h2⟩
  · have hi : dOf (ts[k].code[p]'hp) = ⟨⟨#[115, 116, 111, 114, 101]⟩, 0, xa, xb, zV, n⟩ := by rw [hic]; rfl
    refine cStep_mem h k hk hs p hpl hp hcl xa xb zV ⟨#[115, 116, 111, 114, 101]⟩ (.inr (.inl rfl)) 0 n hi ha hb _ (hid fun W hW hM => ?_)
    rw [hAT]
    have hbv : xb.of { ts[k].T with pl := (p : Int) + 1 } = xb.of ts[k].T := rfl
    simp only [doI, hat, hbv, if_true, Nat.reduceEqDiff, if_false]
    by_cases hin : 0 ≤ at' ∧ at' < 256
    · rw [if_pos hin]
      obtain ⟨a, rfl⟩ := Int.eq_ofNat_of_zero_le hin.1
      by_cases h4 : ts[k].T.q.length < 4
      · rw [storeQ_room h4]
        have key := cMem_store hM (fun j hj => hD j (by omega)) k hks 0 xa xb zV n a (by omega) (xb.of ts[k].T) (by rw [set_get hk]; exact h4)
        rw [set_get hk] at key
        simp only [List.set_set] at key
        refine key.mono ?_
        rintro e w' ⟨rfl, ⟨lab', wv', h1⟩, h2⟩
        exact ⟨rfl, ⟨lab', wv', _, h1⟩, h2⟩
      · obtain ⟨p0, q0, hq⟩ : ∃ p0 q0, ts[k].T.q = p0 :: q0 := by
          cases hq : ts[k].T.q with
          | nil => simp [hq] at h4
          | cons p0 q0 => exact ⟨p0, q0, rfl⟩
        have hq3 : q0.length = 3 := by rw [hq] at h4 hq4; simp at h4 hq4; omega
        rw [hq, storeQ_full hq3]
        have key := cMem_storeF hM (fun j hj => hD j (by omega)) k hks 0 xa xb zV n a (by omega) (xb.of ts[k].T) p0 q0 (by rw [set_get hk]; exact hq) hq3 (by rw [set_get hk]; exact hadr)
        rw [set_get hk] at key
        simp only [List.set_set] at key
        refine key.mono ?_
        rintro e w' ⟨rfl, ⟨lab', wv', h1⟩, h2⟩
        exact ⟨rfl, ⟨lab', wv', _, h1⟩, h2⟩
    · rw [if_neg hin]
      have key := cMem_bad hM k hks ⟨#[115, 116, 111, 114, 101]⟩ (.inr rfl) 0 xa xb zV n at' (by omega) (xb.of ts[k].T)
      rw [set_get hk] at key
      simp only [List.set_set] at key
      refine key.mono ?_
      rintro e w' ⟨rfl, h1, h2⟩
      exact ⟨rfl, ⟨_, _, _, h1⟩, h2⟩
  · have hi : dOf (ts[k].code[p]'hp) = ⟨⟨#[99, 97, 115]⟩, d, xa, xb, xc, n⟩ := by rw [hic]; rfl
    refine cStep_mem h k hk hs p hpl hp hcl xa xb xc ⟨#[99, 97, 115]⟩ (.inr (.inr (.inl rfl))) d n hi ha hb _ (hid fun W hW hM => ?_)
    rw [hAT]
    have hbv : xb.of { ts[k].T with pl := (p : Int) + 1 } = xb.of ts[k].T := rfl
    have hcv : xc.of { ts[k].T with pl := (p : Int) + 1 } = xc.of ts[k].T := rfl
    simp only [doI, hat, hbv, hcv, if_true, Nat.reduceEqDiff, if_false]
    by_cases hin : 0 ≤ at' ∧ at' < 256
    · rw [if_pos hin]
      obtain ⟨a, rfl⟩ := Int.eq_ofNat_of_zero_le hin.1
      rw [Int.toNat_natCast]
      by_cases he : drainM m ts[k].T.q a = xb.of ts[k].T
      · rw [if_pos he]
        have key := cMem_cas1 hM (fun j hj => hD j (by omega)) k hks d hd xa xb xc n a (by omega) (xb.of ts[k].T) (by rw [set_get hk]; exact hql) (by rw [set_get hk]; exact hadr) hc (by rw [set_get hk]; exact he)
        rw [set_get hk] at key
        simp only [List.set_set] at key
        refine key.mono ?_
        rintro e w' ⟨rfl, ⟨lab', wv', h1⟩, h2⟩
        exact ⟨rfl, ⟨lab', wv', _, h1⟩, h2⟩
      · rw [if_neg he]
        have key := cMem_cas0 hM (fun j hj => hD j (by omega)) k hks d hd xa xb xc n a (by omega) (xb.of ts[k].T) (by rw [set_get hk]; exact hql) (by rw [set_get hk]; exact hadr) hc (by rw [set_get hk]; exact he)
        rw [set_get hk] at key
        simp only [List.set_set] at key
        refine key.mono ?_
        rintro e w' ⟨rfl, ⟨lab', wv', h1⟩, h2⟩
        exact ⟨rfl, ⟨lab', wv', _, h1⟩, h2⟩
    · rw [if_neg hin]
      have key := cMem_badL hM (fun j hj => hD j (by omega)) k hks ⟨#[99, 97, 115]⟩ (.inl rfl) d xa xb xc n at' (by omega) (xb.of ts[k].T) (by rw [set_get hk]; exact hql) (by rw [set_get hk]; exact hadr)
      rw [set_get hk] at key
      simp only [List.set_set] at key
      refine key.mono ?_
      rintro e w' ⟨rfl, ⟨lab', wv', h1⟩, h2⟩
      exact ⟨rfl, ⟨lab', wv', _, h1⟩, h2⟩
  · have hi : dOf (ts[k].code[p]'hp) = ⟨⟨#[120, 97, 100, 100]⟩, d, xa, xb, zV, n⟩ := by rw [hic]; rfl
    refine cStep_mem h k hk hs p hpl hp hcl xa xb zV ⟨#[120, 97, 100, 100]⟩ (.inr (.inr (.inr rfl))) d n hi ha hb _ (hid fun W hW hM => ?_)
    rw [hAT]
    have hbv : xb.of { ts[k].T with pl := (p : Int) + 1 } = xb.of ts[k].T := rfl
    simp only [doI, hat, hbv, if_true, Nat.reduceEqDiff, if_false]
    by_cases hin : 0 ≤ at' ∧ at' < 256
    · rw [if_pos hin]
      obtain ⟨a, rfl⟩ := Int.eq_ofNat_of_zero_le hin.1
      rw [Int.toNat_natCast]
      have key := cMem_xadd hM (fun j hj => hD j (by omega)) k hks d hd xa xb zV n a (by omega) (xb.of ts[k].T) (by rw [set_get hk]; exact hql) (by rw [set_get hk]; exact hadr)
      rw [set_get hk] at key
      simp only [List.set_set] at key
      refine key.mono ?_
      rintro e w' ⟨rfl, ⟨lab', wv', h1⟩, h2⟩
      exact ⟨rfl, ⟨lab', wv', _, h1⟩, h2⟩
    · rw [if_neg hin]
      have key := cMem_badL hM (fun j hj => hD j (by omega)) k hks ⟨#[120, 97, 100, 100]⟩ (.inr rfl) d xa xb zV n at' (by omega) (xb.of ts[k].T) (by rw [set_get hk]; exact hql) (by rw [set_get hk]; exact hadr)
      rw [set_get hk] at key
      simp only [List.set_set] at key
      refine key.mono ?_
      rintro e w' ⟨rfl, ⟨lab', wv', h1⟩, h2⟩
      exact ⟨rfl, ⟨lab', wv', _, h1⟩, h2⟩

theorem cdo_any (h : CMach D lab w bm mb tv m ts) (hD : ∀ k, w.heap.size ≤ k → D k) (k : Nat) (hk : k < ts.length) (hs : ts[k].T.st = 0) (p : Nat) (hpl : ts[k].T.pl = p) (hp : p < ts[k].code.length) (hcl : ts[k].code.length ≤ 4000) (ic : Ic) (hic : ts[k].code[p]'hp = ic) (hok : okI ic) (hin : InI ic) (hout : ts[k].T.out.length < 1099511627776) (hv : Vin ts[k].T) :
    Calls Tryz.prog 49 #[ptr bm, .int .i64 k] w fun e w' => e = .returned (.tuple #[]) ∧ CNow D bm mb tv ts k hk (doI ic { ts[k].T with pl := (p : Int) + 1 } m) w' ∧ Chg (fun j _ => D j) w w' := by
  have hok' := hok
  have hic' := hic
  obtain ⟨kk, op, d, xa, xb, xc, n⟩ := ic
  obtain ⟨hd, ha, hb, hc, hkk⟩ := hok
  simp only at hkk hd ha hb hc
  have hav : xa.of { ts[k].T with pl := (p : Int) + 1 } = xa.of ts[k].T := rfl
  have hbv : xb.of { ts[k].T with pl := (p : Int) + 1 } = xb.of ts[k].T := rfl
  rcases hkk with rfl | rfl | rfl | rfl | rfl | rfl | rfl | rfl | rfl | ⟨rfl, hop⟩ | rfl
  · exact cdo_mem h hD k hk hs p hpl hp hcl _ hic' (.inl rfl) hok' hv
  · exact cdo_mem h hD k hk hs p hpl hp hcl _ hic' (.inr (.inl rfl)) hok' hv
  · exact cdo_mem h hD k hk hs p hpl hp hcl _ hic' (.inr (.inr (.inl rfl))) hok' hv
  · exact cdo_mem h hD k hk hs p hpl hp hcl _ hic' (.inr (.inr (.inr rfl))) hok' hv
  · have hi : dOf (ts[k].code[p]'hp) = ⟨⟨#[102, 101, 110, 99, 101]⟩, 0, zV, zV, zV, 0⟩ := by rw [hic]; rfl
    simp only [doI, if_true, Nat.reduceEqDiff, if_false]
    refine (cStep_fence h hD k hk hs p hpl hp hcl zV zV zV 0 0 hi zV_ok zV_ok (by have := hv.ql; omega) (fun p' hp' => (hv.q p' hp').1)).mono ?_
    rintro e w' ⟨rfl, ⟨lab', wv', h1⟩, h2⟩
    exact ⟨rfl, ⟨lab', wv', _, h1⟩, h2⟩
  · have hi : dOf (ts[k].code[p]'hp) = ⟨⟨#[111, 117, 116]⟩, 0, xa, zV, zV, 0⟩ := by rw [hic]; rfl
    simp only [doI, hav, if_true, Nat.reduceEqDiff, if_false]
    refine (cStep_out h hD k hk hs p hpl hp hcl xa zV zV 0 0 hi ha zV_ok hout).mono ?_
    rintro e w' ⟨rfl, ⟨lab', ov', h1⟩, h2⟩
    exact ⟨rfl, ⟨lab', _, ov', h1⟩, h2⟩
  · have hi : dOf (ts[k].code[p]'hp) = ⟨⟨#[106, 109, 112]⟩, 0, zV, zV, zV, n⟩ := by rw [hic]; rfl
    simp only [doI, if_true, Nat.reduceEqDiff, if_false]
    refine (cStep_jmp h k hk hs p hpl hp hcl zV zV zV 0 n hi zV_ok zV_ok).mono ?_
    rintro e w' ⟨rfl, h1, h2⟩
    exact ⟨rfl, ⟨_, _, _, h1⟩, h2⟩
  · simp only [doI, Nat.reduceEqDiff, if_false]
    by_cases hn : n = 10
    · subst hn
      have hi : dOf (ts[k].code[p]'hp) = ⟨⟨#[104, 97, 108, 116]⟩, 0, zV, zV, zV, 0⟩ := by rw [hic]; rfl
      refine (cStep_halt h k hk hs p hpl hp hcl zV zV zV 0 0 hi zV_ok zV_ok).mono ?_
      rintro e w' ⟨rfl, h1, h2⟩
      exact ⟨rfl, ⟨_, _, _, h1⟩, h2⟩
    · have hi : dOf (ts[k].code[p]'hp) = ⟨⟨#[116, 114, 97, 112]⟩, 0, zV, zV, zV, n⟩ := by rw [hic]; exact if_neg hn
      refine (cStep_trap h k hk hs p hpl hp hcl zV zV zV 0 n hi zV_ok zV_ok).mono ?_
      rintro e w' ⟨rfl, h1, h2⟩
      exact ⟨rfl, ⟨_, _, _, h1⟩, h2⟩
  · have hi : dOf (ts[k].code[p]'hp) = ⟨⟨#[109, 111, 118]⟩, d, xa, zV, zV, 0⟩ := by rw [hic]; rfl
    simp only [doI, hav, if_true, Nat.reduceEqDiff, if_false]
    refine (cStep_mov h k hk hs p hpl hp hcl xa zV zV d hd 0 hi ha zV_ok).mono ?_
    rintro e w' ⟨rfl, h1, h2⟩
    exact ⟨rfl, ⟨_, _, _, h1⟩, h2⟩
  · have hi : dOf (ts[k].code[p]'hp) = ⟨opWords op, d, xa, xb, zV, 0⟩ := by rw [hic]; rfl
    simp only [doI, hav, hbv, if_true, Nat.reduceEqDiff, if_false]
    cases ho : opV op (xa.of ts[k].T) (xb.of ts[k].T) with
    | some v =>
      refine (cStep_op1 h k hk hs p hpl hp hcl xa xb zV op hop d hd 0 v hi ha hb (Vl.in hv hin.1) ho).mono ?_
      rintro e w' ⟨rfl, h1, h2⟩
      exact ⟨rfl, ⟨_, _, _, h1⟩, h2⟩
    | none =>
      refine (cStep_op0 h k hk hs p hpl hp hcl xa xb zV op hop d 0 hi ha hb (Vl.in hv hin.1) ho).mono ?_
      rintro e w' ⟨rfl, h1, h2⟩
      exact ⟨rfl, ⟨_, _, _, h1⟩, h2⟩
  · have hi : dOf (ts[k].code[p]'hp) = ⟨⟨#[106, 122]⟩, 0, xa, zV, zV, n⟩ := by rw [hic]; rfl
    simp only [doI, hav, if_true, Nat.reduceEqDiff, if_false]
    by_cases hz : xa.of ts[k].T = 0
    · rw [if_pos hz]
      refine (cStep_jz0 h k hk hs p hpl hp hcl xa zV zV 0 n hi ha zV_ok hz).mono ?_
      rintro e w' ⟨rfl, h1, h2⟩
      exact ⟨rfl, ⟨_, _, _, h1⟩, h2⟩
    · rw [if_neg hz]
      refine (cStep_jz1 h k hk hs p hpl hp hcl xa zV zV 0 n hi ha zV_ok hz).mono ?_
      rintro e w' ⟨rfl, h1, h2⟩
      exact ⟨rfl, ⟨_, _, _, h1⟩, h2⟩

theorem cstep_any (h : CMach D lab w bm mb tv m ts) (hD : ∀ k, w.heap.size ≤ k → D k) (k : Nat) (hk : k < ts.length) (hf : CFine ts[k]) :
    Calls Tryz.prog 49 #[ptr bm, .int .i64 k] w fun e w' => e = .returned (.tuple #[]) ∧ CNow D bm mb tv ts k hk (stepT ts[k].T m ts[k].code) w' ∧ Chg (fun j _ => D j) w w' := by
  by_cases hs : ts[k].T.st = 0
  · obtain ⟨p, hp⟩ := Int.eq_ofNat_of_zero_le hf.pl
    by_cases hlt : p < ts[k].code.length
    · have hst : stepT ts[k].T m ts[k].code = doI (ts[k].code[p]'hlt) { ts[k].T with pl := (p : Int) + 1 } m := by
        simp only [stepT, hs, if_true, hp, Int.toNat_natCast, List.getElem?_eq_getElem hlt]
      rw [hst]
      exact cdo_any h hD k hk hs p hp hlt hf.len _ rfl (hf.ok _ (List.getElem_mem hlt)) (hf.ini _ (List.getElem_mem hlt)) hf.out hf.vin
    · have hst : stepT ts[k].T m ts[k].code = ({ ts[k].T with st := 10 }, m) := by
        simp only [stepT, hs, if_true, hp, Int.toNat_natCast, List.getElem?_eq_none (Nat.le_of_not_lt hlt)]
      rw [hst]
      refine (cStep_end h k hk hs (by omega)).mono ?_
      rintro e w' ⟨rfl, h1, h2⟩
      exact ⟨rfl, ⟨_, _, _, h1⟩, h2⟩
  · have hst : stepT ts[k].T m ts[k].code = (ts[k].T, m) := by simp only [stepT, hs, if_false]
    rw [hst]
    refine (cStep_over h k hk hs).mono ?_
    rintro e w' ⟨rfl, rfl⟩
    refine ⟨rfl, ⟨lab, ts[k].wv, ts[k].ov, ?_⟩, Chg.refl _ _⟩
    have e : ({ ts[k] with wv := ts[k].wv, ov := ts[k].ov, T := ts[k].T } : CT) = ts[k] := rfl
    simp only
    rw [e, List.set_getElem_self hk]
    exact h
end
end Go.Proofs.YtfhkfnoajbbfdaaGreatDoor

/- What is asked of threads and cells that are none. -/
namespace Go.Proofs.YtfhkfnoajbbfdaaGreatDoor
open Go.RowKit

section
variable {D : Nat → Prop} {w : World} {bm : Nat} {A : List (Th × List Ic)} {m : Nat → Int} {ts : List Tr}

set_option maxRecDepth 100000 in
set_option maxHeartbeats 1000000 in
theorem has_off (bm bt n cap : Nat) (t : Int) (hc : w.cell? ⟨bm, 256, none⟩ = some (.slice (some ⟨bt, 0, none⟩) n cap)) (ht : t < 0 ∨ (n : Int) ≤ t) :
    Calls Tryz.prog 78 #[ptr bm, .int .i64 t] w fun e w' => e = .returned (.bool false) ∧ w' = w := by
  by_cases h0 : t < 0
  · have h1 : ¬ (0 : Int) ≤ t := by omega
    clear ht
    go_enter Tryz.func78, Tryz.ntmps78
    go_wp2
    go_ret
    exact ⟨by simp, rfl⟩
  · have h1 : (0 : Int) ≤ t := by omega
    have h2 : ¬ t < (n : Int) := by omega
    clear ht
    go_enter Tryz.func78, Tryz.ntmps78
    go_wp2
    go_ret
    exact ⟨by simp, rfl⟩

set_option maxRecDepth 100000 in
set_option maxHeartbeats 1000000 in
theorem m_out_off (h : MAt D w bm m ts) (t : Int) (ht : t < 0 ∨ (ts.length : Int) ≤ t) :
    Calls Tryz.prog 54 #[ptr bm, .int .i64 t] w fun e w' => e = .returned (.slice none 0 0) ∧ w' = w := by
  obtain ⟨bt, cap, h1, h3⟩ := h.slot
  have HS := hid (has_off bm bt _ cap t h1 ht)
  clear h h3 ht
  go_enter Tryz.func54, Tryz.ntmps54
  go_wp2_with fail
  refine HS.out.mono ?_
  rintro e w' ⟨rfl, rfl⟩
  go_wp2
  go_ret
  exact ⟨rfl, rfl⟩

set_option maxRecDepth 100000 in
set_option maxHeartbeats 1000000 in
theorem m_state_off (h : MAt D w bm m ts) (t : Int) (ht : t < 0 ∨ (ts.length : Int) ≤ t) :
    Calls Tryz.prog 59 #[ptr bm, .int .i64 t] w fun e w' => e = .returned (.int .i64 10) ∧ w' = w := by
  obtain ⟨bt, cap, h1, h3⟩ := h.slot
  have HS := hid (has_off bm bt _ cap t h1 ht)
  clear h h3 ht
  go_enter Tryz.func59, Tryz.ntmps59
  go_wp2_with fail
  refine HS.out.mono ?_
  rintro e w' ⟨rfl, rfl⟩
  go_wp2
  go_ret
  exact ⟨rfl, rfl⟩

set_option maxRecDepth 100000 in
set_option maxHeartbeats 1000000 in
theorem m_waiting_off (h : MAt D w bm m ts) (t : Int) (ht : t < 0 ∨ (ts.length : Int) ≤ t) :
    Calls Tryz.prog 57 #[ptr bm, .int .i64 t] w fun e w' => e = .returned (.int .i64 0) ∧ w' = w := by
  obtain ⟨bt, cap, h1, h3⟩ := h.slot
  have HS := hid (has_off bm bt _ cap t h1 ht)
  clear h h3 ht
  go_enter Tryz.func57, Tryz.ntmps57
  go_wp2_with fail
  refine HS.out.mono ?_
  rintro e w' ⟨rfl, rfl⟩
  go_wp2
  go_ret
  exact ⟨rfl, rfl⟩

set_option maxRecDepth 100000 in
set_option maxHeartbeats 1000000 in
theorem m_peek_off (bm : Nat) (t : Int) (ht : t < 0 ∨ 256 ≤ t) :
    Calls Tryz.prog 56 #[ptr bm, .int .i64 t] w fun e w' => e = .returned (.int .i64 0) ∧ w' = w := by
  by_cases h0 : t < 0
  · clear ht
    go_enter Tryz.func56, Tryz.ntmps56
    go_wp2
    go_ret
    exact ⟨by simp, rfl⟩
  · have h2 : (256 : Int) ≤ t := by omega
    clear ht
    go_enter Tryz.func56, Tryz.ntmps56
    go_wp2
    go_ret
    exact ⟨by simp, rfl⟩

set_option maxRecDepth 100000 in
set_option maxHeartbeats 1000000 in
theorem p_stateZ (v t : Int) (hs : Hid (Calls Tryz.prog 59 #[ptr bm, .int .i64 t] w fun e w' => e = .returned (.int .i64 v) ∧ w' = w)) :
    Calls Tryz.prog 31 #[ptr bm, .int .i64 t] w fun e w' => e = .returned (.int .i64 v) ∧ w' = w := by
  go_enter Tryz.func31, Tryz.ntmps31
  go_wp2_with fail
  refine hs.out.mono ?_
  rintro e w' ⟨rfl, rfl⟩
  go_wp2
  go_ret
  exact ⟨rfl, rfl⟩

set_option maxRecDepth 100000 in
set_option maxHeartbeats 1000000 in
theorem p_outZ (t : Int) (hs : Hid (Calls Tryz.prog 54 #[ptr bm, .int .i64 t] w fun e w' => e = .returned (.slice none 0 0) ∧ w' = w)) :
    Calls Tryz.prog 26 #[ptr bm, .int .i64 t] w fun e w' => e = .returned (.slice none 0 0) ∧ w' = w := by
  go_enter Tryz.func26, Tryz.ntmps26
  go_wp2_with fail
  refine hs.out.mono ?_
  rintro e w' ⟨rfl, rfl⟩
  go_wp2
  go_ret
  exact ⟨rfl, rfl⟩

set_option maxRecDepth 100000 in
set_option maxHeartbeats 1000000 in
theorem p_waitingZ (v t : Int) (hs : Hid (Calls Tryz.prog 57 #[ptr bm, .int .i64 t] w fun e w' => e = .returned (.int .i64 v) ∧ w' = w)) :
    Calls Tryz.prog 29 #[ptr bm, .int .i64 t] w fun e w' => e = .returned (.int .i64 v) ∧ w' = w := by
  go_enter Tryz.func29, Tryz.ntmps29
  go_wp2_with fail
  refine hs.out.mono ?_
  rintro e w' ⟨rfl, rfl⟩
  go_wp2
  go_ret
  exact ⟨rfl, rfl⟩

set_option maxRecDepth 100000 in
set_option maxHeartbeats 1000000 in
theorem p_peekZ (v t : Int) (hs : Hid (Calls Tryz.prog 56 #[ptr bm, .int .i64 t] w fun e w' => e = .returned (.int .i64 v) ∧ w' = w)) :
    Calls Tryz.prog 28 #[ptr bm, .int .i64 t] w fun e w' => e = .returned (.int .i64 v) ∧ w' = w := by
  go_enter Tryz.func28, Tryz.ntmps28
  go_wp2_with fail
  refine hs.out.mono ?_
  rintro e w' ⟨rfl, rfl⟩
  go_wp2
  go_ret
  exact ⟨rfl, rfl⟩

/-- What a machine tells of a thread that is none. -/
theorem p_off (h : MRep D w bm A m) (t : Int) (ht : t < 0 ∨ (A.length : Int) ≤ t) :
    Calls Tryz.prog 26 #[ptr bm, .int .i64 t] w (fun e w' => e = .returned (.slice none 0 0) ∧ w' = w) ∧
    Calls Tryz.prog 31 #[ptr bm, .int .i64 t] w (fun e w' => e = .returned (.int .i64 10) ∧ w' = w) ∧
    Calls Tryz.prog 29 #[ptr bm, .int .i64 t] w (fun e w' => e = .returned (.int .i64 0) ∧ w' = w) := by
  obtain ⟨ts, h1, h2⟩ := h
  have hl : ts.length = A.length := by rw [← h2]; simp
  have ht' : t < 0 ∨ (ts.length : Int) ≤ t := by omega
  exact ⟨p_outZ t (m_out_off h1 t ht'), p_stateZ _ t (m_state_off h1 t ht'), p_waitingZ _ t (m_waiting_off h1 t ht')⟩

/-- A cell, wherever it is. -/
def memAt (m : Nat → Int) (t : Int) : Int := if 0 ≤ t ∧ t < 256 then m t.toNat else 0

theorem p_peekAny (h : MRep D w bm A m) (t : Int) : Calls Tryz.prog 28 #[ptr bm, .int .i64 t] w fun e w' => e = .returned (.int .i64 (memAt m t)) ∧ w' = w := by
  unfold memAt
  by_cases hi : 0 ≤ t ∧ t < 256
  · rw [if_pos hi]
    obtain ⟨j, rfl⟩ := Int.eq_ofNat_of_zero_le hi.1
    exact p_peekR h j (by omega)
  · rw [if_neg hi]
    exact p_peekZ _ t (m_peek_off bm t (by omega))
end
end Go.Proofs.YtfhkfnoajbbfdaaGreatDoor

/- What a pick of commitslaw says; two lists. -/
namespace Go.Proofs.YtfhkfnoajbbfdaaGreatDoor
open Go.RowKit

set_option maxRecDepth 100000 in
set_option maxHeartbeats 1000000 in
theorem lpick_is (c n : Int) (w : World) (hn : 0 < n) :
    Calls Tryz.prog 43 #[.int .i64 c, .int .i64 n] w fun e w' => e = .returned (.int .i64 (pickV c n)) ∧ w' = w := by
  have hn0 : ¬ n = 0 := by omega
  have HN := hid hn
  clear hn
  by_cases hlt : c < 0
  · rw [show pickV c n = (wrap64 (-wrap64 (c + 1))).tmod n from if_pos hlt]
    go_enter Tryz.func43, Tryz.ntmps43
    go_wp2
    go_ret
    exact ⟨rfl, rfl⟩
  · rw [show pickV c n = c % n from if_neg hlt]
    go_enter Tryz.func43, Tryz.ntmps43
    go_wp2
    go_ret
    exact ⟨rfl, rfl⟩

set_option maxRecDepth 100000 in
set_option maxHeartbeats 1000000 in
/-- A thread, and how many steps. -/
theorem lact_is (c : Int) (hc : -9223372036854775808 ≤ c) : ∃ t n : Nat, t < 4 ∧ n ≤ 40 ∧ ∀ w, Calls Tryz.prog 16 #[.int .i64 c] w fun e w' => e = .returned (.tuple #[.int .i64 t, .int .i64 n]) ∧ w' = w := by
  have hin := pickV_in c 1073741824 hc (by decide)
  have HP : Hid (∀ W, Calls Tryz.prog 43 #[.int .i64 c, .int .i64 1073741824] W fun e w' => e = .returned (.int .i64 (pickV c 1073741824)) ∧ w' = W) := fun W => lpick_is c 1073741824 W (by decide)
  generalize pickV c 1073741824 = y at hin HP
  obtain ⟨y0, y1⟩ := hin
  obtain ⟨i, hi⟩ := Int.eq_ofNat_of_zero_le (show 0 ≤ y % 4 by omega)
  by_cases hq : y / 4 % 4 = 0
  · refine ⟨i, 0, by omega, by omega, fun w => ?_⟩
    have hq' : (y / 4 % 4 == 0) = true := by simpa using hq
    rw [← hi]
    clear hi hc
    go_enter Tryz.func16, Tryz.ntmps16
    go_wp2_with fail
    refine (HP.out _).mono ?_
    rintro e w' ⟨rfl, rfl⟩
    go_wp2
    go_ret2
    exact ⟨rfl, rfl⟩
  · obtain ⟨k, hk⟩ := Int.eq_ofNat_of_zero_le (show 0 ≤ 1 + y / 16 % 40 by omega)
    refine ⟨i, k, by omega, by omega, fun w => ?_⟩
    have hq' : (y / 4 % 4 == 0) = false := by simpa using hq
    rw [← hi, ← hk]
    have hw : wrap64 (1 + y / 16 % 40) = 1 + y / 16 % 40 := by unfold wrap64; omega
    clear hi hc hk
    go_enter Tryz.func16, Tryz.ntmps16
    go_wp2_with fail
    refine (HP.out _).mono ?_
    rintro e w' ⟨rfl, rfl⟩
    go_wp2
    go_ret2
    exact ⟨rfl, rfl⟩

set_option maxRecDepth 100000 in
set_option maxHeartbeats 1000000 in
/-- Two lists of the same numbers. -/
theorem lsame_is (w : World) (l : List Int) (hl : l.length < 1099511627776) (a b : Option Addr) (ca cb : Nat) (ha : ∀ j (h : j < l.length), ∃ g, a = some ⟨g, 0, none⟩ ∧ w.cell? ⟨g, j, none⟩ = some (.int .i64 l[j])) (hb : ∀ j (h : j < l.length), ∃ g, b = some ⟨g, 0, none⟩ ∧ w.cell? ⟨g, j, none⟩ = some (.int .i64 l[j])) :
    Calls Tryz.prog 38 #[.slice a l.length ca, .slice b l.length cb] w fun e w' => e = .returned (.bool true) ∧ ∃ nn, w' = w.drewN nn := by
  have HA := hid ha
  have HB := hid hb
  clear ha hb
  go_enter Tryz.func38, Tryz.ntmps38
  go_wp2
  go_loopw [5] (fun v wr => ∃ k nn : Nat, k ≤ l.length ∧ v = .int .i64 k ∧ wr = w.drewN nn) (fun v _ => l.length - (intOf v).toNat)
  case atStart => exact ⟨0, 0, Nat.zero_le _, rfl, rfl⟩
  case round =>
    obtain ⟨k, nn, hk, rfl, rfl⟩ := hrel
    by_cases hlt : k < l.length
    · have hlt' : (k : Int) < (l.length : Int) := by omega
      obtain ⟨ga, rfl, c1⟩ := HA.out k hlt
      obtain ⟨gb, rfl, c2⟩ := HB.out k hlt
      generalize l[k] = v at c1 c2
      go_wp2
      go_region
      all_goals
        go_wp2
        go_roundw
        case rel => exact ⟨k + 1, nn + 1, by omega, by go_num, rfl⟩
        case measure => simp [intOf]; omega
    · have hk' : k = l.length := by omega
      subst hk'
      have hlt' : ¬ (l.length : Int) < (l.length : Int) := by omega
      go_wp2
      go_ret
      exact ⟨rfl, nn, rfl⟩
end Go.Proofs.YtfhkfnoajbbfdaaGreatDoor

/- The document's machine as the list of its threads: a step, a flush, whatever thread is picked. -/
namespace Go.Proofs.YtfhkfnoajbbfdaaGreatDoor
open Go.RowKit

theorem CMach.newD {D D' : Nat → Prop} {lab : Nat → Nat × Nat} {w : World} {bm mb : Nat} {tv : Value} {m : Nat → Int} {ts : List CT} (h : CMach D lab w bm mb tv m ts) (hD : ∀ k, D k → k < w.heap.size → D' k) : CMach D' lab w bm mb tv m ts := {
  sh := h.sh, memc := h.memc, tc := h.tc, free := h.free, msh := h.msh, mcell := h.mcell, mfree := h.mfree, trow := h.trow, th := h.th
  lb := ⟨h.lb.1, hD _ h.lb.2 (lt_of_shape h.sh)⟩
  lm := ⟨h.lm.1, hD _ h.lm.2 (lt_of_shape h.msh)⟩
  lt := fun g hg => ⟨(h.lt g hg).1, hD _ (h.lt g hg).2 (h.trow.lt g hg).2⟩
  lts := fun i hi => by
    have l := h.lts i hi
    have t := h.th i hi
    exact ⟨⟨l.b.1, hD _ l.b.2 (lt_of_shape t.sh)⟩, ⟨l.rb.1, hD _ l.rb.2 (lt_of_shape t.rsh)⟩, fun g hg => ⟨(l.cv g hg).1, hD _ (l.cv g hg).2 (t.crow.lt g hg).2⟩, fun g hg => ⟨(l.wv g hg).1, hD _ (l.wv g hg).2 (t.wrow.lt g hg).2⟩, fun g hg => ⟨(l.ov g hg).1, hD _ (l.ov g hg).2 (t.orow.lt g hg).2⟩⟩ }

/-- The document's machine, by its threads and its memory. -/
def CRep (D : Nat → Prop) (w : World) (bm : Nat) (A : List (Th × List Ic)) (m : Nat → Int) : Prop := ∃ lab mb tv ts, CMach D lab w bm mb tv m ts ∧ ts.map (fun t => (t.T, t.code)) = A

theorem CRep.newD {D D' : Nat → Prop} {w : World} {bm : Nat} {A : List (Th × List Ic)} {m : Nat → Int} (h : CRep D w bm A m) (hD : ∀ k, D k → k < w.heap.size → D' k) : CRep D' w bm A m :=
  let ⟨lab, mb, tv, ts, h1, h2⟩ := h; ⟨lab, mb, tv, ts, h1.newD hD, h2⟩

theorem CRep.keep {D : Nat → Prop} {w w' : World} {bm : Nat} {A : List (Th × List Ic)} {m : Nat → Int} {M : Nat → Nat → Prop} (h : CRep D w bm A m) (hc : Chg M w w') (hM : ∀ k i, D k → ¬ M k i) : CRep D w' bm A m :=
  let ⟨lab, mb, tv, ts, h1, h2⟩ := h; ⟨lab, mb, tv, ts, h1.keep hc hM, h2⟩

theorem CRep.below {D : Nat → Prop} {w w' : World} {bm : Nat} {A : List (Th × List Ic)} {m : Nat → Int} (h : CRep D w bm A m) (hb : Below w.heap.size w w') : CRep D w' bm A m :=
  let ⟨lab, mb, tv, ts, h1, h2⟩ := h; ⟨lab, mb, tv, ts, h1.below hb, h2⟩

theorem crep_loads {D : Nat → Prop} {w : World} {bm : Nat} {cs : List (List Ic)} (h : CLoads D w bm cs) : CRep D w bm (cs.map fun c => (Th.init, c)) (fun _ => 0) := by
  obtain ⟨lab, mb, tv, ts, h1, h2, h3⟩ := h
  refine ⟨lab, mb, tv, ts, h1, ?_⟩
  rw [← h2, List.map_map]
  apply List.map_congr_left
  intro t ht
  simp [h3 t ht]

section
variable {D : Nat → Prop} {w : World} {bm : Nat} {A : List (Th × List Ic)} {m : Nat → Int}

theorem c_step (h : CRep D w bm A m) (hD : ∀ k, w.heap.size ≤ k → D k) (hok : okA A) (hv : VinA A m) (i : Nat) :
    Calls Tryz.prog 49 #[ptr bm, .int .i64 i] w fun e w' => e = .returned (.tuple #[]) ∧ (CRep D w' bm (stepA A m i).1 (stepA A m i).2 ∧ Chg (fun k _ => D k) w w') := by
  obtain ⟨lab, mb, tv, ts, h1, rfl⟩ := h
  by_cases hi : i < ts.length
  · have hm : (ts[i].T, ts[i].code) ∈ ts.map (fun t => (t.T, t.code)) := List.mem_map.2 ⟨ts[i], List.getElem_mem hi, rfl⟩
    have o := hok _ hm
    have v := hv.1 _ hm
    have e1 : stepA (ts.map fun t => (t.T, t.code)) m i = ((ts.map fun t => (t.T, t.code)).set i ((stepT ts[i].T m ts[i].code).1, ts[i].code), (stepT ts[i].T m ts[i].code).2) := by
      unfold stepA
      rw [List.getElem?_map, List.getElem?_eq_getElem hi]
      rfl
    rw [e1]
    refine (cstep_any h1 hD i hi ⟨o.1, o.2.1, o.2.2.1, v.2, o.2.2.2, v.1⟩).mono ?_
    rintro e w' ⟨rfl, ⟨lab', wv', ov', h2⟩, h3⟩
    refine ⟨rfl, ⟨lab', mb, tv, _, h2, ?_⟩, h3⟩
    rw [List.map_set]
  · rw [stepA_none (by simpa using Nat.le_of_not_lt hi)]
    refine (cStep_none h1 i (.inr (by omega))).mono ?_
    rintro e w' ⟨rfl, rfl⟩
    exact ⟨rfl, ⟨lab, mb, tv, ts, h1, rfl⟩, Chg.refl _ _⟩

theorem c_flush (h : CRep D w bm A m) (hD : ∀ k, w.heap.size ≤ k → D k) (hv : VinA A m) (i : Nat) :
    Calls Tryz.prog 46 #[ptr bm, .int .i64 i] w fun e w' => e = .returned (.tuple #[]) ∧ (CRep D w' bm (flushA A m i).1 (flushA A m i).2 ∧ Chg (fun k _ => D k) w w') := by
  obtain ⟨lab, mb, tv, ts, h1, rfl⟩ := h
  by_cases hi : i < ts.length
  · have hm : (ts[i].T, ts[i].code) ∈ ts.map (fun t => (t.T, t.code)) := List.mem_map.2 ⟨ts[i], List.getElem_mem hi, rfl⟩
    have v := hv.1 _ hm
    have e1 : flushA (ts.map fun t => (t.T, t.code)) m i = ((ts.map fun t => (t.T, t.code)).set i ((flushT ts[i].T m).1, ts[i].code), (flushT ts[i].T m).2) := by
      unfold flushA
      rw [List.getElem?_map, List.getElem?_eq_getElem hi]
      rfl
    rw [e1]
    have hql := v.1.ql
    simp only at hql
    refine (cFlush_any h1 hD i hi (fun p hp => (v.1.q p hp).1) (by omega)).mono ?_
    rintro e w' ⟨rfl, ⟨lab', wv', h2⟩, h3⟩
    refine ⟨rfl, ⟨lab', mb, tv, _, h2, ?_⟩, h3.mono ?_⟩
    · rw [List.map_set]
    · rintro k j _ (rfl | rfl)
      · exact h1.lm.2
      · exact (h1.lts i hi).b.2
  · rw [flushA_none (by simpa using Nat.le_of_not_lt hi)]
    refine (cFlush_none h1 i (.inr (by omega))).mono ?_
    rintro e w' ⟨rfl, rfl⟩
    exact ⟨rfl, ⟨lab, mb, tv, ts, h1, rfl⟩, Chg.refl _ _⟩
end
end Go.Proofs.YtfhkfnoajbbfdaaGreatDoor

/- Both machines beside one another. -/
namespace Go.Proofs.YtfhkfnoajbbfdaaGreatDoor
open Go.RowKit

/-- The program's machine and the document's; K: the blocks of the first world that neither owns. -/
def Duo (K : Nat → Prop) (w0 wr : World) (N : Nat) (bx bm : Nat) (A A' : List (Th × List Ic)) (m m' : Nat → Int) : Prop := ∃ Dx Dc : Nat → Prop, MRep Dx wr bx A m ∧ CRep Dc wr bm A' m' ∧ Fine N A' ∧ VinA A' m' ∧ (∀ q, Dx q ∨ Dc q → ¬ K q ∧ q < wr.heap.size) ∧ (∀ q, Dx q → ¬ Dc q) ∧ (∀ q, K q → q < w0.heap.size) ∧ Chg (fun q _ => ¬ K q) w0 wr

section
variable {K : Nat → Prop} {w0 wr w' : World} {N : Nat} {bx bm : Nat} {A A' : List (Th × List Ic)} {m m' : Nat → Int}

theorem Duo.below (h : Duo K w0 wr N bx bm A A' m m') (hc : Below wr.heap.size wr w') : Duo K w0 w' N bx bm A A' m m' := by
  obtain ⟨Dx, Dc, h1, h2, f, v, hl, d, hk, hb⟩ := h
  exact ⟨Dx, Dc, h1.below hc, h2.below hc, f, v, fun q hq => ⟨(hl q hq).1, Nat.lt_of_lt_of_le (hl q hq).2 hc.size⟩, d, hk, hb.trans (Chg.of_below hc)⟩

theorem Duo.cell (h : Duo K w0 wr N bx bm A A' m m') {q : Nat} (hq : K q) (j : Nat) : wr.cell? ⟨q, j, none⟩ = w0.cell? ⟨q, j, none⟩ := by
  obtain ⟨Dx, Dc, h1, h2, f, v, hl, d, hk, hb⟩ := h
  exact hb.cell q j (hk q hq) (fun e => e hq)

theorem Duo.chg (h : Duo K w0 wr N bx bm A A' m m') : Chg (fun q _ => ¬ K q) w0 wr := by
  obtain ⟨Dx, Dc, h1, h2, f, v, hl, d, hk, hb⟩ := h
  exact hb

theorem Duo.fine (h : Duo K w0 wr N bx bm A A' m m') : Fine N A' := by
  obtain ⟨Dx, Dc, h1, h2, f, v, hl, d, hk, hb⟩ := h
  exact f

/-- A block of one's own beside them. -/
theorem Duo.alloc (h : Duo K w0 wr N bx bm A A' m m') (o : Obj) : Duo (fun q => K q ∨ q = wr.heap.size) (wr.alloc o) (wr.alloc o) N bx bm A A' m m' := by
  obtain ⟨Dx, Dc, h1, h2, f, v, hl, d, hk, hb⟩ := h
  have hbl : Below wr.heap.size wr (wr.alloc o) := (Below.refl _ _).alloc (Nat.le_refl _) o
  have hs : (wr.alloc o).heap.size = wr.heap.size + 1 := by simp
  have hw := hb.size
  refine ⟨Dx, Dc, h1.below hbl, h2.below hbl, f, v, fun q hq => ?_, d, ?_, Chg.refl _ _⟩
  · have := hl q hq
    exact ⟨fun e => e.elim this.1 (fun e => by omega), by omega⟩
  · rintro q (e | e)
    · have := hk q e; omega
    · omega

theorem Duo.back {M : Nat} {B B' : List (Th × List Ic)} {n n' : Nat → Int} {bx' bm' : Nat} {o : Obj} (h : Duo K w0 wr N bx' bm' A A' m m') (k : Duo (fun q => K q ∨ q = wr.heap.size) (wr.alloc o) w' M bx bm B B' n n') : Duo K w0 w' M bx bm B B' n n' := by
  obtain ⟨_, _, _, _, _, _, _, _, hk, hb⟩ := h
  obtain ⟨Dx, Dc, h1, h2, f, v, hl, d, hk', hb'⟩ := k
  exact ⟨Dx, Dc, h1, h2, f, v, fun q hq => ⟨fun e => (hl q hq).1 (.inl e), (hl q hq).2⟩, d, hk, (hb.alloc o).trans (hb'.mono (fun q _ _ e e' => e (.inl e')))⟩

theorem duo_x {A1 : List (Th × List Ic)} {m1 : Nat → Int} {Dx Dc : Nat → Prop} (h2 : CRep Dc wr bm A' m') (f : Fine N A') (v : VinA A' m') (hl : ∀ q, Dx q ∨ Dc q → ¬ K q ∧ q < wr.heap.size) (d : ∀ q, Dx q → ¬ Dc q) (hk : ∀ q, K q → q < w0.heap.size) (hb : Chg (fun q _ => ¬ K q) w0 wr)
    (hm : MRep (fun q => Dx q ∨ wr.heap.size ≤ q) w' bx A1 m1) (hc : Chg (fun q _ => Dx q ∨ wr.heap.size ≤ q) wr w') : Duo K w0 w' N bx bm A1 A' m1 m' := by
  have hs := hc.size
  have hbs := hb.size
  refine ⟨fun q => (Dx q ∨ wr.heap.size ≤ q) ∧ q < w'.heap.size, Dc, hm.newD (fun k hk hlt => ⟨hk, hlt⟩), h2.keep hc ?_, f, v, ?_, ?_, hk, hb.trans (hc.mono ?_)⟩
  · rintro k i hk (e | e)
    · exact d k e hk
    · have := hl k (.inr hk); omega
  · rintro q (⟨h | h, hq⟩ | h)
    · exact ⟨(hl q (.inl h)).1, hq⟩
    · exact ⟨fun e => by have := hk q e; omega, hq⟩
    · have := hl q (.inr h); exact ⟨this.1, by omega⟩
  · rintro q ⟨h | h, _⟩ hy
    · exact d q h hy
    · have := hl q (.inr hy); omega
  · rintro k i _ (h | h)
    · exact (hl k (.inl h)).1
    · exact fun e => by have := hk k e; omega

theorem duo_c {M : Nat} {A1 : List (Th × List Ic)} {m1 : Nat → Int} {Dx Dc : Nat → Prop} (h1 : MRep Dx wr bx A m) (f : Fine M A1) (v : VinA A1 m1) (hl : ∀ q, Dx q ∨ Dc q → ¬ K q ∧ q < wr.heap.size) (d : ∀ q, Dx q → ¬ Dc q) (hk : ∀ q, K q → q < w0.heap.size) (hb : Chg (fun q _ => ¬ K q) w0 wr)
    (hm : CRep (fun q => Dc q ∨ wr.heap.size ≤ q) w' bm A1 m1) (hc : Chg (fun q _ => Dc q ∨ wr.heap.size ≤ q) wr w') : Duo K w0 w' M bx bm A A1 m m1 := by
  have hs := hc.size
  have hbs := hb.size
  refine ⟨Dx, fun q => (Dc q ∨ wr.heap.size ≤ q) ∧ q < w'.heap.size, part h1 hc (fun k hk hx => d k hk hx) (fun k hk => (hl k (.inl hk)).2), hm.newD (fun k hk hlt => ⟨hk, hlt⟩), f, v, ?_, ?_, hk, hb.trans (hc.mono ?_)⟩
  · rintro q (h | ⟨h | h, hq⟩)
    · have := hl q (.inl h); exact ⟨this.1, by omega⟩
    · exact ⟨(hl q (.inr h)).1, hq⟩
    · exact ⟨fun e => by have := hk q e; omega, hq⟩
  · rintro q hx ⟨h | h, _⟩
    · exact d q hx h
    · have := hl q (.inl hx); omega
  · rintro k i _ (h | h)
    · exact (hl k (.inr h)).1
    · exact fun e => by have := hk k e; omega

theorem duo_xstep (h : Duo K w0 wr N bx bm A A m m) (i n : Nat) (hn : (n : Int) ≤ 1000000) (hN : N + n < 1099511627776) :
    Calls Tryz.prog 27 #[ptr bx, .int .i64 i, .int .i64 n] wr fun e w' => e = .returned (.tuple #[]) ∧ Duo K w0 w' N bx bm (stepsA A m i n).1 A (stepsA A m i n).2 m := by
  obtain ⟨Dx, Dc, h1, h2, f, v, hl, d, hk, hb⟩ := h
  refine (p_step_all (D := fun q => Dx q ∨ wr.heap.size ≤ q) (h1.newD (fun k hk _ => .inl hk)) (fun k hk => .inr hk) i n hn (fun k hk => (f.steps m i k).ok (by omega))).mono ?_
  rintro e w' ⟨rfl, hm, hc⟩
  exact ⟨rfl, duo_x h2 f v hl d hk hb hm hc⟩

theorem duo_xflush (h : Duo K w0 wr N bx bm A A m m) (i : Nat) :
    Calls Tryz.prog 30 #[ptr bx, .int .i64 i] wr fun e w' => e = .returned (.tuple #[]) ∧ Duo K w0 w' N bx bm (flushA A m i).1 A (flushA A m i).2 m := by
  obtain ⟨Dx, Dc, h1, h2, f, v, hl, d, hk, hb⟩ := h
  refine (p_flush_all (D := fun q => Dx q ∨ wr.heap.size ≤ q) (h1.newD (fun k hk _ => .inl hk)) (fun k hk => .inr hk) i).mono ?_
  rintro e w' ⟨rfl, hm, hc⟩
  exact ⟨rfl, duo_x h2 f v hl d hk hb hm hc⟩

theorem duo_cstep (h : Duo K w0 wr N bx bm A A' m m') (i : Nat) (hN : N < 1099511627776) :
    Calls Tryz.prog 49 #[ptr bm, .int .i64 i] wr fun e w' => e = .returned (.tuple #[]) ∧ Duo K w0 w' (N + 1) bx bm A (stepA A' m' i).1 m (stepA A' m' i).2 := by
  obtain ⟨Dx, Dc, h1, h2, f, v, hl, d, hk, hb⟩ := h
  refine (c_step (D := fun q => Dc q ∨ wr.heap.size ≤ q) (h2.newD (fun k hk _ => .inl hk)) (fun k hk => .inr hk) (f.ok hN) v i).mono ?_
  rintro e w' ⟨rfl, hm, hc⟩
  exact ⟨rfl, duo_c h1 (f.step m' i) (v.step i) hl d hk hb hm hc⟩

theorem duo_cflush (h : Duo K w0 wr N bx bm A A' m m') (i : Nat) :
    Calls Tryz.prog 46 #[ptr bm, .int .i64 i] wr fun e w' => e = .returned (.tuple #[]) ∧ Duo K w0 w' N bx bm A (flushA A' m' i).1 m (flushA A' m' i).2 := by
  obtain ⟨Dx, Dc, h1, h2, f, v, hl, d, hk, hb⟩ := h
  refine (c_flush (D := fun q => Dc q ∨ wr.heap.size ≤ q) (h2.newD (fun k hk _ => .inl hk)) (fun k hk => .inr hk) v i).mono ?_
  rintro e w' ⟨rfl, hm, hc⟩
  exact ⟨rfl, duo_c h1 (f.flush m' i) (v.flush i) hl d hk hb hm hc⟩

/-- The receiver's block. -/
theorem pair_x (W : World) (a b : Value) : (W.alloc (.cells #[a, b] 25)).cell? ⟨W.heap.size, 0, none⟩ = some a := World.cell?_alloc_new _ _ _ 0
theorem pair_m (W : World) (a b : Value) : (W.alloc (.cells #[a, b] 25)).cell? ⟨W.heap.size, 1, none⟩ = some b := World.cell?_alloc_new _ _ _ 1

set_option maxRecDepth 100000 in
set_option maxHeartbeats 1000000 in
theorem l_flush (h : Duo K w0 wr N bx bm A A m m) (i : Nat) :
    Calls Tryz.prog 17 #[.agg #[ptr bx, ptr bm], .int .i64 i] wr fun e w' => e = .returned (.tuple #[]) ∧ Duo K w0 w' N bx bm (flushA A m i).1 (flushA A m i).1 (flushA A m i).2 (flushA A m i).2 := by
  have H := hid h
  have H1 := hid (h.alloc (.cells #[ptr bx, ptr bm] 25))
  have HX := hid (pair_x wr (ptr bx) (ptr bm))
  have HM := hid (pair_m wr (ptr bx) (ptr bm))
  clear h
  go_enter Tryz.func17, Tryz.ntmps17
  go_wp2_with fail
  refine (duo_xflush H1.out i).mono ?_
  rintro e W1 ⟨rfl, d1⟩
  have D1 := hid d1
  have c1 := (d1.cell (q := wr.heap.size) (.inr rfl) 1).trans HM.out
  clear d1 HX HM
  go_wp2_with fail
  refine (duo_cflush D1.out i).mono ?_
  rintro e W2 ⟨rfl, d2⟩
  have D2 := hid d2
  clear d2
  go_wp2
  go_end0
  exact ⟨rfl, H.out.back D2.out⟩

set_option maxRecDepth 100000 in
set_option maxHeartbeats 1000000 in
theorem l_step (h : Duo K w0 wr N bx bm A A m m) (i n : Nat) (hn : (n : Int) ≤ 1000000) (hN : N + n < 1099511627776) :
    Calls Tryz.prog 18 #[.agg #[ptr bx, ptr bm], .int .i64 i, .int .i64 n] wr fun e w' => e = .returned (.tuple #[]) ∧ Duo K w0 w' (N + n) bx bm (stepsA A m i n).1 (stepsA A m i n).1 (stepsA A m i n).2 (stepsA A m i n).2 := by
  have H := hid h
  have H1 := hid (h.alloc (.cells #[ptr bx, ptr bm] 25))
  have HM := hid (pair_m wr (ptr bx) (ptr bm))
  clear h
  go_enter Tryz.func18, Tryz.ntmps18
  go_wp2_with fail
  refine (duo_xstep H1.out i n hn hN).mono ?_
  rintro e W1 ⟨rfl, d1⟩
  have D1 := hid d1
  clear d1
  go_wp2
  go_loopw [6] (fun v w2 => ∃ k : Nat, k ≤ n ∧ v = .int .i64 k ∧ Hid (Duo (fun q => K q ∨ q = wr.heap.size) (wr.alloc (.cells #[ptr bx, ptr bm] 25)) w2 (N + k) bx bm (stepsA A m i n).1 (stepsA A m i k).1 (stepsA A m i n).2 (stepsA A m i k).2)) (fun v _ => n - (intOf v).toNat)
  case atStart => exact ⟨0, Nat.zero_le _, rfl, D1⟩
  case round =>
    clear D1
    obtain ⟨k, hk, rfl, hr⟩ := hrel
    have c1 := (hr.out.cell (.inr rfl) 1).trans HM.out
    by_cases hlt : k < n
    · have hlt' : (k : Int) < (n : Int) := by omega
      go_wp2_with fail
      refine (duo_cstep hr.out i (by omega)).mono ?_
      rintro e w3 ⟨rfl, d2⟩
      have D2 := hid d2
      clear d2 c1
      go_wp2
      go_roundw
      case rel => exact ⟨k + 1, by omega, by go_num, D2⟩
      case measure => simp [intOf]; omega
    · have hk' : k = n := by omega
      subst hk'
      have hlt' : ¬ (k : Int) < (k : Int) := by omega
      go_wp2
      go_end0
      exact ⟨rfl, H.out.back hr.out⟩
end
end Go.Proofs.YtfhkfnoajbbfdaaGreatDoor

/- What both machines tell. -/
namespace Go.Proofs.YtfhkfnoajbbfdaaGreatDoor
open Go.RowKit

section
variable {K : Nat → Prop} {w0 wr w' : World} {N : Nat} {bx bm : Nat} {A A' : List (Th × List Ic)} {m m' : Nat → Int}

theorem duo_out (h : Duo K w0 wr N bx bm A A m m) (hN : N < 1099511627776) (i : Nat) :
    Calls Tryz.prog 26 #[ptr bx, .int .i64 i] wr fun e w' => ∃ a, e = .returned (.slice a (outsOf A i).length (outsOf A i).length) ∧ Below wr.heap.size wr w' ∧ (a = none ∨ ∃ g, a = some ⟨g, 0, none⟩ ∧ wr.heap.size ≤ g ∧ g < w'.heap.size) ∧ ∀ j (h : j < (outsOf A i).length), ∃ g, a = some ⟨g, 0, none⟩ ∧ w'.cell? ⟨g, j, none⟩ = some (.int .i64 (outsOf A i)[j]) := by
  obtain ⟨Dx, Dc, h1, h2, f, v, hl, d, hk, hb⟩ := h
  by_cases hi : i < A.length
  · have hp := List.getElem?_eq_getElem hi
    have e : outsOf A i = (A[i]).1.out := by unfold outsOf; rw [hp]
    rw [e]
    refine (p_outR h1 i A[i] hp (by have := (f _ (List.getElem_mem hi)).2.2.2; omega)).mono ?_
    rintro e w' ⟨rfl, g1, g2, g3⟩
    exact ⟨_, rfl, g1, .inr ⟨_, rfl, Nat.le_refl _, g2⟩, fun j hj => ⟨_, rfl, g3 j hj⟩⟩
  · have e : outsOf A i = [] := by unfold outsOf; rw [List.getElem?_eq_none (by omega)]
    rw [e]
    refine (p_off h1 i (.inr (by omega))).1.mono ?_
    rintro e w' ⟨rfl, rfl⟩
    exact ⟨none, rfl, Below.refl _ _, .inl rfl, fun j hj => by simp at hj⟩

theorem duo_state (h : Duo K w0 wr N bx bm A A m m) (i : Nat) : Calls Tryz.prog 31 #[ptr bx, .int .i64 i] wr fun e w' => e = .returned (.int .i64 (stOf A i)) ∧ w' = wr := by
  obtain ⟨Dx, Dc, h1, h2, f, v, hl, d, hk, hb⟩ := h
  exact p_stateG h1 i

theorem duo_waiting (h : Duo K w0 wr N bx bm A A m m) (i : Nat) (hi : i < A.length) : Calls Tryz.prog 29 #[ptr bx, .int .i64 i] wr fun e w' => e = .returned (.int .i64 (A[i].1.q.length : Int)) ∧ w' = wr := by
  obtain ⟨Dx, Dc, h1, h2, f, v, hl, d, hk, hb⟩ := h
  exact p_waitingR h1 i A[i] (List.getElem?_eq_getElem hi)

theorem duo_off (h : Duo K w0 wr N bx bm A A m m) (t : Int) (ht : t < 0 ∨ (A.length : Int) ≤ t) :
    Calls Tryz.prog 26 #[ptr bx, .int .i64 t] wr (fun e w' => e = .returned (.slice none 0 0) ∧ w' = wr) ∧
    Calls Tryz.prog 31 #[ptr bx, .int .i64 t] wr (fun e w' => e = .returned (.int .i64 10) ∧ w' = wr) ∧
    Calls Tryz.prog 29 #[ptr bx, .int .i64 t] wr (fun e w' => e = .returned (.int .i64 0) ∧ w' = wr) := by
  obtain ⟨Dx, Dc, h1, h2, f, v, hl, d, hk, hb⟩ := h
  exact p_off h1 t ht

theorem duo_peek (h : Duo K w0 wr N bx bm A A m m) (t : Int) : Calls Tryz.prog 28 #[ptr bx, .int .i64 t] wr fun e w' => e = .returned (.int .i64 (memAt m t)) ∧ w' = wr := by
  obtain ⟨Dx, Dc, h1, h2, f, v, hl, d, hk, hb⟩ := h
  exact p_peekAny h1 t

/-- The document's machine: how many threads, its memory. -/
theorem duo_len (h : Duo K w0 wr N bx bm A A' m m') : ∃ ta tk mb, wr.cell? ⟨bm, 1, none⟩ = some (.slice ta A'.length tk) ∧ wr.cell? ⟨bm, 0, none⟩ = some (.slice (some ⟨mb, 0, none⟩) 256 256) ∧ ∀ j, j < 256 → wr.cell? ⟨mb, j, none⟩ = some (.int .i64 (m' j)) := by
  obtain ⟨Dx, Dc, h1, ⟨lab, mb, tv, ts, h2, rfl⟩, f, v, hl, d, hk, hb⟩ := h
  obtain ⟨ta, tk, e⟩ := row_slice h2.trow
  have := h2.tc
  rw [e] at this
  exact ⟨ta, tk, mb, by simpa using this, h2.memc, h2.mcell⟩

/-- What the document's machine has of a thread. -/
theorem duo_doc (h : Duo K w0 wr N bx bm A A' m m') (i : Nat) (hi : i < A'.length) : ∃ tg tk tb oa ok, wr.cell? ⟨bm, 1, none⟩ = some (.slice (some ⟨tg, 0, none⟩) A'.length tk) ∧ wr.cell? ⟨tg, i, none⟩ = some (ptr tb) ∧ wr.cell? ⟨tb, 4, none⟩ = some (.slice oa (outsOf A' i).length ok) ∧ wr.cell? ⟨tb, 5, none⟩ = some (.int .i64 (stOf A' i)) ∧
    (∀ j (h : j < (outsOf A' i).length), ∃ g, oa = some ⟨g, 0, none⟩ ∧ wr.cell? ⟨g, j, none⟩ = some (.int .i64 (outsOf A' i)[j])) ∧
    Calls Tryz.prog 50 #[ptr bm, .int .i64 i] wr (fun e w' => e = .returned (.int .i64 (A'[i].1.q.length : Int)) ∧ w' = wr) := by
  obtain ⟨Dx, Dc, h1, ⟨lab, mb, tv, ts, h2, rfl⟩, f, v, hl, d, hk, hb⟩ := h
  have hi' : i < ts.length := by simpa using hi
  obtain ⟨tg, tk, e, p1, p2, _⟩ := thr_ptr h2 i hi'
  have hc := h2.tc
  rw [e] at hc
  have hth := h2.th i hi'
  have eo : outsOf (ts.map fun t => (t.T, t.code)) i = ts[i].T.out := by unfold outsOf; rw [List.getElem?_map, List.getElem?_eq_getElem hi']; rfl
  have es : stOf (ts.map fun t => (t.T, t.code)) i = ts[i].T.st := by unfold stOf; rw [List.getElem?_map, List.getElem?_eq_getElem hi']; rfl
  obtain ⟨oa, ok, hov⟩ := row_slice hth.orow
  have c4 := hth.outc
  rw [hov] at c4
  have hrow := hth.orow
  rw [hov] at hrow
  rw [eo, es]
  refine ⟨tg, tk, ts[i].b, oa, ok, by simpa using hc, p1, c4, hth.state, fun j hj => ?_, ?_⟩
  · rcases hrow.2 with ⟨e1, e2⟩ | ⟨g', cap', cur, e1, _⟩
    · omega
    · obtain ⟨rfl, rfl⟩ : oa = some ⟨g', 0, none⟩ ∧ ok = cap' := by simpa using e1
      obtain ⟨q1, _, _⟩ := ownsRow_cell hrow j hj
      refine ⟨g', rfl, ?_⟩
      rw [q1]
      simp [List.getElem?_eq_getElem hj]
  · have := cWaiting_is h2 i hi'
    simpa using this

set_option maxRecDepth 100000 in
set_option maxHeartbeats 1000000 in
theorem l_looks_off (h : Duo K w0 wr N bx bm A A m m) (t : Int) (ht : t < 0 ∨ (A.length : Int) ≤ t) :
    Calls Tryz.prog 19 #[.agg #[ptr bx, ptr bm], .int .i64 t] wr fun e w' => e = .returned (.tuple #[.slice none 0 0, .bool true]) ∧ Duo K w0 w' N bx bm A A m m := by
  have H1 := h.alloc (.cells #[ptr bx, ptr bm] 25)
  have HX := pair_x wr (ptr bx) (ptr bm)
  have HM := pair_m wr (ptr bx) (ptr bm)
  obtain ⟨k1, k2, k3⟩ := duo_off H1 t ht
  have K1 := hid k1
  have K2 := hid k2
  have K3 := hid k3
  have R := hid (h.back H1)
  obtain ⟨ta, tk, mb, c1, _, _⟩ := duo_len H1
  clear k1 k2 k3 h H1
  by_cases h0 : t < 0
  · clear ht
    go_enter Tryz.func19, Tryz.ntmps19
    go_wp2_with fail
    refine K1.out.mono ?_
    rintro e W1 ⟨rfl, rfl⟩
    go_wp2_with fail
    refine K2.out.mono ?_
    rintro e W1 ⟨rfl, rfl⟩
    go_wp2_with fail
    refine K3.out.mono ?_
    rintro e W1 ⟨rfl, rfl⟩
    go_wp2
    go_ret2
    exact ⟨rfl, R.out⟩
  · have h2 : (A.length : Int) ≤ t := ht.resolve_left h0
    clear ht
    go_enter Tryz.func19, Tryz.ntmps19
    go_wp2_with fail
    refine K1.out.mono ?_
    rintro e W1 ⟨rfl, rfl⟩
    go_wp2_with fail
    refine K2.out.mono ?_
    rintro e W1 ⟨rfl, rfl⟩
    go_wp2_with fail
    refine K3.out.mono ?_
    rintro e W1 ⟨rfl, rfl⟩
    go_wp2
    go_ret2
    exact ⟨rfl, R.out⟩

set_option maxRecDepth 100000 in
set_option maxHeartbeats 1000000 in
theorem l_looks_in (h : Duo K w0 wr N bx bm A A m m) (hN : N < 1099511627776) (i : Nat) (hi : i < A.length) :
    Calls Tryz.prog 19 #[.agg #[ptr bx, ptr bm], .int .i64 i] wr fun e w' => (∃ a, e = .returned (.tuple #[.slice a (outsOf A i).length (outsOf A i).length, .bool true]) ∧ (a = none ∨ ∃ g, a = some ⟨g, 0, none⟩ ∧ wr.heap.size ≤ g ∧ g < w'.heap.size)) ∧ Duo K w0 w' N bx bm A A m m := by
  have H := hid h
  have H1 := hid (h.alloc (.cells #[ptr bx, ptr bm] 25))
  have HX := pair_x wr (ptr bx) (ptr bm)
  have HM := hid (pair_m wr (ptr bx) (ptr bm))
  have hol : (outsOf A i).length < 1099511627776 := by
    have := (h.fine _ (List.getElem_mem hi)).2.2.2
    unfold outsOf
    rw [List.getElem?_eq_getElem hi]
    simp only
    omega
  clear h
  have hi0 : ¬ (i : Int) < 0 := by omega
  have hi1 : (i : Int) < (A.length : Int) := by omega
  have hi2 : ¬ (A.length : Int) ≤ (i : Int) := by omega
  have hsz : (wr.alloc (.cells #[ptr bx, ptr bm] 25)).heap.size = wr.heap.size + 1 := by simp
  go_enter Tryz.func19, Tryz.ntmps19
  go_wp2_with fail
  refine (duo_out H1.out hN i).mono ?_
  rintro e W1 ⟨a, rfl, b1, ha, ca⟩
  have D1 := hid (H1.out.below b1)
  have HA := hid ha
  have CA := hid ca
  have HB : Hid (wr.heap.size ≤ W1.heap.size) := hid (by have := b1.size; omega)
  clear b1 ha ca
  have hx1 := (D1.out.cell (q := wr.heap.size) (.inr rfl) 0).trans HX
  have hm1 := (D1.out.cell (q := wr.heap.size) (.inr rfl) 1).trans HM.out
  clear HX
  go_wp2_with fail
  refine (duo_state D1.out i).mono ?_
  rintro e W2 ⟨rfl, rfl⟩
  go_wp2_with fail
  refine (duo_waiting D1.out i hi).mono ?_
  rintro e W2 ⟨rfl, rfl⟩
  obtain ⟨tg, tk, tb, oa, ok, c1, c2, c3, c4, c5, kw⟩ := duo_doc D1.out i hi
  have KW := hid kw
  have CO := hid c5
  have R := hid (H.out.back D1.out)
  have KS := hid (lsame_is _ (outsOf A i) hol a oa (outsOf A i).length ok CA.out CO.out)
  clear kw c5 H H1 D1 HM CA CO
  generalize hst : stOf A i = st at *
  generalize hq : A[i].1.q.length = ql at *
  generalize hol2 : outsOf A i = l at *
  go_wp2_with fail
  refine KW.out.mono ?_
  rintro e W2 ⟨rfl, rfl⟩
  go_wp2_with fail
  refine KS.out.mono ?_
  rintro e W2 ⟨rfl, nn, rfl⟩
  go_wp2
  go_ret2
  exact ⟨⟨a, by simp [hol2], HA.out.imp id (fun ⟨g, e1, e2, e3⟩ => ⟨g, e1, by omega, e3⟩)⟩, R.out.below (below_drewN _ _ nn)⟩

/-- What is told of a thread, whichever it is. -/
theorem l_looks (h : Duo K w0 wr N bx bm A A m m) (hN : N < 1099511627776) (t : Int) :
    Calls Tryz.prog 19 #[.agg #[ptr bx, ptr bm], .int .i64 t] wr fun e w' => (∃ a n c, e = .returned (.tuple #[.slice a n c, .bool true])) ∧ Duo K w0 w' N bx bm A A m m := by
  by_cases ht : t < 0 ∨ (A.length : Int) ≤ t
  · refine (l_looks_off h t ht).mono ?_
    rintro e w' ⟨rfl, hd⟩
    exact ⟨⟨_, _, _, rfl⟩, hd⟩
  · obtain ⟨i, rfl⟩ := Int.eq_ofNat_of_zero_le (show 0 ≤ t by omega)
    refine (l_looks_in h hN i (by omega)).mono ?_
    rintro e w' ⟨⟨a, rfl, _⟩, hd⟩
    exact ⟨⟨_, _, _, rfl⟩, hd⟩
end
end Go.Proofs.YtfhkfnoajbbfdaaGreatDoor

/- Cells, and all that is told. -/
namespace Go.Proofs.YtfhkfnoajbbfdaaGreatDoor
open Go.RowKit

section
variable {K : Nat → Prop} {w0 wr w' : World} {N : Nat} {bx bm : Nat} {A A' : List (Th × List Ic)} {m m' : Nat → Int}

set_option maxRecDepth 100000 in
set_option maxHeartbeats 1000000 in
theorem l_peeks (h : Duo K w0 wr N bx bm A A m m) (a : Int) (n : Nat) (ha : -1000 ≤ a ∧ a ≤ 1000) (hn : n ≤ 1000) :
    Calls Tryz.prog 51 #[.agg #[ptr bx, ptr bm], .int .i64 a, .int .i64 n] wr fun e w' => e = .returned (.bool true) ∧ Duo K w0 w' N bx bm A A m m := by
  have H := hid h
  have H1 := h.alloc (.cells #[ptr bx, ptr bm] 25)
  have HX := pair_x wr (ptr bx) (ptr bm)
  have HM := pair_m wr (ptr bx) (ptr bm)
  obtain ⟨ta, tk, mb, _, c0, cm⟩ := duo_len H1
  have hw : wrap64 (a + (n : Int)) = a + (n : Int) := by unfold wrap64; omega
  have HH := hid H1
  have CM := hid cm
  clear h H1 cm
  go_enter Tryz.func51, Tryz.ntmps51
  go_wp2
  go_loopw [7] (fun v w2 => ∃ t : Int, a ≤ t ∧ t ≤ a + n ∧ v = .int .i64 t ∧ w2 = wr.alloc (.cells #[ptr bx, ptr bm] 25)) (fun v _ => (a + n - intOf v).toNat)
  case atStart => exact ⟨a, by omega, by omega, rfl, rfl⟩
  case round =>
    obtain ⟨t, t0, t1, rfl, rfl⟩ := hrel
    have KP := hid (duo_peek HH.out t)
    by_cases hlt : t < a + (n : Int)
    · by_cases hin : 0 ≤ t ∧ t < 256
      · obtain ⟨j, rfl⟩ := Int.eq_ofNat_of_zero_le hin.1
        have hj : j < 256 := by omega
        have hmj := CM.out j hj
        have e : memAt m (j : Int) = m j := by unfold memAt; rw [if_pos hin]; simp
        rw [e] at KP
        have h0 : (0 : Int) ≤ (j : Int) := hin.1
        have h1 : (j : Int) < 256 := hin.2
        generalize m j = v at *
        clear hin e
        go_wp2_with fail
        refine KP.out.mono ?_
        rintro e w1 ⟨rfl, rfl⟩
        go_wp2
        go_roundw
        case rel => exact ⟨(j : Int) + 1, by omega, by omega, by go_num, trivial⟩
        case measure => simp [intOf]; omega
      · have e : memAt m t = 0 := by unfold memAt; rw [if_neg hin]
        rw [e] at KP
        by_cases h0 : 0 ≤ t
        · have h1 : ¬ t < 256 := by omega
          clear hin e
          go_wp2_with fail
          refine KP.out.mono ?_
          rintro e w1 ⟨rfl, rfl⟩
          go_wp2
          go_roundw
          case rel => exact ⟨t + 1, by omega, by omega, by go_num, trivial⟩
          case measure => simp [intOf]; omega
        · clear hin e
          go_wp2_with fail
          refine KP.out.mono ?_
          rintro e w1 ⟨rfl, rfl⟩
          go_wp2
          go_roundw
          case rel => exact ⟨t + 1, by omega, by omega, by go_num, trivial⟩
          case measure => simp [intOf]; omega
    · go_wp2
      go_ret
      exact ⟨rfl, H.out.back HH.out⟩

set_option maxRecDepth 100000 in
set_option maxHeartbeats 1000000 in
theorem l_whole (h : Duo K w0 wr N bx bm A A m m) (hN : N < 1099511627776) (hA : A.length ≤ 1000) :
    Calls Tryz.prog 20 #[.agg #[ptr bx, ptr bm]] wr fun e w' => e = .returned (.bool true) ∧ Duo K w0 w' N bx bm A A m m := by
  have H := hid h
  have H1 := hid (h.alloc (.cells #[ptr bx, ptr bm] 25))
  have HX := hid (pair_x wr (ptr bx) (ptr bm))
  have HM := hid (pair_m wr (ptr bx) (ptr bm))
  clear h
  go_enter Tryz.func20, Tryz.ntmps20
  go_wp2
  go_loopw [3] (fun v w2 => ∃ t : Int, -1 ≤ t ∧ t ≤ (A.length : Int) + 1 ∧ v = .int .i64 t ∧ Hid (Duo (fun q => K q ∨ q = wr.heap.size) (wr.alloc (.cells #[ptr bx, ptr bm] 25)) w2 N bx bm A A m m)) (fun v _ => ((A.length : Int) + 1 - intOf v).toNat)
  case atStart => exact ⟨-1, by omega, by omega, rfl, H1⟩
  case round =>
    clear H1
    obtain ⟨t, t0, t1, rfl, hr⟩ := hrel
    have cx := (hr.out.cell (.inr rfl) 0).trans HX.out
    have cm := (hr.out.cell (.inr rfl) 1).trans HM.out
    obtain ⟨ta, tk, mb, c1, _, _⟩ := duo_len hr.out
    by_cases hlt : t ≤ (A.length : Int)
    · go_wp2_with fail
      refine (l_looks hr.out hN t).mono ?_
      rintro e w3 ⟨⟨a, n, c, rfl⟩, d2⟩
      have D2 := hid d2
      clear d2 cx cm c1 hr
      go_wp2
      go_roundw
      case rel => exact ⟨t + 1, by omega, by omega, by go_num, D2⟩
      case measure => simp [intOf]; omega
    · go_wp2_with fail
      refine (l_peeks hr.out (-1) 258 (by omega) (by omega)).mono ?_
      rintro e w3 ⟨rfl, d2⟩
      have D2 := hid d2
      clear d2 cx cm c1 hr
      go_wp2
      go_ret
      exact ⟨rfl, H.out.back D2.out⟩
end
end Go.Proofs.YtfhkfnoajbbfdaaGreatDoor

/- Runs: the walk. -/
namespace Go.Proofs.YtfhkfnoajbbfdaaGreatDoor
open Go.RowKit

set_option maxRecDepth 100000 in
set_option maxHeartbeats 1000000 in
theorem runs_long (w : World) (s : ByteArray) (pa : Option Addr) (len cap : Nat) (h : 262144 < s.size + len) (hs : s.size < 4611686018427387904) (hl : len < 4611686018427387904) :
    Calls Tryz.prog 4 #[.string s, .slice pa len cap] w fun e w' => e = .returned (.bool true) ∧ Below w.heap.size w w' := by
  have h' : (262144 : Int) < (s.size : Int) + (len : Int) := by omega
  have hw : wrap64 ((s.size : Int) + (len : Int)) = (s.size : Int) + (len : Int) := by unfold wrap64; omega
  go_enter Tryz.func4, Tryz.ntmps4
  go_wp2
  go_ret
  exact ⟨rfl, Below.refl _ _⟩

set_option maxRecDepth 100000 in
set_option maxHeartbeats 1000000 in
theorem runs_err (w : World) (s : ByteArray) (pa : Option Addr) (len cap : Nat) (h : s.size + len ≤ 262144) (hE : Env w) {er ln : Int} (hR : gCode s = .error (er, ln)) :
    Calls Tryz.prog 4 #[.string s, .slice pa len cap] w fun e w' => e = .returned (.bool true) ∧ Below w.heap.size w w' := by
  have h' : ¬ (262144 : Int) < (s.size : Int) + (len : Int) := by omega
  have hw : wrap64 ((s.size : Int) + (len : Int)) = (s.size : Int) + (len : Int) := by unfold wrap64; omega
  have KL := hid (loaded_err hE s hR (gCode_err hR))
  clear hE hR
  go_enter Tryz.func4, Tryz.ntmps4
  go_wp2_with fail
  refine KL.out.mono ?_
  rintro e w1 ⟨rfl, b1⟩
  have B1 := hid b1
  have hb := b1.size
  clear b1
  have c0 := pair_x w1 (.pointer none) (.pointer none)
  go_wp2
  go_ret
  exact ⟨rfl, B1.out.alloc B1.out.size _⟩

/-- Both machines behind loaded. -/
theorem duo_start {w w1 : World} {bx bm n1 : Nat} {cs : List (List Ic)} (o : Obj) (h0 : w.heap.size < n1) (h1 : MRep (fun k => w.heap.size < k ∧ k < n1) w1 bx (cs.map fun c => (Th.init, c)) (fun _ => 0)) (h2 : CLoads (fun k => n1 ≤ k) w1 bm cs) (ha : AccOk cs) (hl : AccL cs) (hi : AccI cs) (hb : Below w.heap.size w w1) (hn : n1 ≤ w1.heap.size) :
    Duo (fun q => q < w.heap.size ∨ q = w1.heap.size) (w1.alloc o) (w1.alloc o) 0 bx bm (cs.map fun c => (Th.init, c)) (cs.map fun c => (Th.init, c)) (fun _ => 0) (fun _ => 0) := by
  have hbl : Below w1.heap.size w1 (w1.alloc o) := (Below.refl _ _).alloc (Nat.le_refl _) o
  have hs : (w1.alloc o).heap.size = w1.heap.size + 1 := by simp
  have hbs := hb.size
  refine ⟨fun k => w.heap.size < k ∧ k < n1, fun k => n1 ≤ k ∧ k < w1.heap.size, h1.below hbl, ((crep_loads h2).newD (fun k hk hlt => ⟨hk, hlt⟩)).below hbl, fine_init ha hl, vin_init hi, ?_, ?_, ?_, Chg.refl _ _⟩
  · rintro q (h | h)
    · exact ⟨by omega, by omega⟩
    · exact ⟨by omega, by omega⟩
  · intro q h1 h2; omega
  · intro q h; omega

theorem duo_below {w w1 wr : World} {B N bx bm : Nat} {A A' : List (Th × List Ic)} {m m' : Nat → Int} (hb : Below w.heap.size w w1) (h : Duo (fun q => q < w.heap.size ∨ q = B) w1 wr N bx bm A A' m m') : Below w.heap.size w wr :=
  hb.trans (h.chg.below hb.size (fun _ _ e => Nat.le_of_not_lt fun e' => e (.inl e')))

theorem Duo.mono {K : Nat → Prop} {w0 wr : World} {N M bx bm : Nat} {A A' : List (Th × List Ic)} {m m' : Nat → Int} (h : Duo K w0 wr N bx bm A A' m m') (hNM : N ≤ M) : Duo K w0 wr M bx bm A A' m m' := by
  obtain ⟨Dx, Dc, h1, h2, f, v, hl, d, hk, hb⟩ := h
  exact ⟨Dx, Dc, h1, h2, f.mono hNM, v, hl, d, hk, hb⟩

set_option maxRecDepth 100000 in
set_option maxHeartbeats 4000000 in
theorem runs_main (w : World) (s : ByteArray) (pa : Option Addr) (len cap : Nat) (zs : List Int) (h : s.size + len ≤ 262144) (hE : Env w) {cs : List (List Ic)} (hR : gCode s = .ok cs)
    (hpa : Hid (0 < len → ∃ x, pa = some x ∧ len ≤ zs.length ∧ (∀ j (h : j < zs.length), w.cell? (x.add j) = some (.int .i64 zs[j])) ∧ ∀ z ∈ zs, -9223372036854775808 ≤ z)) :
    Calls Tryz.prog 4 #[.string s, .slice pa len cap] w fun e w' => e = .returned (.bool true) ∧ Below w.heap.size w w' := by
  have h' : ¬ (262144 : Int) < (s.size : Int) + (len : Int) := by omega
  have hw : wrap64 ((s.size : Int) + (len : Int)) = (s.size : Int) + (len : Int) := by unfold wrap64; omega
  have KL := hid (loaded_ok hE s hR)
  have FL := hid (gCode_okL hR)
  have FI := hid (gCode_in hR)
  clear hE hR
  go_enter Tryz.func4, Tryz.ntmps4
  go_wp2_with fail
  refine KL.out.mono ?_
  rintro e w1 ⟨⟨bx, bm, n1, rfl, g0, g1, g2, g3, g4⟩, b1⟩
  have hn1 : n1 ≤ w1.heap.size := by
    obtain ⟨lab, mb, tv, ts, q1, _⟩ := g3
    have := lt_of_shape q1.sh
    omega
  have T0 := hid (duo_start (.cells #[ptr bx, ptr bm] 25) g0 g2 g3 g4 FL.out FI.out b1 hn1)
  have HL : Hid (cs.length ≤ 1000) := hid (by have := g4.1; omega)
  have HX := hid (pair_x w1 (ptr bx) (ptr bm))
  have HM := hid (pair_m w1 (ptr bx) (ptr bm))
  have B1 := hid b1
  have B2 : Hid (Below w.heap.size w (w1.alloc (.cells #[ptr bx, ptr bm] 25))) := hid (b1.alloc b1.size _)
  clear b1 g0 g1 g2 g3 g4 hn1 KL FL FI
  have c0 := HX.out
  go_wp2
  clear c0
  go_loopw [7] (fun v wr => ∃ k : Nat, k ≤ len ∧ v = .int .i64 k ∧ Hid (∃ A m, A.length ≤ 1000 ∧ Duo (fun q => q < w.heap.size ∨ q = w1.heap.size) (w1.alloc (.cells #[ptr bx, ptr bm] 25)) wr (40 * k) bx bm A A m m)) (fun v _ => len - (intOf v).toNat)
  case atStart => exact ⟨0, Nat.zero_le _, rfl, _, _, by simpa using HL.out, T0.out⟩
  case round =>
    clear T0 HL
    obtain ⟨k, hk, rfl, hr⟩ := hrel
    obtain ⟨A, m, hAl, hT⟩ := hr.out
    have HT := hid hT
    have HAL := hid hAl
    have cx := (hT.cell (q := w1.heap.size) (.inr rfl) 0).trans HX.out
    have cm := (hT.cell (q := w1.heap.size) (.inr rfl) 1).trans HM.out
    clear hT hr hAl
    by_cases hlt : k < len
    · have hlt' : (k : Int) < (len : Int) := by omega
      obtain ⟨x, rfl, hlz, hcz, hwz⟩ := hpa.out (by omega)
      have hkz : k < zs.length := by omega
      have hcell := hcz k hkz
      have hwf := hwz _ (List.getElem_mem hkz)
      generalize zs[k] = z at hcell hwf
      obtain ⟨t, n, ht4, hn40, KA0⟩ := lact_is z hwf
      have KA := hid KA0
      have hcr : wr.cell? (x.add k) = some (.int .i64 z) := ((duo_below B2.out HT.out).cell (World.block_lt_of_cell? _ _ hcell)).trans hcell
      clear hcz hwz hcell hwf hpa KA0
      go_wp2_with fail
      refine (KA.out wr).mono ?_
      rintro e v1 ⟨rfl, rfl⟩
      by_cases hn0 : n = 0
      · subst hn0
        go_wp2_with fail
        refine (l_flush HT.out t).mono ?_
        rintro e v2 ⟨rfl, d1⟩
        have D1 := hid d1
        have cx := (d1.cell (q := w1.heap.size) (.inr rfl) 0).trans HX.out
        have cm := (d1.cell (q := w1.heap.size) (.inr rfl) 1).trans HM.out
        clear d1
        go_wp2_with fail
        refine (l_looks D1.out (by omega) t).mono ?_
        rintro e v3 ⟨⟨a, n, c, rfl⟩, d2⟩
        have D2 : Hid (∃ A m, A.length ≤ 1000 ∧ Duo (fun q => q < w.heap.size ∨ q = w1.heap.size) (w1.alloc (.cells #[ptr bx, ptr bm] 25)) v3 (40 * (k + 1)) bx bm A A m m) := ⟨_, _, by rw [flushA_length]; exact HAL.out, d2.mono (by omega)⟩
        clear d2 D1 HT
        go_wp2
        go_roundw
        case rel => exact ⟨k + 1, by omega, by go_num, D2⟩
        case measure => simp [intOf]; omega
      · have hn0' : ¬ (n : Int) = 0 := by omega
        go_wp2_with fail
        refine (l_step HT.out t n (by omega) (by omega)).mono ?_
        rintro e v2 ⟨rfl, d1⟩
        have D1 := hid d1
        have cx := (d1.cell (q := w1.heap.size) (.inr rfl) 0).trans HX.out
        have cm := (d1.cell (q := w1.heap.size) (.inr rfl) 1).trans HM.out
        clear d1
        go_wp2_with fail
        refine (l_looks D1.out (by omega) t).mono ?_
        rintro e v3 ⟨⟨a, n', c, rfl⟩, d2⟩
        have D2 : Hid (∃ A m, A.length ≤ 1000 ∧ Duo (fun q => q < w.heap.size ∨ q = w1.heap.size) (w1.alloc (.cells #[ptr bx, ptr bm] 25)) v3 (40 * (k + 1)) bx bm A A m m) := ⟨_, _, by rw [stepsA_length]; exact HAL.out, d2.mono (by omega)⟩
        clear d2 D1 HT
        go_wp2
        go_roundw
        case rel => exact ⟨k + 1, by omega, by go_num, D2⟩
        case measure => simp [intOf]; omega
    · have hlt' : ¬ (k : Int) < (len : Int) := by omega
      go_wp2_with fail
      refine (l_whole HT.out (by omega) HAL.out).mono ?_
      rintro e v1 ⟨rfl, d1⟩
      have D1 := hid d1
      clear d1
      go_wp2
      go_ret
      exact ⟨rfl, duo_below B2.out D1.out⟩
end Go.Proofs.YtfhkfnoajbbfdaaGreatDoor
