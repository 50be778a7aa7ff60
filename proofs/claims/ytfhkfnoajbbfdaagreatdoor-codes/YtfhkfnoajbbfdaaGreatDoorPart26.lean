import Derived.Test.YtfhkfnoajbbfdaaGreatDoorPart19
import Derived.Test.YtfhkfnoajbbfdaaGreatDoorPart20
import Derived.Test.YtfhkfnoajbbfdaaGreatDoorPart25
/- One pick, whatever machine it is made on. -/
namespace Go.Proofs.YtfhkfnoajbbfdaaGreatDoor
open Go.RowKit

section
variable {D : Nat → Prop} {w : World} {bm : Nat} {A : List (Th × List Ic)} {m : Nat → Int}

theorem stepA_none {i : Nat} (hi : A.length ≤ i) : stepA A m i = (A, m) := by unfold stepA; rw [List.getElem?_eq_none hi]
theorem flushA_none {i : Nat} (hi : A.length ≤ i) : flushA A m i = (A, m) := by unfold flushA; rw [List.getElem?_eq_none hi]
theorem stepsA_none {i : Nat} (hi : A.length ≤ i) : ∀ k, stepsA A m i k = (A, m)
  | 0 => rfl
  | k + 1 => by rw [stepsA, stepsA_none hi k]; exact stepA_none hi

set_option maxRecDepth 100000 in
set_option maxHeartbeats 1000000 in
theorem m_flush_no {ts : List Tr} (h : MAt D w bm m ts) (i : Nat) (hi : ts.length ≤ i) :
    Calls Tryz.prog 58 #[ptr bm, .int .i64 i] w fun e w' => e = .returned (.tuple #[]) ∧ w' = w := by
  obtain ⟨bt, cap, h1, h3⟩ := h.slot
  clear h h3
  go_enter Tryz.func58, Tryz.ntmps58
  go_wp2_with fail
  refine (has_no bm bt _ cap i h1 hi).mono ?_
  rintro e w' ⟨rfl, rfl⟩
  go_wp2
  go_end0
  exact ⟨rfl, rfl⟩

theorem m_step_all (h : MRep D w bm A m) (hD : ∀ k, w.heap.size ≤ k → D k) (hok : okA A) (i : Nat) :
    Calls Tryz.prog 55 #[ptr bm, .int .i64 i] w fun e w' => e = .returned (.tuple #[]) ∧ (MRep D w' bm (stepA A m i).1 (stepA A m i).2 ∧ Chg (fun k _ => D k) w w') := by
  by_cases hi : i < A.length
  · exact m_step h hD hok i hi
  · rw [stepA_none (Nat.le_of_not_lt hi)]
    obtain ⟨ts, h1, h2⟩ := h
    have hl : ts.length = A.length := by rw [← h2]; simp
    refine (m_step_no h1 i (by omega)).mono ?_
    rintro e w' ⟨rfl, rfl⟩
    exact ⟨rfl, ⟨ts, h1, h2⟩, Chg.refl _ _⟩

theorem m_flush_all (h : MRep D w bm A m) (hD : ∀ k, w.heap.size ≤ k → D k) (i : Nat) :
    Calls Tryz.prog 58 #[ptr bm, .int .i64 i] w fun e w' => e = .returned (.tuple #[]) ∧ (MRep D w' bm (flushA A m i).1 (flushA A m i).2 ∧ Chg (fun k _ => D k) w w') := by
  by_cases hi : i < A.length
  · exact m_flush h hD i hi
  · rw [flushA_none (Nat.le_of_not_lt hi)]
    obtain ⟨ts, h1, h2⟩ := h
    have hl : ts.length = A.length := by rw [← h2]; simp
    refine (m_flush_no h1 i (by omega)).mono ?_
    rintro e w' ⟨rfl, rfl⟩
    exact ⟨rfl, ⟨ts, h1, h2⟩, Chg.refl _ _⟩

set_option maxRecDepth 100000 in
set_option maxHeartbeats 1000000 in
theorem p_step_all (h : MRep D w bm A m) (hD : ∀ k, w.heap.size ≤ k → D k) (i : Nat) (n : Nat) (hn : (n : Int) ≤ 1000000) (hok : ∀ k, k < n → okA (stepsA A m i k).1) :
    Calls Tryz.prog 27 #[ptr bm, .int .i64 i, .int .i64 n] w fun e w' => e = .returned (.tuple #[]) ∧ MRep D w' bm (stepsA A m i n).1 (stepsA A m i n).2 ∧ Chg (fun k _ => D k) w w' := by
  have HK := hid hok
  have HD := hid hD
  have H := hid h
  clear hok hD h
  go_enter Tryz.func27, Tryz.ntmps27
  go_wp2
  go_loopw [7] (fun v wr => ∃ k : Nat, k ≤ n ∧ v = .int .i64 k ∧ Hid (MRep D wr bm (stepsA A m i k).1 (stepsA A m i k).2 ∧ Chg (fun k _ => D k) w wr)) (fun v _ => n - (intOf v).toNat)
  case atStart => exact ⟨0, Nat.zero_le _, rfl, H.out, Chg.refl _ _⟩
  case round =>
    obtain ⟨k, hk, rfl, hr⟩ := hrel
    by_cases hlt : k < n
    · have hlt' : (k : Int) < (n : Int) := by omega
      go_wp2_with fail
      refine (m_step_all hr.out.1 (fun j hj => HD.out j (Nat.le_trans hr.out.2.size hj)) (HK.out k hlt) i).mono ?_
      rintro e w1 ⟨rfl, h1⟩
      have H1 := hid h1
      clear h1
      go_wp2
      go_roundw
      case rel => exact ⟨k + 1, by omega, by go_num, H1.out.1, hr.out.2.trans H1.out.2⟩
      case measure => simp [intOf]; omega
    · have hk' : k = n := by omega
      subst hk'
      have hlt' : ¬ (k : Int) < (k : Int) := by omega
      go_wp2
      go_end0
      exact ⟨rfl, hr.out⟩

set_option maxRecDepth 100000 in
set_option maxHeartbeats 1000000 in
theorem p_flush_all (h : MRep D w bm A m) (hD : ∀ k, w.heap.size ≤ k → D k) (i : Nat) :
    Calls Tryz.prog 30 #[ptr bm, .int .i64 i] w fun e w' => e = .returned (.tuple #[]) ∧ MRep D w' bm (flushA A m i).1 (flushA A m i).2 ∧ Chg (fun k _ => D k) w w' := by
  have HS := hid (m_flush_all h hD i)
  clear h hD
  go_enter Tryz.func30, Tryz.ntmps30
  go_wp2_with fail
  refine HS.out.mono ?_
  rintro e w1 ⟨rfl, hr⟩
  have HR := hid hr
  clear hr HS
  go_wp2
  go_end0
  exact ⟨rfl, HR.out⟩

/-- The number that a raw one picks. -/
def pickV (c n : Int) : Int := if c < 0 then (wrap64 (-wrap64 (c + 1))).tmod n else c % n

theorem pickV_in (c n : Int) (hc : -9223372036854775808 ≤ c) (hn : 0 < n) : 0 ≤ pickV c n ∧ pickV c n < n := by
  unfold pickV
  split
  · rename_i hlt
    have h0 := wrap_neg_bound c hc hlt
    refine ⟨Int.tmod_nonneg n h0, ?_⟩
    rw [Int.tmod_eq_emod_of_nonneg h0]
    exact Int.emod_lt_of_pos _ hn
  · exact ⟨Int.emod_nonneg _ (by omega), Int.emod_lt_of_pos _ hn⟩

set_option maxRecDepth 100000 in
set_option maxHeartbeats 1000000 in
theorem pick_is (c n : Int) (w : World) (hn : 0 < n) :
    Calls Tryz.prog 21 #[.int .i64 c, .int .i64 n] w fun e w' => e = .returned (.int .i64 (pickV c n)) ∧ w' = w := by
  have hn0 : ¬ n = 0 := by omega
  have HN := hid hn
  clear hn
  by_cases hlt : c < 0
  · rw [show pickV c n = (wrap64 (-wrap64 (c + 1))).tmod n from if_pos hlt]
    go_enter Tryz.func21, Tryz.ntmps21
    go_wp2
    go_ret
    exact ⟨rfl, rfl⟩
  · rw [show pickV c n = c % n from if_neg hlt]
    go_enter Tryz.func21, Tryz.ntmps21
    go_wp2
    go_ret
    exact ⟨rfl, rfl⟩

/-- What one raw number does to a machine, of which n threads are picked from. -/
def playA (n : Int) (c : Int) (A : List (Th × List Ic)) (m : Nat → Int) : List (Th × List Ic) × (Nat → Int) :=
  if pickV c 1073741824 / n % 5 = 0 then flushA A m (pickV c 1073741824 % n).toNat else stepsA A m (pickV c 1073741824 % n).toNat (1 + pickV c 1073741824 / n / 5 % 60).toNat

set_option maxRecDepth 100000 in
set_option maxHeartbeats 2000000 in
theorem play_one2 (h : MRep D w bm A m) (hD : ∀ k, w.heap.size ≤ k → D k) (x : Addr) (cap : Nat) (z : Int) (hz : w.cell? x = some (.int .i64 z)) (hwf : -9223372036854775808 ≤ z)
    (hok : ∀ i k, k < 60 → okA (stepsA A m i k).1) {A' : List (Th × List Ic)} {m' : Nat → Int} (hA' : Hid (playA 2 z A m = (A', m'))) :
    Calls Tryz.prog 24 #[ptr bm, .slice (some x) 1 cap, .int .i64 2] w fun e w' => e = .returned (.tuple #[]) ∧ MRep D w' bm A' m' ∧ Chg (fun k _ => D k) w w' := by
  have H := hid h
  have HD := hid hD
  have HK := hid hok
  have HW := hid hwf
  clear h hD hok hwf
  have hin := pickV_in z 1073741824 HW.out (by decide)
  have HP : Hid (∀ W, Calls Tryz.prog 21 #[.int .i64 z, .int .i64 1073741824] W fun e w' => e = .returned (.int .i64 (pickV z 1073741824)) ∧ w' = W) := fun W => pick_is z 1073741824 W (by decide)
  have HA := hid hA'.out
  unfold playA at HA
  clear hA'
  generalize pickV z 1073741824 = y at hin HP HA
  obtain ⟨y0, y1⟩ := hin
  obtain ⟨i, hi⟩ := Int.eq_ofNat_of_zero_le (show 0 ≤ y % 2 by omega)
  obtain ⟨k, hk⟩ := Int.eq_ofNat_of_zero_le (show 0 ≤ 1 + y / 2 / 5 % 60 by omega)
  have hk60 : k ≤ 60 := by omega
  have HI : Hid (y % 2 = (i : Int)) := hi
  have HJ : Hid (1 + y / 2 / 5 % 60 = (k : Int)) := hk
  rw [hi, hk] at HA
  simp only [Int.toNat_natCast] at HA
  clear hi hk
  go_enter Tryz.func24, Tryz.ntmps24
  go_wp2
  go_loopw [6] (fun v wr => (v = .int .i64 0 ∧ wr = w) ∨ (v = .int .i64 1 ∧ Hid (MRep D wr bm A' m' ∧ Chg (fun k _ => D k) w wr))) (fun v _ => 1 - (intOf v).toNat)
  case atStart => exact .inl ⟨rfl, rfl⟩
  case round =>
    rcases hrel with ⟨rfl, rfl⟩ | ⟨rfl, hr⟩
    · go_wp2_with fail
      refine (HP.out _).mono ?_
      rintro e w' ⟨rfl, rfl⟩
      by_cases hq : y / 2 % 5 = 0
      · have HA2 := HA.out
        rw [if_pos hq] at HA2
        have HA3 := hid HA2
        clear HA2 HA
        have hq' : (y / 2 % 5 == 0) = true := by simpa using hq
        go_wp2_with fail
        have kf := p_flush_all H.out HD.out i
        rw [← HI.out, HA3.out] at kf
        refine kf.mono ?_
        rintro e w1 ⟨rfl, h1⟩
        have H1 := hid h1
        clear h1 kf
        go_wp2
        go_roundw
        case rel => exact .inr ⟨by go_num, H1.out⟩
        case measure => simp [intOf]
      · have HA2 := HA.out
        rw [if_neg hq] at HA2
        have HA3 := hid HA2
        clear HA2 HA
        have hq' : (y / 2 % 5 == 0) = false := by simpa using hq
        go_wp2_with fail
        have kf := p_step_all H.out HD.out i k (by omega) (fun j hj => HK.out i j (by omega))
        rw [← HI.out, ← HJ.out, HA3.out] at kf
        refine kf.mono ?_
        rintro e w1 ⟨rfl, h1⟩
        have H1 := hid h1
        clear h1 kf
        go_wp2
        go_roundw
        case rel => exact .inr ⟨by go_num, H1.out⟩
        case measure => simp [intOf]
    · go_wp2
      go_end0
      exact ⟨rfl, hr.out⟩

set_option maxRecDepth 100000 in
set_option maxHeartbeats 2000000 in
theorem play_one4 (h : MRep D w bm A m) (hD : ∀ k, w.heap.size ≤ k → D k) (x : Addr) (cap : Nat) (z : Int) (hz : w.cell? x = some (.int .i64 z)) (hwf : -9223372036854775808 ≤ z)
    (hok : ∀ i k, k < 60 → okA (stepsA A m i k).1) {A' : List (Th × List Ic)} {m' : Nat → Int} (hA' : Hid (playA 4 z A m = (A', m'))) :
    Calls Tryz.prog 24 #[ptr bm, .slice (some x) 1 cap, .int .i64 4] w fun e w' => e = .returned (.tuple #[]) ∧ MRep D w' bm A' m' ∧ Chg (fun k _ => D k) w w' := by
  have H := hid h
  have HD := hid hD
  have HK := hid hok
  have HW := hid hwf
  clear h hD hok hwf
  have hin := pickV_in z 1073741824 HW.out (by decide)
  have HP : Hid (∀ W, Calls Tryz.prog 21 #[.int .i64 z, .int .i64 1073741824] W fun e w' => e = .returned (.int .i64 (pickV z 1073741824)) ∧ w' = W) := fun W => pick_is z 1073741824 W (by decide)
  have HA := hid hA'.out
  unfold playA at HA
  clear hA'
  generalize pickV z 1073741824 = y at hin HP HA
  obtain ⟨y0, y1⟩ := hin
  obtain ⟨i, hi⟩ := Int.eq_ofNat_of_zero_le (show 0 ≤ y % 4 by omega)
  obtain ⟨k, hk⟩ := Int.eq_ofNat_of_zero_le (show 0 ≤ 1 + y / 4 / 5 % 60 by omega)
  have hk60 : k ≤ 60 := by omega
  have HI : Hid (y % 4 = (i : Int)) := hi
  have HJ : Hid (1 + y / 4 / 5 % 60 = (k : Int)) := hk
  rw [hi, hk] at HA
  simp only [Int.toNat_natCast] at HA
  clear hi hk
  go_enter Tryz.func24, Tryz.ntmps24
  go_wp2
  go_loopw [6] (fun v wr => (v = .int .i64 0 ∧ wr = w) ∨ (v = .int .i64 1 ∧ Hid (MRep D wr bm A' m' ∧ Chg (fun k _ => D k) w wr))) (fun v _ => 1 - (intOf v).toNat)
  case atStart => exact .inl ⟨rfl, rfl⟩
  case round =>
    rcases hrel with ⟨rfl, rfl⟩ | ⟨rfl, hr⟩
    · go_wp2_with fail
      refine (HP.out _).mono ?_
      rintro e w' ⟨rfl, rfl⟩
      by_cases hq : y / 4 % 5 = 0
      · have HA2 := HA.out
        rw [if_pos hq] at HA2
        have HA3 := hid HA2
        clear HA2 HA
        have hq' : (y / 4 % 5 == 0) = true := by simpa using hq
        go_wp2_with fail
        have kf := p_flush_all H.out HD.out i
        rw [← HI.out, HA3.out] at kf
        refine kf.mono ?_
        rintro e w1 ⟨rfl, h1⟩
        have H1 := hid h1
        clear h1 kf
        go_wp2
        go_roundw
        case rel => exact .inr ⟨by go_num, H1.out⟩
        case measure => simp [intOf]
      · have HA2 := HA.out
        rw [if_neg hq] at HA2
        have HA3 := hid HA2
        clear HA2 HA
        have hq' : (y / 4 % 5 == 0) = false := by simpa using hq
        go_wp2_with fail
        have kf := p_step_all H.out HD.out i k (by omega) (fun j hj => HK.out i j (by omega))
        rw [← HI.out, ← HJ.out, HA3.out] at kf
        refine kf.mono ?_
        rintro e w1 ⟨rfl, h1⟩
        have H1 := hid h1
        clear h1 kf
        go_wp2
        go_roundw
        case rel => exact .inr ⟨by go_num, H1.out⟩
        case measure => simp [intOf]
    · go_wp2
      go_end0
      exact ⟨rfl, hr.out⟩

end
end Go.Proofs.YtfhkfnoajbbfdaaGreatDoor

/- Machines whose threads keep to their bounds. -/
namespace Go.Proofs.YtfhkfnoajbbfdaaGreatDoor
open Go.RowKit

def okL (i : Ic) : Prop := i.k = 8 ∨ i.k = 9 → 0 ≤ i.n

theorem gIn_low {lo hi v : Int} {ws ws1 : List ByteArray} (h : gIn lo hi ws = some (v, ws1)) : lo ≤ v := by
  unfold gIn at h
  cases h1 : gNum ws with
  | none => simp [h1] at h
  | some q =>
    simp [h1] at h
    obtain ⟨⟨a, _⟩, rfl⟩ := h
    exact a

theorem gIns_okL {u : ByteArray} {ws ws1 : List ByteArray} {ic : Ic} (h : gIns u ws = some (ic, ws1)) : okL ic := by
  unfold gIns at h
  split at h
  · unfold gop at h
    cases h1 : gReg ws with
    | none => simp [h1] at h
    | some p1 =>
      cases h2 : gVal p1.2 with
      | none => simp [h1, h2] at h
      | some p2 =>
        cases h3 : gVal p2.2 with
        | none => simp [h1, h2, h3] at h
        | some p3 =>
          simp [h1, h2, h3] at h
          obtain ⟨rfl, _⟩ := h
          intro hk; simp at hk
  · split at h
    · unfold gmov at h
      cases h1 : gReg ws with
      | none => simp [h1] at h
      | some p1 =>
        cases h2 : gVal p1.2 with
        | none => simp [h1, h2] at h
        | some p2 =>
          simp [h1, h2] at h
          obtain ⟨rfl, _⟩ := h
          intro hk; simp at hk
    split at h
    · unfold gload at h
      cases h1 : gReg ws with
      | none => simp [h1] at h
      | some p1 =>
        cases h2 : gCell p1.2 with
        | none => simp [h1, h2] at h
        | some p2 =>
          simp [h1, h2] at h
          obtain ⟨rfl, _⟩ := h
          intro hk; simp at hk
    split at h
    · unfold gstore at h
      cases h1 : gCell ws with
      | none => simp [h1] at h
      | some p1 =>
        cases h2 : gVal p1.2 with
        | none => simp [h1, h2] at h
        | some p2 =>
          simp [h1, h2] at h
          obtain ⟨rfl, _⟩ := h
          intro hk; simp at hk
    split at h
    · unfold gcas at h
      cases h1 : gReg ws with
      | none => simp [h1] at h
      | some p1 =>
        cases h2 : gCell p1.2 with
        | none => simp [h1, h2] at h
        | some p2 =>
          cases h3 : gVal p2.2 with
          | none => simp [h1, h2, h3] at h
          | some p3 =>
            cases h4 : gVal p3.2 with
            | none => simp [h1, h2, h3, h4] at h
            | some p4 =>
              simp [h1, h2, h3, h4] at h
              obtain ⟨rfl, _⟩ := h
              intro hk; simp at hk
    split at h
    · unfold gxadd at h
      cases h1 : gReg ws with
      | none => simp [h1] at h
      | some p1 =>
        cases h2 : gCell p1.2 with
        | none => simp [h1, h2] at h
        | some p2 =>
          cases h3 : gVal p2.2 with
          | none => simp [h1, h2, h3] at h
          | some p3 =>
            simp [h1, h2, h3] at h
            obtain ⟨rfl, _⟩ := h
            intro hk; simp at hk
    split at h
    · simp [gfence] at h
      obtain ⟨rfl, _⟩ := h
      intro hk; simp at hk
    split at h
    · unfold gout at h
      cases h1 : gVal ws with
      | none => simp [h1] at h
      | some p1 =>
        simp [h1] at h
        obtain ⟨rfl, _⟩ := h
        intro hk; simp at hk
    split at h
    · unfold gjmp at h
      cases h1 : gIn 0 4000 ws with
      | none => simp [h1] at h
      | some p1 =>
        simp [h1] at h
        obtain ⟨rfl, _⟩ := h
        intro _; exact gIn_low (ws1 := p1.2) h1
    split at h
    · unfold gjz at h
      cases h1 : gVal ws with
      | none => simp [h1] at h
      | some p1 =>
        cases h2 : gIn 0 4000 p1.2 with
        | none => simp [h1, h2] at h
        | some p2 =>
          simp [h1, h2] at h
          obtain ⟨rfl, _⟩ := h
          intro _; exact gIn_low (ws1 := p2.2) h2
    split at h
    · unfold gtrap at h
      cases h1 : gIn 1 9 ws with
      | none => simp [h1] at h
      | some p1 =>
        simp [h1] at h
        obtain ⟨rfl, _⟩ := h
        intro hk; simp at hk
    split at h
    · simp [ghalt] at h
      obtain ⟨rfl, _⟩ := h
      intro hk; simp at hk
    · simp at h

def AccL (acc : List (List Ic)) : Prop := ∀ c ∈ acc, ∀ i ∈ c, okL i

theorem gLine_okL {ws : List ByteArray} {acc acc' : List (List Ic)} (h : gLine ws acc = .ok acc') (ha : AccL acc) : AccL acc' := by
  unfold gLine at h
  split at h
  · simp at h
  · split at h
    · split at h
      · split at h
        · simp at h
        · simp at h
          subst h
          intro c hc
          simp at hc
          rcases hc with hc | rfl
          · exact ha c hc
          · intro i hi; simp at hi
      · simp at h
    · split at h
      · simp at h
      · simp at h
      · rename_i ic hi
        split at h
        · simp at h
        · rename_i c hc
          split at h
          · simp at h
          · simp at h
            subst h
            have hm : c ∈ acc := List.mem_of_getLast? hc
            intro d hd
            simp at hd
            rcases hd with hd | rfl
            · exact ha d ((List.dropLast_sublist acc).subset hd)
            · intro i hi'
              simp at hi'
              rcases hi' with hi' | rfl
              · exact ha c hm i hi'
              · exact gIns_okL hi

theorem gText_okL : ∀ (f : Nat) (r : List UInt8) (j : Nat) (acc cs : List (List Ic)), gText f r j acc = .ok cs → AccL acc → AccL cs
  | 0, r, j, acc, cs, h, ha => by simp [gText] at h; exact h ▸ ha
  | f + 1, r, j, acc, cs, h, ha => by
    unfold gText at h
    split at h
    · simp at h; exact h ▸ ha
    · split at h
      · simp at h
      · split at h
        · rename_i acc' hg
          exact gText_okL f _ _ acc' cs h (gLine_okL hg ha)
        · simp at h

theorem gCode_okL {s : ByteArray} {cs : List (List Ic)} (h : gCode s = .ok cs) : AccL cs := by
  unfold gCode at h
  split at h
  · simp at h
  · exact gText_okL _ _ _ _ _ h (fun c hc => by simp at hc)

/-- A fault's number is none of a success. -/
theorem gLine_err {ws : List ByteArray} {acc : List (List Ic)} {er : Int} (h : gLine ws acc = .error er) : er = 2 ∨ er = 3 ∨ er = 5 := by
  unfold gLine at h
  split at h
  · simp at h; omega
  · split at h
    · split at h
      · split at h
        · simp at h; omega
        · simp at h
      · simp at h; omega
    · split at h
      · simp at h; omega
      · simp at h; omega
      · split at h
        · simp at h; omega
        · split at h
          · simp at h; omega
          · simp at h

theorem gText_err : ∀ (f : Nat) (r : List UInt8) (j : Nat) (acc : List (List Ic)) (er ln : Int), gText f r j acc = .error (er, ln) → er ≠ 0
  | 0, r, j, acc, er, ln, h => by simp [gText] at h
  | f + 1, r, j, acc, er, ln, h => by
    unfold gText at h
    split at h
    · simp at h
    · split at h
      · simp at h; omega
      · split at h
        · exact gText_err f _ _ _ er ln h
        · rename_i er' hg
          simp at h
          have := gLine_err hg
          omega

theorem gCode_err {s : ByteArray} {er ln : Int} (h : gCode s = .error (er, ln)) : er ≠ 0 := by
  unfold gCode at h
  split at h
  · simp at h; omega
  · exact gText_err _ _ _ _ _ _ h

/-- Threads that keep to their bounds, and have not given out more than N times. -/
def Fine (N : Nat) (A : List (Th × List Ic)) : Prop := ∀ p ∈ A, 0 ≤ p.1.pl ∧ p.2.length ≤ 4000 ∧ (∀ i ∈ p.2, okI i ∧ okL i) ∧ p.1.out.length ≤ N

theorem Fine.ok {N : Nat} {A : List (Th × List Ic)} (h : Fine N A) (hN : N < 1099511627776) : okA A := fun p hp =>
  ⟨(h p hp).1, (h p hp).2.1, fun i hi => ((h p hp).2.2.1 i hi).1, by have := (h p hp).2.2.2; omega⟩

/-- What a step leaves of a thread's place and of what it has given out. -/
def PlOut (T : Th) (R : Th × (Nat → Int)) : Prop := 0 ≤ R.1.pl ∧ R.1.out.length ≤ T.out.length + 1

theorem iteP {T : Th} {c : Prop} [Decidable c] {a b : Th × (Nat → Int)} (ha : c → PlOut T a) (hb : ¬ c → PlOut T b) : PlOut T (if c then a else b) := by
  by_cases h : c
  · rw [if_pos h]; exact ha h
  · rw [if_neg h]; exact hb h

theorem doI_fine (i : Ic) (T : Th) (m : Nat → Int) (hp : 0 ≤ T.pl) (hl : okL i) : 0 ≤ (doI i T m).1.pl ∧ (doI i T m).1.out.length ≤ T.out.length + 1 := by
  show PlOut T (doI i T m)
  have z : ∀ (r : Nat → Int) (q : List (Int × Int)) (s : Int) (m' : Nat → Int), PlOut T (⟨r, T.pl, q, T.out, s⟩, m') := fun _ _ _ _ => ⟨hp, Nat.le_succ _⟩
  unfold doI
  refine iteP (fun _ => iteP (fun _ => z _ _ _ _) (fun _ => z _ _ _ _)) (fun _ => ?_)
  refine iteP (fun _ => iteP (fun _ => z _ _ _ _) (fun _ => z _ _ _ _)) (fun _ => ?_)
  refine iteP (fun _ => iteP (fun _ => iteP (fun _ => z _ _ _ _) (fun _ => z _ _ _ _)) (fun _ => z _ _ _ _)) (fun _ => ?_)
  refine iteP (fun _ => iteP (fun _ => z _ _ _ _) (fun _ => z _ _ _ _)) (fun _ => ?_)
  refine iteP (fun _ => z _ _ _ _) (fun _ => ?_)
  refine iteP (fun _ => ⟨hp, by simp⟩) (fun _ => ?_)
  refine iteP (fun h => ⟨hl (.inl h), Nat.le_succ _⟩) (fun _ => ?_)
  refine iteP (fun _ => z _ _ _ _) (fun _ => ?_)
  refine iteP (fun _ => ?_) (fun _ => ?_)
  · cases opV i.op (i.a.of T) (i.b.of T) with
    | some v => exact z _ _ _ _
    | none => exact z _ _ _ _
  refine iteP (fun h => iteP (fun _ => ⟨hl (.inr h), Nat.le_succ _⟩) (fun _ => ⟨hp, Nat.le_succ _⟩)) (fun _ => z _ _ _ _)

theorem stepT_fine (T : Th) (m : Nat → Int) (c : List Ic) (hp : 0 ≤ T.pl) (hl : ∀ i ∈ c, okL i) : 0 ≤ (stepT T m c).1.pl ∧ (stepT T m c).1.out.length ≤ T.out.length + 1 := by
  unfold stepT
  split
  · split
    · rename_i i hi
      have := doI_fine i { T with pl := T.pl + 1 } m (by show 0 ≤ T.pl + 1; omega) (hl i (List.mem_of_getElem? hi))
      exact this
    · exact ⟨hp, by simp⟩
  · exact ⟨hp, by simp⟩

theorem Fine.step {N : Nat} {A : List (Th × List Ic)} (h : Fine N A) (m : Nat → Int) (i : Nat) : Fine (N + 1) (stepA A m i).1 := by
  unfold stepA
  split
  · exact fun p hp => ⟨(h p hp).1, (h p hp).2.1, (h p hp).2.2.1, by have := (h p hp).2.2.2; omega⟩
  · rename_i q hq
    have hqm : q ∈ A := List.mem_of_getElem? hq
    intro p hp
    rcases List.mem_or_eq_of_mem_set hp with hp | rfl
    · exact ⟨(h p hp).1, (h p hp).2.1, (h p hp).2.2.1, by have := (h p hp).2.2.2; omega⟩
    · have hs := stepT_fine q.1 m q.2 (h q hqm).1 (fun i hi => ((h q hqm).2.2.1 i hi).2)
      exact ⟨hs.1, (h q hqm).2.1, (h q hqm).2.2.1, by have := (h q hqm).2.2.2; have := hs.2; show (stepT q.1 m q.2).1.out.length ≤ _; omega⟩

theorem Fine.flush {N : Nat} {A : List (Th × List Ic)} (h : Fine N A) (m : Nat → Int) (i : Nat) : Fine N (flushA A m i).1 := by
  unfold flushA
  split
  · exact h
  · rename_i q hq
    have hqm : q ∈ A := List.mem_of_getElem? hq
    intro p hp
    rcases List.mem_or_eq_of_mem_set hp with hp | rfl
    · exact h p hp
    · have e1 : (flushT q.1 m).1.pl = q.1.pl ∧ (flushT q.1 m).1.out = q.1.out := by unfold flushT; split <;> exact ⟨rfl, rfl⟩
      exact ⟨by show 0 ≤ (flushT q.1 m).1.pl; rw [e1.1]; exact (h q hqm).1, (h q hqm).2.1, (h q hqm).2.2.1, by show (flushT q.1 m).1.out.length ≤ N; rw [e1.2]; exact (h q hqm).2.2.2⟩

theorem Fine.steps {N : Nat} {A : List (Th × List Ic)} (h : Fine N A) (m : Nat → Int) (i : Nat) : ∀ k, Fine (N + k) (stepsA A m i k).1
  | 0 => h
  | k + 1 => (Fine.steps h m i k).step _ i

theorem Fine.mono {N M : Nat} {A : List (Th × List Ic)} (h : Fine N A) (hNM : N ≤ M) : Fine M A := fun p hp => ⟨(h p hp).1, (h p hp).2.1, (h p hp).2.2.1, Nat.le_trans (h p hp).2.2.2 hNM⟩

theorem Fine.play {N : Nat} {A : List (Th × List Ic)} (h : Fine N A) (m : Nat → Int) (n c : Int) : Fine (N + 60) (playA n c A m).1 := by
  unfold playA
  split
  · exact (h.flush m _).mono (by omega)
  · exact (h.steps m _ _).mono (by omega)

theorem playA_len (n c : Int) (A : List (Th × List Ic)) (m : Nat → Int) : (playA n c A m).1.length = A.length := by
  unfold playA
  split
  · exact flushA_length A m _
  · exact stepsA_length A m _ _

theorem fine_init {cs : List (List Ic)} (h : AccOk cs) (hl : AccL cs) : Fine 0 (cs.map fun c => (Th.init, c)) := by
  intro p hp
  simp at hp
  obtain ⟨c, hc, rfl⟩ := hp
  exact ⟨by simp [Th.init], (h.2 c hc).1, fun i hi => ⟨(h.2 c hc).2 i hi, hl c hc i hi⟩, by simp [Th.init]⟩

/-- One machine plays, with others beside it. -/
theorem part {D Dx : Nat → Prop} {w w1 : World} {bx : Nat} {Ax : List (Th × List Ic)} {mx : Nat → Int} (h : MRep Dx w bx Ax mx) (hc : Chg (fun k _ => D k ∨ w.heap.size ≤ k) w w1) (hd : ∀ k, Dx k → ¬ D k) (hlt : ∀ k, Dx k → k < w.heap.size) : MRep Dx w1 bx Ax mx :=
  h.keep hc (fun k hk _ i e => e.elim (hd k hk) (fun e => by have := hlt k hk; omega))
end Go.Proofs.YtfhkfnoajbbfdaaGreatDoor

/- What is asked of any thread of any machine. -/
namespace Go.Proofs.YtfhkfnoajbbfdaaGreatDoor
open Go.RowKit

def outsOf (A : List (Th × List Ic)) (t : Nat) : List Int := match A[t]? with | some p => p.1.out | none => []

section
variable {D : Nat → Prop} {w : World} {bm : Nat} {A : List (Th × List Ic)} {m : Nat → Int} {ts : List Tr}

set_option maxRecDepth 100000 in
set_option maxHeartbeats 1000000 in
theorem m_out_no (h : MAt D w bm m ts) (i : Nat) (hi : ts.length ≤ i) :
    Calls Tryz.prog 54 #[ptr bm, .int .i64 i] w fun e w' => e = .returned (.slice none 0 0) ∧ w' = w := by
  obtain ⟨bt, cap, h1, h3⟩ := h.slot
  clear h h3
  go_enter Tryz.func54, Tryz.ntmps54
  go_wp2_with fail
  refine (has_no bm bt _ cap i h1 hi).mono ?_
  rintro e w' ⟨rfl, rfl⟩
  go_wp2
  go_ret
  exact ⟨rfl, rfl⟩

set_option maxRecDepth 100000 in
set_option maxHeartbeats 1000000 in
theorem m_state_no (h : MAt D w bm m ts) (i : Nat) (hi : ts.length ≤ i) :
    Calls Tryz.prog 59 #[ptr bm, .int .i64 i] w fun e w' => e = .returned (.int .i64 10) ∧ w' = w := by
  obtain ⟨bt, cap, h1, h3⟩ := h.slot
  clear h h3
  go_enter Tryz.func59, Tryz.ntmps59
  go_wp2_with fail
  refine (has_no bm bt _ cap i h1 hi).mono ?_
  rintro e w' ⟨rfl, rfl⟩
  go_wp2
  go_ret
  exact ⟨rfl, rfl⟩

set_option maxRecDepth 100000 in
set_option maxHeartbeats 1000000 in
theorem p_state_of (v : Int) (i : Nat) (hs : Hid (Calls Tryz.prog 59 #[ptr bm, .int .i64 i] w fun e w' => e = .returned (.int .i64 v) ∧ w' = w)) :
    Calls Tryz.prog 31 #[ptr bm, .int .i64 i] w fun e w' => e = .returned (.int .i64 v) ∧ w' = w := by
  go_enter Tryz.func31, Tryz.ntmps31
  go_wp2_with fail
  refine hs.out.mono ?_
  rintro e w' ⟨rfl, rfl⟩
  go_wp2
  go_ret
  exact ⟨rfl, rfl⟩

set_option maxRecDepth 100000 in
set_option maxHeartbeats 1000000 in
theorem p_out_of (i : Nat) (hs : Hid (Calls Tryz.prog 54 #[ptr bm, .int .i64 i] w fun e w' => e = .returned (.slice none 0 0) ∧ w' = w)) :
    Calls Tryz.prog 26 #[ptr bm, .int .i64 i] w fun e w' => e = .returned (.slice none 0 0) ∧ w' = w := by
  go_enter Tryz.func26, Tryz.ntmps26
  go_wp2_with fail
  refine hs.out.mono ?_
  rintro e w' ⟨rfl, rfl⟩
  go_wp2
  go_ret
  exact ⟨rfl, rfl⟩

theorem p_stateG (h : MRep D w bm A m) (i : Nat) :
    Calls Tryz.prog 31 #[ptr bm, .int .i64 i] w fun e w' => e = .returned (.int .i64 (stOf A i)) ∧ w' = w := by
  obtain ⟨ts, h1, h2⟩ := h
  have hl : ts.length = A.length := by rw [← h2]; simp
  by_cases hi : i < ts.length
  · have e : stOf A i = ts[i].T.st := by unfold stOf; rw [← h2]; simp [hi]
    rw [e]
    exact p_state_of _ i (m_state_yes h1 i hi)
  · have e : stOf A i = 10 := by unfold stOf; rw [List.getElem?_eq_none (by omega)]; rfl
    rw [e]
    exact p_state_of _ i (m_state_no h1 i (by omega))

theorem p_outG {N : Nat} (h : MRep D w bm A m) (hf : Fine N A) (hN : N < 1099511627776) (i : Nat) :
    Calls Tryz.prog 26 #[ptr bm, .int .i64 i] w fun e w' => ∃ a, e = .returned (.slice a (outsOf A i).length (outsOf A i).length) ∧ Below w.heap.size w w' ∧ (outsOf A i = [] ∨ ∃ g, a = some ⟨g, 0, none⟩ ∧ w.heap.size ≤ g ∧ ∀ j (h : j < (outsOf A i).length), w'.cell? ⟨g, j, none⟩ = some (.int .i64 (outsOf A i)[j])) := by
  by_cases hi : i < A.length
  · have hp := List.getElem?_eq_getElem hi
    have e : outsOf A i = (A[i]).1.out := by unfold outsOf; rw [hp]
    rw [e]
    refine (p_outR h i A[i] hp (by have := (hf _ (List.getElem_mem hi)).2.2.2; omega)).mono ?_
    rintro e w' ⟨rfl, h1, h2, h3⟩
    exact ⟨_, rfl, h1, .inr ⟨w.heap.size, rfl, Nat.le_refl _, h3⟩⟩
  · have e : outsOf A i = [] := by unfold outsOf; rw [List.getElem?_eq_none (by omega)]
    rw [e]
    obtain ⟨ts, h1, h2⟩ := h
    have hl : ts.length = A.length := by rw [← h2]; simp
    refine (p_out_of i (m_out_no h1 i (by omega))).mono ?_
    rintro e w' ⟨rfl, rfl⟩
    exact ⟨none, rfl, Below.refl _ _, .inl rfl⟩
end

def zText : ByteArray := ⟨#[116, 104, 114, 101, 97, 100, 10, 115, 116, 111, 114, 101, 32, 51, 32, 48, 32, 55, 10, 97, 100, 100, 32, 114, 48, 32, 114, 48, 32, 49, 10, 111, 117, 116, 32, 114, 48, 10, 106, 109, 112, 32, 48, 10]⟩
def zCode : List Ic := [⟨3, 0, 0, ⟨false, 3⟩, ⟨false, 7⟩, ⟨false, 0⟩, 0⟩, ⟨1, 0, 0, ⟨true, 0⟩, ⟨false, 1⟩, ⟨false, 0⟩, 0⟩, ⟨7, 0, 0, ⟨true, 0⟩, ⟨false, 0⟩, ⟨false, 0⟩, 0⟩, ⟨8, 0, 0, ⟨false, 0⟩, ⟨false, 0⟩, ⟨false, 0⟩, 0⟩]
theorem gz : gCode zText = .ok [zCode] := by kernel_rfl
end Go.Proofs.YtfhkfnoajbbfdaaGreatDoor
