import Derived.Test.YtfhkfnoajbbfdaaGreatDoorPart22
import Derived.Test.YtfhkfnoajbbfdaaGreatDoorPart24
import Derived.Test.YtfhkfnoajbbfdaaGreatDoorPart32
/- The document's lists of words: place, verbs, form. -/
namespace Go.Proofs.YtfhkfnoajbbfdaaGreatDoor
open Go.RowKit

/-- A list of words in a block. -/
def StrsAt (w : World) (b : Nat) (ws : List ByteArray) : Prop := ∀ j (h : j < ws.length), w.cell? ⟨b, j, none⟩ = some (.string ws[j])

theorem StrsAt.keep {w w' : World} {b : Nat} {ws : List ByteArray} (h : StrsAt w b ws) {n : Nat} (hn : b < n) (hw : Below n w w') : StrsAt w' b ws := fun j hj => (hw.cell (p := ⟨b, j, none⟩) hn).trans (h j hj)

section
variable (w : World) (b c : Nat) (ws : List ByteArray) (u : ByteArray)

set_option maxRecDepth 100000 in
set_option maxHeartbeats 1000000 in
theorem cPlace_miss (hl : ws.length < 1000000) (hw : Hid (StrsAt w b ws)) (hs : Hid (∀ j (h : j < ws.length), ws[j] ≠ u)) :
    Calls Tryz.prog 97 #[.slice (some ⟨b, 0, none⟩) ws.length c, .string u] w fun e w' => e = .returned (.int .i64 (-1)) ∧ w' = w := by
  go_enter Tryz.func97, Tryz.ntmps97
  go_wp2
  go_loopw [5] (fun v wr => ∃ k : Nat, k ≤ ws.length ∧ v = .int .i64 k ∧ wr = w) (fun v _ => ws.length - (intOf v).toNat)
  case atStart => exact ⟨0, by omega, rfl, rfl⟩
  case round =>
    obtain ⟨k, hk, rfl, rfl⟩ := hrel
    by_cases hlt : k < ws.length
    · have hlt' : (k : Int) < (ws.length : Int) := by omega
      have hc := hw.out k hlt
      have hne := ba_ne (hs.out k hlt)
      generalize ws[k] = x at hc hne
      go_wp2
      go_roundw
      case rel => exact ⟨k + 1, by omega, by go_num, trivial⟩
      case measure => simp [intOf]; omega
    · have hlt' : ¬ (k : Int) < (ws.length : Int) := by omega
      go_wp2
      go_ret
      exact ⟨rfl, rfl⟩

set_option maxRecDepth 100000 in
set_option maxHeartbeats 1000000 in
theorem cPlace_hit (hl : ws.length < 1000000) (hw : Hid (StrsAt w b ws)) (n : Nat) (hn : n < ws.length) (hs : Hid (∀ j (h : j < n), ws[j] ≠ u)) (he : Hid (ws[n] = u)) :
    Calls Tryz.prog 97 #[.slice (some ⟨b, 0, none⟩) ws.length c, .string u] w fun e w' => e = .returned (.int .i64 n) ∧ w' = w := by
  go_enter Tryz.func97, Tryz.ntmps97
  go_wp2
  go_loopw [5] (fun v wr => ∃ k : Nat, k ≤ n ∧ v = .int .i64 k ∧ wr = w) (fun v _ => ws.length - (intOf v).toNat)
  case atStart => exact ⟨0, by omega, rfl, rfl⟩
  case round =>
    obtain ⟨k, hk, rfl, rfl⟩ := hrel
    have hlt : k < ws.length := by omega
    have hlt' : (k : Int) < (ws.length : Int) := by omega
    have hc := hw.out k hlt
    by_cases hkn : k < n
    · have hne := ba_ne (hs.out k hkn)
      generalize ws[k] = x at hc hne
      go_wp2
      go_roundw
      case rel => exact ⟨k + 1, by omega, by go_num, trivial⟩
      case measure => simp [intOf]; omega
    · obtain rfl : k = n := by omega
      have hu := he.out
      rw [hu] at hc
      go_wp2
      go_ret
      exact ⟨rfl, rfl⟩

set_option maxRecDepth 100000 in
set_option maxHeartbeats 1000000 in
theorem cVerbs_is : Calls Tryz.prog 128 #[] w fun e w' => e = .returned (.slice (some ⟨w.heap.size, 0, none⟩) 12 12) ∧ StrsAt w' w.heap.size ((List.range 12).map opWords) ∧ Below w.heap.size w w' := by
  go_enter Tryz.func128, Tryz.ntmps128
  go_wp2
  go_ret
  refine ⟨rfl, ?_, (Below.refl _ w).alloc (Nat.le_refl _) _⟩
  intro j hj
  rw [World.cell?_alloc_new]
  have hc : j = 0 ∨ j = 1 ∨ j = 2 ∨ j = 3 ∨ j = 4 ∨ j = 5 ∨ j = 6 ∨ j = 7 ∨ j = 8 ∨ j = 9 ∨ j = 10 ∨ j = 11 := by simp at hj; omega
  rcases hc with rfl | rfl | rfl | rfl | rfl | rfl | rfl | rfl | rfl | rfl | rfl | rfl <;> rfl
end
end Go.Proofs.YtfhkfnoajbbfdaaGreatDoor

/- The document's form of an instruction. -/
namespace Go.Proofs.YtfhkfnoajbbfdaaGreatDoor
open Go.RowKit

abbrev cWords : List ByteArray := [wMov, wLoad, wStore, wCas, wXadd, wFence, wOut, wJmp, wJz, wTrap, wHalt]
/-- da, dak, akb, dakbc, dakb, nothing, a, t, at, n, nothing -/
abbrev cForms : List ByteArray := [⟨#[100, 97]⟩, ⟨#[100, 97, 107]⟩, ⟨#[97, 107, 98]⟩, ⟨#[100, 97, 107, 98, 99]⟩, ⟨#[100, 97, 107, 98]⟩, ⟨#[]⟩, ⟨#[97]⟩, ⟨#[116]⟩, ⟨#[97, 116]⟩, ⟨#[110]⟩, ⟨#[]⟩]

section
variable (w : World) (u : ByteArray)

set_option maxRecDepth 100000 in
set_option maxHeartbeats 1000000 in
theorem cForm_verb (n : Nat) (hn : n < 12) (hs : Hid (∀ j, j < n → opWords j ≠ u)) (he : Hid (opWords n = u)) :
    Calls Tryz.prog 131 #[.string u] w fun e w' => e = .returned (.string ⟨#[100, 97, 98]⟩) ∧ Below w.heap.size w w' := by
  go_enter Tryz.func131, Tryz.ntmps131
  go_wp2_with fail
  refine (cVerbs_is w).mono ?_
  rintro e W1 ⟨rfl, h1, b1⟩
  have H1 := hid h1
  have B1 := hid b1
  clear h1 b1
  go_wp2_with fail
  refine (cPlace_hit W1 w.heap.size 12 ((List.range 12).map opWords) u (by simp) H1 n (by simpa using hn) (fun j hj => by simpa using hs.out j hj) (by show ((List.range 12).map opWords)[n]'(by simpa using hn) = u; rw [List.getElem_map, List.getElem_range]; exact he.out)).mono ?_
  rintro e W2 ⟨rfl, rfl⟩
  have h0 : (0 : Int) ≤ (n : Int) := by omega
  go_wp2
  go_ret
  exact ⟨rfl, B1.out⟩

theorem words_new (W : World) (ws : List ByteArray) (t : TypeId) : StrsAt (W.alloc (.cells (ws.map Value.string).toArray t)) W.heap.size ws := by
  intro j hj
  rw [World.cell?_alloc_new]
  simp [List.getElem?_map, List.getElem?_eq_getElem hj]

set_option maxRecDepth 100000 in
set_option maxHeartbeats 1000000 in
theorem cForm_word (hv : Hid (∀ j, j < 12 → opWords j ≠ u)) (n : Nat) (hn : n < cWords.length) (hs : Hid (∀ j (h : j < n), cWords[j] ≠ u)) (he : Hid (cWords[n] = u)) :
    Calls Tryz.prog 131 #[.string u] w fun e w' => e = .returned (.string cForms[n]) ∧ Below w.heap.size w w' := by
  go_enter Tryz.func131, Tryz.ntmps131
  go_wp2_with fail
  refine (cVerbs_is w).mono ?_
  rintro e W1 ⟨rfl, h1, b1⟩
  have H1 := hid h1
  have B1 := hid b1
  clear h1 b1
  go_wp2_with fail
  refine (cPlace_miss W1 w.heap.size 12 ((List.range 12).map opWords) u (by simp) H1 (fun j hj => by simpa using hv.out j (by simpa using hj))).mono ?_
  rintro e W2 ⟨rfl, rfl⟩
  go_wp2_with fail
  generalize hA : W2.alloc _ = WA
  generalize hB : WA.alloc _ = WB
  have sA : WA.heap.size = W2.heap.size + 1 := by rw [← hA]; simp
  have bA : Below W2.heap.size W2 WB := by rw [← hB, ← hA]; exact ((Below.refl _ W2).alloc (Nat.le_refl _) _).alloc (by simp) _
  have aA : StrsAt WB W2.heap.size cWords := by
    intro j hj
    rw [← hB, World.cell?_alloc_past _ _ _ (by omega), ← hA]
    exact words_new W2 cWords 9 j hj
  have aF : StrsAt WB (W2.heap.size + 1) cForms := by
    rw [← hB, ← sA]
    exact words_new WA cForms 9
  have aN := aF n hn
  have B2 := hid (B1.out.trans (bA.mono B1.out.size))
  clear bA hA hB aF H1
  have hc11 : n < 11 := hn
  refine (cPlace_hit WB W2.heap.size 11 cWords u (by decide) aA n hn hs he).mono ?_
  rintro e W3 ⟨rfl, rfl⟩
  have h0 : ¬ (n : Int) < 0 := by omega
  have h11 : (n : Int) < 11 := by omega
  generalize hF : cForms[n]'hn = F at aN
  have HF := hid hF
  clear aA hF
  go_wp2
  go_ret
  exact ⟨by rw [HF.out]; rfl, B2.out⟩

set_option maxRecDepth 100000 in
set_option maxHeartbeats 1000000 in
theorem cForm_none (hv : Hid (∀ j, j < 12 → opWords j ≠ u)) (hs : Hid (∀ j (h : j < cWords.length), cWords[j] ≠ u)) :
    Calls Tryz.prog 131 #[.string u] w fun e w' => e = .returned (.string ⟨#[63]⟩) ∧ Below w.heap.size w w' := by
  go_enter Tryz.func131, Tryz.ntmps131
  go_wp2_with fail
  refine (cVerbs_is w).mono ?_
  rintro e W1 ⟨rfl, h1, b1⟩
  have H1 := hid h1
  have B1 := hid b1
  clear h1 b1
  go_wp2_with fail
  refine (cPlace_miss W1 w.heap.size 12 ((List.range 12).map opWords) u (by simp) H1 (fun j hj => by simpa using hv.out j (by simpa using hj))).mono ?_
  rintro e W2 ⟨rfl, rfl⟩
  go_wp2_with fail
  generalize hA : W2.alloc _ = WA
  generalize hB : WA.alloc _ = WB
  have sA : WA.heap.size = W2.heap.size + 1 := by rw [← hA]; simp
  have bA : Below W2.heap.size W2 WB := by rw [← hB, ← hA]; exact ((Below.refl _ W2).alloc (Nat.le_refl _) _).alloc (by simp) _
  have aA : StrsAt WB W2.heap.size cWords := by
    intro j hj
    rw [← hB, World.cell?_alloc_past _ _ _ (by omega), ← hA]
    exact words_new W2 cWords 9 j hj
  have B2 := hid (B1.out.trans (bA.mono B1.out.size))
  clear bA hA hB H1
  refine (cPlace_miss WB W2.heap.size 11 cWords u (by decide) aA hs).mono ?_
  rintro e W3 ⟨rfl, rfl⟩
  clear aA
  go_wp2
  go_ret
  exact ⟨rfl, B2.out⟩

end
end Go.Proofs.YtfhkfnoajbbfdaaGreatDoor

/- The document's values. -/
namespace Go.Proofs.YtfhkfnoajbbfdaaGreatDoor
open Go.RowKit

/-- A value of the document's, as it lies. -/
def dVal (x : Vl) : Value := .agg #[.bool x.reg, .int .i64 x.v]

/-- What the document makes of a word for a value. -/
def valD (u : ByteArray) : Vl × Bool := match regVal u with
  | some r => (⟨true, r⟩, true)
  | none => (⟨false, (numVal u).getD 0⟩, (numVal u).isSome)

section
variable (w : World) (u : ByteArray)

set_option maxRecDepth 100000 in
set_option maxHeartbeats 1000000 in
theorem cVal_reg (r : Nat) (h : Hid (regVal u = some r)) :
    Calls Tryz.prog 132 #[.string u] w fun e w' => e = .returned (.tuple #[.agg #[.bool true, .int .i64 r], .bool true]) ∧ Below w.heap.size w w' := by
  have K := fun W => cRegister_any W u
  rw [h.out] at K
  simp only [Option.getD_some, Option.isSome_some] at K
  have K := hid K
  have hr : r < 8 := by
    have h := h.out
    unfold regVal at h
    split at h
    · split at h
      · rename_i hc; simp at h; omega
      · simp at h
    · simp at h
  go_enter Tryz.func132, Tryz.ntmps132
  go_wp2_with fail
  refine (K.out _).mono ?_
  rintro e W1 ⟨rfl, rfl⟩
  go_wp2
  refine ⟨rfl, .tuple #[.agg #[.bool true, .int .i64 r], .bool true], ?_, rfl, (Below.refl _ w).alloc (Nat.le_refl _) _⟩
  simp [results, Tryz.results132, go_sem]

set_option maxRecDepth 100000 in
set_option maxHeartbeats 1000000 in
theorem cVal_num (v : Int) (ok : Bool) (h : Hid (regVal u = none)) (h1 : Hid ((numVal u).getD 0 = v)) (h2 : Hid ((numVal u).isSome = ok)) :
    Calls Tryz.prog 132 #[.string u] w fun e w' => e = .returned (.tuple #[.agg #[.bool false, .int .i64 v], .bool ok]) ∧ Below w.heap.size w w' := by
  have K := fun W => cRegister_any W u
  rw [h.out] at K
  simp only [Option.getD_none, Option.isSome_none] at K
  have K := hid K
  have K2 := fun W => cNumber_any W u
  unfold numOut at K2
  rw [h1.out, h2.out] at K2
  have K2 := hid K2
  go_enter Tryz.func132, Tryz.ntmps132
  go_wp2_with fail
  refine (K.out _).mono ?_
  rintro e W1 ⟨rfl, rfl⟩
  go_wp2_with fail
  refine (K2.out _).mono ?_
  rintro e W2 ⟨rfl, rfl⟩
  go_wp2
  refine ⟨rfl, .tuple #[.agg #[.bool false, .int .i64 v], .bool ok], ?_, rfl, (Below.refl _ w).alloc (Nat.le_refl _) _⟩
  simp [results, Tryz.results132, go_sem]

theorem cVal_any : Calls Tryz.prog 132 #[.string u] w fun e w' => e = .returned (.tuple #[dVal (valD u).1, .bool (valD u).2]) ∧ Below w.heap.size w w' := by
  unfold valD
  cases h : regVal u with
  | some r => exact cVal_reg w u r h
  | none => exact cVal_num w u _ _ h rfl rfl
end
end Go.Proofs.YtfhkfnoajbbfdaaGreatDoor
