import Derived.Test.YtfhkfnoajbbfdaaGreatDoorPart22
import Derived.Test.YtfhkfnoajbbfdaaGreatDoorPart09
import Derived.Lib.CutLaws
import Derived.Lib.CountLaws
import Derived.Test.YtfhkfnoajbbfdaaGreatDoorPart28
import Derived.Test.YtfhkfnoajbbfdaaGreatDoorPart30
import Derived.Test.YtfhkfnoajbbfdaaGreatDoorPart31
/- The document's reader: registers, numbers. -/
namespace Go.Proofs.YtfhkfnoajbbfdaaGreatDoor
open Go.RowKit

set_option maxRecDepth 100000 in
set_option maxHeartbeats 1000000 in
theorem cRegister_ok (w : World) (n : Nat) (hn : n < 8) :
    Calls Tryz.prog 133 #[.string ⟨#[114, UInt8.ofNat (48 + n)]⟩] w fun e w' => e = .returned (.tuple #[.int .i64 n, .bool true]) ∧ w' = w := by
  have hc : n = 0 ∨ n = 1 ∨ n = 2 ∨ n = 3 ∨ n = 4 ∨ n = 5 ∨ n = 6 ∨ n = 7 := by omega
  rcases hc with rfl | rfl | rfl | rfl | rfl | rfl | rfl | rfl
  all_goals
    go_enter Tryz.func133, Tryz.ntmps133
    go_wp2
    go_ret2
    exact ⟨rfl, rfl⟩

set_option maxRecDepth 100000 in
set_option maxHeartbeats 1000000 in
theorem cRegister_size (w : World) (s : ByteArray) (hs : s.size ≠ 2) :
    Calls Tryz.prog 133 #[.string s] w fun e w' => e = .returned (.tuple #[.int .i64 0, .bool false]) ∧ w' = w := by
  have hs' : ¬ (s.size : Int) = 2 := by omega
  go_enter Tryz.func133, Tryz.ntmps133
  go_wp2
  go_ret2
  exact ⟨rfl, rfl⟩

set_option maxRecDepth 100000 in
set_option maxHeartbeats 1000000 in
theorem cRegister_first (w : World) (a b : UInt8) (ha : a ≠ 114) :
    Calls Tryz.prog 133 #[.string ⟨#[a, b]⟩] w fun e w' => e = .returned (.tuple #[.int .i64 0, .bool false]) ∧ w' = w := by
  have ha' : ¬ (a.toNat : Int) = 114 := fun h => ha (UInt8.toNat_inj.1 (by simpa using Int.ofNat.inj h))
  go_enter Tryz.func133, Tryz.ntmps133
  go_wp2
  go_ret2
  exact ⟨rfl, rfl⟩

set_option maxRecDepth 100000 in
set_option maxHeartbeats 1000000 in
theorem cRegister_second (w : World) (b : UInt8) (hb : b.toNat < 48 ∨ 56 ≤ b.toNat) :
    Calls Tryz.prog 133 #[.string ⟨#[114, b]⟩] w fun e w' => e = .returned (.tuple #[.int .i64 0, .bool false]) ∧ w' = w := by
  rcases hb with hb | hb
  · have hb' : (((⟨#[114, b]⟩ : ByteArray)[1]'(by show 1 < 2; omega)).toNat : Int) < 48 := by show (b.toNat : Int) < 48; omega
    go_enter Tryz.func133, Tryz.ntmps133
    go_wp2
    go_ret2
    exact ⟨rfl, rfl⟩
  · have hb' : ¬ (((⟨#[114, b]⟩ : ByteArray)[1]'(by show 1 < 2; omega)).toNat : Int) < 48 := by show ¬ (b.toNat : Int) < 48; omega
    have hb2 : (55 : Int) < (((⟨#[114, b]⟩ : ByteArray)[1]'(by show 1 < 2; omega)).toNat : Int) := by show (55 : Int) < (b.toNat : Int); omega
    go_enter Tryz.func133, Tryz.ntmps133
    go_wp2
    go_ret2
    exact ⟨rfl, rfl⟩

theorem cRegister_any (w : World) (s : ByteArray) :
    Calls Tryz.prog 133 #[.string s] w fun e w' => e = .returned (.tuple #[.int .i64 ((regVal s).getD 0), .bool (regVal s).isSome]) ∧ w' = w := by
  obtain ⟨⟨l⟩⟩ := s
  by_cases h : l.length = 2
  · match l, h with
    | [a, b], _ =>
      by_cases ha : a = 114
      · subst ha
        by_cases hb : 48 ≤ b.toNat ∧ b.toNat < 56
        · have e : regVal ⟨⟨[114, b]⟩⟩ = some (b.toNat - 48) := by show (if _ then _ else _) = _; rw [if_pos ⟨rfl, hb⟩]
          rw [e]
          have hbb : b = UInt8.ofNat (48 + (b.toNat - 48)) := by rw [show 48 + (b.toNat - 48) = b.toNat by omega]; simp
          have k := cRegister_ok w (b.toNat - 48) (by omega)
          rw [← hbb] at k
          exact k
        · have e : regVal ⟨⟨[114, b]⟩⟩ = none := by show (if _ then _ else _) = _; rw [if_neg (fun h => hb h.2)]
          rw [e]
          exact cRegister_second w b (by omega)
      · have e : regVal ⟨⟨[a, b]⟩⟩ = none := by show (if _ then _ else _) = _; rw [if_neg (fun h => ha h.1)]
        rw [e]
        exact cRegister_first w a b ha
  · have e : regVal ⟨⟨l⟩⟩ = none := by
      show (match l with | [a, b] => _ | _ => none) = none
      match l, h with
      | [], _ => rfl
      | [_], _ => rfl
      | _ :: _ :: _ :: _, _ => rfl
    rw [e]
    exact cRegister_size w _ (by show l.toArray.size ≠ 2; simpa using h)
end Go.Proofs.YtfhkfnoajbbfdaaGreatDoor

/- A text cut at a byte: what the library's Split makes of it, what the document's cut does. -/
namespace Go.Proofs.YtfhkfnoajbbfdaaGreatDoor

theorem index_at (c : UInt8) : ∀ (l r : List UInt8), c ∉ l → Lib.index (l ++ c :: r) [c] = (l.length : Int)
  | [], r, _ => by rw [List.nil_append, Lib.index]; simp [List.isPrefixOf]
  | b :: l, r, h => by
    have hb : (c == b) = false := by simp at h; simpa using h.1
    have ih := index_at c l r (fun e => h (List.mem_cons_of_mem _ e))
    rw [List.cons_append, Lib.index, ih]
    have e1 : [c].isPrefixOf (b :: (l ++ c :: r)) = false := by simp [List.isPrefixOf, hb]
    have e2 : ((l.length : Int) == -1) = false := by rw [beq_eq_false_iff_ne]; omega
    rw [e1, e2]
    simp

/-- A text at a byte. -/
def cutF (c : UInt8) : List UInt8 → List (List UInt8)
  | [] => [[]]
  | b :: l => if b = c then [] :: cutF c l else match cutF c l with
    | [] => [[b]]
    | p :: ps => (b :: p) :: ps

theorem cutF_ne (c : UInt8) (l : List UInt8) : cutF c l ≠ [] := by
  cases l with
  | nil => simp [cutF]
  | cons b l =>
    unfold cutF
    split
    · simp
    · split <;> simp

theorem cutF_sep (c : UInt8) (l : List UInt8) : cutF c (l ++ [c]) = cutF c l ++ [[]] := by
  induction l with
  | nil => simp [cutF]
  | cons b l ih =>
    rw [List.cons_append]
    unfold cutF
    rw [ih]
    split
    · simp
    · cases h : cutF c l with
      | nil => exact absurd h (cutF_ne c l)
      | cons p ps => simp

theorem cutF_snoc (c b : UInt8) (hb : b ≠ c) (l : List UInt8) : ∃ ps p, cutF c l = ps ++ [p] ∧ cutF c (l ++ [b]) = ps ++ [p ++ [b]] := by
  induction l with
  | nil => exact ⟨[], [], by simp [cutF], by simp [cutF, hb]⟩
  | cons a l ih =>
    obtain ⟨ps, p, h1, h2⟩ := ih
    rw [List.cons_append]
    unfold cutF
    rw [h1, h2]
    by_cases ha : a = c
    · simp only [ha, if_true]
      exact ⟨[] :: ps, p, by simp, by simp⟩
    · simp only [ha, if_false]
      cases ps with
      | nil => exact ⟨[], a :: p, by simp, by simp⟩
      | cons q qs => exact ⟨(a :: q) :: qs, p, by simp, by simp⟩

theorem cutF_none (c : UInt8) (l : List UInt8) (h : c ∉ l) : cutF c l = [l] := by
  induction l with
  | nil => rfl
  | cons b l ih =>
    have hb : b ≠ c := fun e => h (by simp [e])
    unfold cutF
    rw [ih (fun e => h (List.mem_cons_of_mem _ e)), if_neg hb]

theorem cutF_hit (c : UInt8) (a r : List UInt8) (h : c ∉ a) : cutF c (a ++ c :: r) = a :: cutF c r := by
  induction a with
  | nil => simp [cutF]
  | cons b a ih =>
    have hb : b ≠ c := fun e => h (by simp [e])
    rw [List.cons_append, cutF, ih (fun e => h (List.mem_cons_of_mem _ e)), if_neg hb]

theorem index_miss (c : UInt8) : ∀ (l : List UInt8), c ∉ l → Lib.index l [c] = -1
  | [], _ => by rw [Lib.index]; simp
  | b :: l, h => by
    have hb : (c == b) = false := by simp at h; simpa using h.1
    rw [Lib.index, index_miss c l (fun e => h (List.mem_cons_of_mem _ e))]
    have e1 : [c].isPrefixOf (b :: l) = false := by simp [List.isPrefixOf, hb]
    simp [e1]

theorem list_cut (c : UInt8) (l : List UInt8) : c ∉ l ∨ ∃ a r, l = a ++ c :: r ∧ c ∉ a := by
  induction l with
  | nil => exact .inl (by simp)
  | cons b l ih =>
    by_cases hb : b = c
    · exact .inr ⟨[], l, by simp [hb], by simp⟩
    · rcases ih with h | ⟨a, r, h1, h2⟩
      · exact .inl (by simp; exact ⟨fun e => hb e.symm, h⟩)
      · exact .inr ⟨b :: a, r, by simp [h1], by simp; exact ⟨fun e => hb e.symm, h2⟩⟩

theorem split_cutF (c : UInt8) : ∀ (n : Nat) (l : List UInt8), l.length ≤ n → Lib.splitB ⟨#[c]⟩ 0 (Lib.countB ⟨l.toArray⟩ ⟨#[c]⟩) ⟨l.toArray⟩ = (cutF c l).map (fun x => ⟨x.toArray⟩) := by
  intro n
  induction n with
  | zero =>
    intro l hl
    obtain rfl : l = [] := List.length_eq_zero_iff.1 (by omega)
    have hm : Lib.indexB ⟨([] : List UInt8).toArray⟩ ⟨#[c]⟩ = -1 := index_miss c [] (by simp)
    rw [Lib.splitB_miss _ _ _ _ hm, cutF_none c [] (by simp)]
    simp
  | succ n ih =>
    intro l hl
    rcases list_cut c l with h | ⟨a, r, rfl, h⟩
    · have hm : Lib.indexB ⟨l.toArray⟩ ⟨#[c]⟩ = -1 := index_miss c l h
      rw [Lib.splitB_miss _ _ _ _ hm, cutF_none c l h]
      simp
    · have hi : Lib.indexB ⟨(a ++ c :: r).toArray⟩ ⟨#[c]⟩ = (a.length : Nat) := index_at c a r h
      have e1 : ByteArray.extract ⟨(a ++ c :: r).toArray⟩ (a.length + (ByteArray.mk #[c]).size) (ByteArray.mk (a ++ c :: r).toArray).size = ⟨r.toArray⟩ := by
        apply ByteArray.ext
        apply Array.ext'
        have hs : (ByteArray.mk (a ++ c :: r).toArray).size = a.length + (r.length + 1) := by show (a ++ c :: r).toArray.size = _; simp
        have h1 : (ByteArray.mk #[c]).size = 1 := rfl
        rw [hs, h1, ByteArray.data_extract, show a.length + (r.length + 1) = a.length + 1 + r.length by omega]
        simp
      have e2 : ByteArray.extract ⟨(a ++ c :: r).toArray⟩ 0 (a.length + 0) = ⟨a.toArray⟩ := by
        apply ByteArray.ext
        apply Array.ext'
        rw [ByteArray.data_extract]
        simp
      rw [Lib.countB_hit _ ⟨#[c]⟩ a.length (Nat.le_refl 1) hi, e1, Nat.add_comm 1, Lib.splitB_hit _ _ _ _ a.length hi, e1, e2, cutF_hit c a r h, ih r (by simp at hl; omega)]
      simp

/-- What strings.Split makes of a line is what the document cuts it into. -/
theorem wordsOf_cutF (l : List UInt8) : wordsOf l = (cutF 32 l).map (fun x => ⟨x.toArray⟩) := split_cutF 32 _ l (Nat.le_refl _)
end Go.Proofs.YtfhkfnoajbbfdaaGreatDoor

/- Which words are numbers, by their digits. -/
namespace Go.Proofs.YtfhkfnoajbbfdaaGreatDoor
open Go.RowKit

/-! What the library's reader makes of digits. -/

theorem parse_all : ∀ (l : List UInt8) (acc : Nat), Dig l → acc ≤ 18446744073709551615 →
    (((acc : Int) * 10 ^ l.length + decV l ≤ 18446744073709551615 ∧ ∃ u : Nat, Lib.parseUintM 18446744073709551615 acc l = .ok u ∧ (u : Int) = (acc : Int) * 10 ^ l.length + decV l) ∨
     (18446744073709551615 < (acc : Int) * 10 ^ l.length + decV l ∧ Lib.parseUintM 18446744073709551615 acc l = .range))
  | [], acc, _, h => .inl ⟨by simp [decV]; omega, acc, rfl, by simp [decV]⟩
  | c :: r, acc, hd, hb => by
    have hc := hd c (List.mem_cons_self)
    have hd' : Dig r := fun b hb => hd b (List.mem_cons_of_mem _ hb)
    have hi := decV_in hd'
    have hp : (0 : Int) < 10 ^ r.length := Int.pow_pos (by decide)
    obtain ⟨d, hdd⟩ : ∃ d : Nat, d = c.toNat - 48 := ⟨_, rfl⟩
    have hval : (acc : Int) * 10 ^ (c :: r).length + decV (c :: r) = ((acc * 10 + d : Nat) : Int) * 10 ^ r.length + decV r := by
      rw [decV_cons, List.length_cons, Int.pow_succ]
      have hcast : ((acc * 10 + d : Nat) : Int) = (acc : Int) * 10 + ((c.toNat : Int) - 48) := by omega
      rw [hcast]
      generalize (10 : Int) ^ r.length = e
      rw [Int.add_mul, Int.mul_assoc, Int.mul_comm 10 e]
      omega
    rw [hval]
    unfold Lib.parseUintM
    rw [if_pos hc, ← hdd]
    have hlow : ((acc * 10 + d : Nat) : Int) ≤ ((acc * 10 + d : Nat) : Int) * 10 ^ r.length := by
      have := Int.mul_le_mul_of_nonneg_left (show (1 : Int) ≤ 10 ^ r.length by omega) (show (0 : Int) ≤ ((acc * 10 + d : Nat) : Int) by omega)
      omega
    by_cases h1 : 1844674407370955162 ≤ acc
    · rw [if_pos h1]
      exact .inr ⟨by omega, rfl⟩
    rw [if_neg h1]
    by_cases h2 : 18446744073709551615 < acc * 10 + d
    · rw [if_pos h2]
      exact .inr ⟨by omega, rfl⟩
    rw [if_neg h2]
    exact parse_all r (acc * 10 + d) hd' (by omega)

theorem dig_all {l : List UInt8} : l.all digit = true ↔ Dig l := by
  simp only [List.all_eq_true, digit, Bool.and_eq_true, decide_eq_true_eq]
  exact Iff.rfl

theorem behind_pos {l : List UInt8} (h : l.head? ≠ some 45) : (behind ⟨l.toArray⟩).data.toList = l := by
  unfold behind Lib.trimPrefix
  cases l with
  | nil => rfl
  | cons a l =>
    have ha : ((45 : UInt8) == a) = false := by simpa using fun e : (45 : UInt8) = a => h (by simp [e])
    simp [Lib.hasPrefix, List.isPrefixOf, ha]

theorem behind_neg {l : List UInt8} : (behind ⟨(45 :: l).toArray⟩).data.toList = l := by
  unfold behind Lib.trimPrefix
  simp [Lib.hasPrefix, List.isPrefixOf]

theorem numVal_pos_some {l : List UInt8} (h0 : l ≠ []) (hd : Dig l) (hn : l.head? = some 48 → l = [48]) (hv : decV l < 9223372036854775808) : numVal ⟨l.toArray⟩ = some (decV l) := by
  have h45 : l.head? ≠ some 45 := by
    cases l with
    | nil => simp
    | cons a l =>
      have := hd a List.mem_cons_self
      intro e
      simp at e
      subst e
      simp at this
  have hN : isNumeral ⟨l.toArray⟩ = true := by
    unfold isNumeral
    rw [behind_pos h45, if_neg h0, if_neg (by rintro ⟨e1, e2⟩; exact e2 (by rw [hn e1])), dig_all]
    exact hd
  unfold numVal
  rw [if_pos hN]
  show (match Lib.parseIntB 64 l with | .ok v => some v | _ => none) = _
  have hr := decV_in hd
  cases l with
  | nil => exact absurd rfl h0
  | cons a r =>
    have ha := hd a List.mem_cons_self
    have hne : ¬ (a.toNat = 43 ∨ a.toNat = 45) := by omega
    rcases parse_all (a :: r) 0 hd (by omega) with ⟨h1, u, h2, h3⟩ | ⟨h1, _⟩
    · unfold Lib.parseIntB
      simp only [if_neg hne]
      have e : Lib.parseUintB 64 (a :: r) = .ok u := by unfold Lib.parseUintB; rw [if_neg h0]; exact h2
      rw [e]
      have hu : (u : Int) = decV (a :: r) := by rw [h3]; simp
      have hnn : ¬ a.toNat = 45 := by omega
      simp only [hnn, not_false_eq_true, true_and, false_and, if_false]
      rw [if_neg (by omega), hu]
    · simp at h1; omega

theorem numVal_neg_some {l : List UInt8} (h0 : l ≠ []) (hd : Dig l) (hn : l.head? ≠ some 48) (hv : decV l ≤ 9223372036854775808) : numVal ⟨(45 :: l).toArray⟩ = some (-(decV l)) := by
  have hN : isNumeral ⟨(45 :: l).toArray⟩ = true := by
    unfold isNumeral
    rw [behind_neg, if_neg h0, if_neg (fun e => hn e.1), dig_all]
    exact hd
  unfold numVal
  rw [if_pos hN]
  show (match Lib.parseIntB 64 (45 :: l) with | .ok v => some v | _ => none) = _
  have hr := decV_in hd
  rcases parse_all l 0 hd (by omega) with ⟨h1, u, h2, h3⟩ | ⟨h1, _⟩
  · unfold Lib.parseIntB
    have e45 : (45 : UInt8).toNat = 45 := rfl
    simp only [e45, or_true, if_true]
    have e : Lib.parseUintB 64 l = .ok u := by unfold Lib.parseUintB; rw [if_neg h0]; exact h2
    rw [e]
    have hu : (u : Int) = decV l := by rw [h3]; simp
    simp only [not_true_eq_false, false_and, if_false, true_and]
    rw [if_neg (by omega), hu]
  · simp at h1; omega

theorem numVal_none_numeral {s : ByteArray} (h : isNumeral s = false) : numVal s = none := by unfold numVal; simp [h]

theorem numVal_pos_none {l : List UInt8} (h45 : l.head? ≠ some 45) (h : Dig l → l ≠ [] → (l.head? = some 48 → l = [48]) → 9223372036854775808 ≤ decV l) : numVal ⟨l.toArray⟩ = none := by
  by_cases h0 : l = []
  · exact numVal_none_numeral (by unfold isNumeral; rw [behind_pos h45, if_pos h0])
  by_cases hn : l.head? = some 48 ∧ (⟨l.toArray⟩ : ByteArray) ≠ ⟨#[48]⟩
  · exact numVal_none_numeral (by unfold isNumeral; rw [behind_pos h45, if_neg h0, if_pos hn])
  by_cases hd : Dig l
  · have hv := h hd h0 (fun e => by
      have : (⟨l.toArray⟩ : ByteArray) = ⟨#[48]⟩ := Classical.byContradiction fun e2 => hn ⟨e, e2⟩
      have e3 : l.toArray = #[48] := congrArg ByteArray.data this
      have := congrArg Array.toList e3
      simpa using this)
    unfold numVal
    split
    · show (match Lib.parseIntB 64 l with | .ok v => some v | _ => none) = _
      cases l with
      | nil => exact absurd rfl h0
      | cons a r =>
        have ha := hd a List.mem_cons_self
        have hne : ¬ (a.toNat = 43 ∨ a.toNat = 45) := by omega
        unfold Lib.parseIntB
        simp only [if_neg hne]
        have hU : Lib.parseUintB 64 (a :: r) = Lib.parseUintM 18446744073709551615 0 (a :: r) := by unfold Lib.parseUintB; rw [if_neg h0]
        rw [hU]
        rcases parse_all (a :: r) 0 hd (by omega) with ⟨h1, u, h2, h3⟩ | ⟨h1, h2⟩
        · rw [h2]
          have hu : (u : Int) = decV (a :: r) := by rw [h3]; simp
          have hnn : ¬ a.toNat = 45 := by omega
          simp only [hnn, not_false_eq_true, true_and]
          rw [if_pos (by omega)]
        · rw [h2]
    · rfl
  · refine numVal_none_numeral ?_
    unfold isNumeral
    rw [behind_pos h45, if_neg h0, if_neg hn]
    exact Bool.eq_false_iff.2 (fun e => hd (dig_all.1 e))

theorem numVal_neg_none {l : List UInt8} (h : Dig l → l ≠ [] → l.head? ≠ some 48 → 9223372036854775808 < decV l) : numVal ⟨(45 :: l).toArray⟩ = none := by
  by_cases h0 : l = []
  · exact numVal_none_numeral (by unfold isNumeral; rw [behind_neg, if_pos h0])
  by_cases hn : l.head? = some 48
  · refine numVal_none_numeral ?_
    have hne : (⟨(45 :: l).toArray⟩ : ByteArray) ≠ ⟨#[48]⟩ := fun e => by
      have e3 : (45 :: l).toArray = #[48] := congrArg ByteArray.data e
      have := congrArg Array.toList e3
      simp at this
    unfold isNumeral
    rw [behind_neg, if_neg h0, if_pos ⟨hn, hne⟩]
  by_cases hd : Dig l
  · have hv := h hd h0 hn
    unfold numVal
    split
    · show (match Lib.parseIntB 64 (45 :: l) with | .ok v => some v | _ => none) = _
      unfold Lib.parseIntB
      have e45 : (45 : UInt8).toNat = 45 := rfl
      simp only [e45, or_true, if_true]
      have hU : Lib.parseUintB 64 l = Lib.parseUintM 18446744073709551615 0 l := by unfold Lib.parseUintB; rw [if_neg h0]
      rw [hU]
      rcases parse_all l 0 hd (by omega) with ⟨h1, u, h2, h3⟩ | ⟨h1, h2⟩
      · rw [h2]
        have hu : (u : Int) = decV l := by rw [h3]; simp
        simp only [not_true_eq_false, false_and, if_false, true_and]
        rw [if_pos (by omega)]
      · rw [h2]
    · rfl
  · refine numVal_none_numeral ?_
    unfold isNumeral
    rw [behind_neg, if_neg h0, if_neg (fun e => hn e.1)]
    exact Bool.eq_false_iff.2 (fun e => hd (dig_all.1 e))

theorem decV_low {a : UInt8} {l : List UInt8} (hd : Dig (a :: l)) (h : a ≠ 48) : 10 ^ l.length ≤ decV (a :: l) := by
  have ha := hd a List.mem_cons_self
  have hi := decV_in (l := l) (fun b hb => hd b (List.mem_cons_of_mem _ hb))
  have h49 : 49 ≤ a.toNat := by
    have : a.toNat ≠ 48 := fun e => h (UInt8.toNat_inj.1 e)
    omega
  rw [decV_cons]
  have hp : (0 : Int) < 10 ^ l.length := Int.pow_pos (by decide)
  have := Int.mul_le_mul_of_nonneg_right (show (1 : Int) ≤ (a.toNat : Int) - 48 by omega) (Int.le_of_lt hp)
  omega
end Go.Proofs.YtfhkfnoajbbfdaaGreatDoor

/- The document's numbers: they are those that the program reads. -/
namespace Go.Proofs.YtfhkfnoajbbfdaaGreatDoor
open Go.RowKit

theorem first_bad (t : ByteArray) : (∀ j (h : j < t.size), 48 ≤ t[j].toNat ∧ t[j].toNat ≤ 57) ∨ ∃ k0, ∃ h : k0 < t.size, (∀ j (h : j < t.size), j < k0 → 48 ≤ t[j].toNat ∧ t[j].toNat ≤ 57) ∧ (t[k0].toNat < 48 ∨ 57 < t[k0].toNat) := by
  have : ∀ n, (∀ j (h : j < t.size), j < n → 48 ≤ t[j].toNat ∧ t[j].toNat ≤ 57) ∨ ∃ k0, ∃ h : k0 < t.size, (∀ j (h : j < t.size), j < k0 → 48 ≤ t[j].toNat ∧ t[j].toNat ≤ 57) ∧ (t[k0].toNat < 48 ∨ 57 < t[k0].toNat) := by
    intro n
    induction n with
    | zero => exact .inl (fun j h hj => absurd hj (Nat.not_lt_zero _))
    | succ n ih =>
      rcases ih with ih | ih
      · by_cases hn : n < t.size
        · by_cases hg : 48 ≤ t[n].toNat ∧ t[n].toNat ≤ 57
          · left
            intro j h hj
            by_cases e : j = n
            · subst e; exact hg
            · exact ih j h (by omega)
          · exact .inr ⟨n, hn, ih, by omega⟩
        · exact .inl (fun j h hj => ih j h (by omega))
      · exact .inr ih
  rcases this t.size with h | h
  · exact .inl (fun j hj => h j hj hj)
  · exact .inr h

theorem dig_idx {l : List UInt8} : (∀ j (h : j < (⟨l.toArray⟩ : ByteArray).size), 48 ≤ (⟨l.toArray⟩ : ByteArray)[j].toNat ∧ (⟨l.toArray⟩ : ByteArray)[j].toNat ≤ 57) ↔ Dig l := by
  constructor
  · intro h b hb
    obtain ⟨j, hj, rfl⟩ := List.mem_iff_getElem.1 hb
    have := h j (by show j < l.toArray.size; simpa using hj)
    simpa [ByteArray.getElem_eq_getElem_data] using this
  · intro h j hj
    have hj' : j < l.length := by have : j < l.toArray.size := hj; simpa using this
    have := h l[j] (List.getElem_mem hj')
    simpa [ByteArray.getElem_eq_getElem_data] using this

theorem bytesLess_total : ∀ (x y : List UInt8), x.length = y.length → Op.bytesLess x y = false → x ≠ y → Op.bytesLess y x = true
  | [], [], _, _, h => absurd rfl h
  | [], _ :: _, h, _, _ => by simp at h
  | _ :: _, [], h, _, _ => by simp at h
  | a :: x, b :: y, h, h1, h2 => by
    have hl : x.length = y.length := by simpa using h
    simp only [Op.bytesLess, Bool.or_eq_false_iff, decide_eq_false_iff_not, Bool.and_eq_false_iff, beq_eq_false_iff_ne] at h1
    simp only [Op.bytesLess, Bool.or_eq_true, decide_eq_true_eq, Bool.and_eq_true, beq_iff_eq]
    obtain ⟨h3, h4⟩ := h1
    by_cases e : a = b
    · subst e
      right
      refine ⟨rfl, bytesLess_total x y hl ?_ (fun e => h2 (by rw [e]))⟩
      rcases h4 with h4 | h4
      · exact absurd rfl h4
      · exact h4
    · left
      rw [UInt8.lt_iff_toNat_lt] at *
      have : a.toNat ≠ b.toNat := fun e' => e (UInt8.toNat_inj.1 e')
      omega

theorem wrap_in {v : Int} (h1 : -9223372036854775808 ≤ v) (h2 : v < 9223372036854775808) : wrap64 v = v := by unfold wrap64; omega

theorem mk_size (l : List UInt8) : (⟨l.toArray⟩ : ByteArray).size = l.length := by show l.toArray.size = _; simp
theorem mk_list (l : List UInt8) : (⟨l.toArray⟩ : ByteArray).toList = l := by rw [ByteArray.toList_eq]
theorem mk_head (a : UInt8) (l : List UInt8) (h : 0 < (⟨(a :: l).toArray⟩ : ByteArray).size) : (⟨(a :: l).toArray⟩ : ByteArray)[0] = a := by simp [ByteArray.getElem_eq_getElem_data]

theorem mostP_dig : Dig mostP := by intro b hb; simp at hb; rcases hb with rfl | rfl | rfl | rfl | rfl | rfl | rfl | rfl | rfl | rfl | rfl | rfl | rfl | rfl | rfl | rfl | rfl | rfl | rfl <;> decide
theorem mostN_dig : Dig mostN := by intro b hb; simp at hb; rcases hb with rfl | rfl | rfl | rfl | rfl | rfl | rfl | rfl | rfl | rfl | rfl | rfl | rfl | rfl | rfl | rfl | rfl | rfl | rfl <;> decide
theorem mostP_val : decV mostP = 9223372036854775807 := by decide
theorem mostN_val : decV mostN = 9223372036854775808 := by decide

abbrev numOut (s : ByteArray) : Ending := .returned (.tuple #[.int .i64 ((numVal s).getD 0), .bool (numVal s).isSome])

theorem num_some {s : ByteArray} {v : Int} (h : numVal s = some v) : numOut s = .returned (.tuple #[.int .i64 v, .bool true]) := by simp [numOut, h]
theorem num_none {s : ByteArray} (h : numVal s = none) : numOut s = .returned (.tuple #[.int .i64 0, .bool false]) := by simp [numOut, h]

theorem pow_mono {m n : Nat} (h : m ≤ n) : (10 : Int) ^ m ≤ 10 ^ n := by
  obtain ⟨k, rfl⟩ := Nat.exists_eq_add_of_le h
  rw [Int.pow_add]
  have h1 : (0 : Int) < 10 ^ m := Int.pow_pos (by decide)
  have h2 : (0 : Int) < 10 ^ k := Int.pow_pos (by decide)
  have := Int.mul_le_mul_of_nonneg_left (show (1 : Int) ≤ 10 ^ k by omega) (Int.le_of_lt h1)
  omega

theorem cNumber_pos (w : World) (a : UInt8) (r : List UInt8) (ha : a ≠ 45) :
    Calls Tryz.prog 126 #[.string ⟨(a :: r).toArray⟩] w fun e w' => e = numOut ⟨(a :: r).toArray⟩ ∧ w' = w := by
  have hsz : (⟨(a :: r).toArray⟩ : ByteArray).size = r.length + 1 := by rw [mk_size]; rfl
  have h0 : 0 < (⟨(a :: r).toArray⟩ : ByteArray).size := by omega
  have hd0 := mk_head a r h0
  have hm : ¬ ((⟨(a :: r).toArray⟩ : ByteArray)[0].toNat : Int) = 45 := by rw [hd0]; intro e; exact ha (UInt8.toNat_inj.1 (by simpa using Int.ofNat.inj e))
  have h45 : (a :: r).head? ≠ some 45 := by simpa using ha
  have hT := mk_list (a :: r)
  have hD := dig_idx (l := a :: r)
  have hF := first_bad ⟨(a :: r).toArray⟩
  by_cases hlong : 19 < r.length + 1
  · rw [num_none (numVal_pos_none h45 fun hd _ hn => ?_)]
    · exact cN_long w _ (by omega) hm
    · have h48 : a ≠ 48 := fun e => by
        have := hn (by simp [e])
        simp at this
        rw [this.2] at hlong
        simp at hlong
      have := decV_low hd h48
      have := pow_mono (show 19 ≤ r.length by omega)
      have e19 : (10 : Int) ^ 19 = 10000000000000000000 := by decide
      omega
  by_cases hz : a = 48
  · subst hz
    by_cases hr : r = []
    · subst hr
      rw [num_some (numVal_pos_some (by simp) (by intro b hb; simp at hb; subst hb; decide) (fun _ => rfl) (by decide))]
      exact cN_zero w
    · have hl : 0 < r.length := List.length_pos_iff.2 hr
      rw [num_none (numVal_pos_none h45 fun _ _ hn => by have := hn rfl; simp at this; exact absurd this hr)]
      have hz' : ((⟨(48 :: r).toArray⟩ : ByteArray)[0].toNat : Int) = 48 := by rw [hd0]; rfl
      by_cases h19 : r.length + 1 = 19
      · exact cN_nought19 w _ (by omega) (by rw [hT]; simp [Op.bytesLess]) hz'
      · exact cN_nought18 w _ (by omega) (by omega) hz'
  have hz' : ¬ ((⟨(a :: r).toArray⟩ : ByteArray)[0].toNat : Int) = 48 := by rw [hd0]; intro e; exact hz (UInt8.toNat_inj.1 (by simpa using Int.ofNat.inj e))
  have hn48 : (a :: r).head? = some 48 → a :: r = [48] := fun e => by simp at e; exact absurd e hz
  by_cases h19 : r.length + 1 = 19
  · by_cases hb : Op.bytesLess (a :: r) mostP = true
    · rcases hF with hF | ⟨k0, hk0, hF, hbad⟩
      · have hd := hD.1 hF
        have hlt := (less_dec (a :: r) mostP hd mostP_dig (by simpa using h19)).1 hb
        rw [mostP_val] at hlt
        have hin := decV_in hd
        rw [num_some (numVal_pos_some (by simp) hd hn48 (by omega))]
        have k := cN_digits19 w ⟨(a :: r).toArray⟩ (by omega) (by rw [hT]; exact hb) hm hz' hF
        rw [show (⟨(a :: r).toArray⟩ : ByteArray).data.toList = a :: r from rfl, wrap_in (by omega) (by omega)] at k
        exact k
      · have hnd : ¬ Dig (a :: r) := fun hd => by have := hD.2 hd k0 hk0; omega
        rw [num_none (numVal_pos_none h45 fun hd _ _ => absurd hd hnd)]
        exact cN_bad19 w _ h0 (by omega) (by rw [hT]; exact hb) hm hz' k0 hk0 hF hbad
    · have hb' : Op.bytesLess (a :: r) mostP = false := by simpa using hb
      by_cases he : a :: r = mostP
      · have hd : Dig (a :: r) := by rw [he]; exact mostP_dig
        rw [num_some (numVal_pos_some (by simp) hd hn48 (by rw [he, mostP_val]; decide))]
        have k := cN_most w ⟨(a :: r).toArray⟩ (by omega) (by rw [hT]; exact he) hm hz' (hD.2 hd)
        rw [decK_all _ _ rfl, show (⟨(a :: r).toArray⟩ : ByteArray).data.toList = a :: r from rfl, wrap_in (by rw [he, mostP_val]; decide) (by rw [he, mostP_val]; decide)] at k
        exact k
      · rw [num_none (numVal_pos_none h45 fun hd _ _ => ?_)]
        · exact cN_big w _ (by omega) hm (by rw [hT]; exact hb') (by rw [hT]; simpa using he)
        · have := (less_dec mostP (a :: r) mostP_dig hd (by simpa using h19.symm)).1 (bytesLess_total _ _ (by simpa using h19) hb' he)
          rw [mostP_val] at this
          omega
  · rcases hF with hF | ⟨k0, hk0, hF, hbad⟩
    · have hd := hD.1 hF
      have hin := decV_in hd
      have hp := pow_mono (show (a :: r).length ≤ 18 by simp; omega)
      have e18 : (10 : Int) ^ 18 = 1000000000000000000 := by decide
      rw [num_some (numVal_pos_some (by simp) hd hn48 (by omega))]
      have k := cNumber_short w ⟨(a :: r).toArray⟩ h0 (by omega) hm hz' hF
      rw [show (⟨(a :: r).toArray⟩ : ByteArray).data.toList = a :: r from rfl, wrap_in (by omega) (by omega)] at k
      exact k
    · have hnd : ¬ Dig (a :: r) := fun hd => by have := hD.2 hd k0 hk0; omega
      rw [num_none (numVal_pos_none h45 fun hd _ _ => absurd hd hnd)]
      exact cN_bad18 w _ h0 (by omega) hm hz' k0 hk0 hF hbad

theorem neg_tail (r : List UInt8) : (⟨(45 :: r).toArray⟩ : ByteArray).extract 1 (⟨(45 :: r).toArray⟩ : ByteArray).size = ⟨r.toArray⟩ := by
  apply ByteArray.ext
  apply Array.ext'
  rw [mk_size, ByteArray.data_extract]
  simp

theorem cNumber_negC (w : World) (s : ByteArray) (a : UInt8) (r' : List UInt8) (hs : (⟨(45 :: a :: r').toArray⟩ : ByteArray) = s) (hlong : ¬ 19 < (a :: r').length) :
    Calls Tryz.prog 126 #[.string s] w fun e w' => e = numOut s ∧ w' = w := by
  have hsz : s.size = (a :: r').length + 1 := by rw [← hs, mk_size]; rfl
  have hl : 0 < (a :: r').length := by simp
  have h0 : 1 < s.size := by omega
  have hm : (s[0].toNat : Int) = 45 := by subst hs; rw [mk_head]; rfl
  have hX : s.extract 1 s.size = ⟨(a :: r').toArray⟩ := by rw [← hs]; exact neg_tail _
  have hT : (s.extract 1 s.size).toList = a :: r' := by rw [hX]; exact mk_list _
  have hxs : (s.extract 1 s.size).size = (a :: r').length := by rw [hX]; exact mk_size _
  have hD : (∀ j (h : j < (s.extract 1 s.size).size), 48 ≤ (s.extract 1 s.size)[j].toNat ∧ (s.extract 1 s.size)[j].toNat ≤ 57) ↔ Dig (a :: r') := by rw [hX]; exact dig_idx
  have hF := first_bad (s.extract 1 s.size)
  have hx : 0 < (s.extract 1 s.size).size := by omega
  have hx0 : (s.extract 1 s.size)[0] = a := by simp only [hX]; exact mk_head a r' (by rw [mk_size]; simp)
  by_cases hz : a = 48
  · subst hz
    have hnone : numVal s = none := by rw [← hs]; exact numVal_neg_none fun _ _ hn => absurd rfl hn
    rw [num_none hnone]
    have hz' : ((s.extract 1 s.size)[0].toNat : Int) = 48 := by rw [hx0]; rfl
    by_cases h19 : (48 :: r').length = 19
    · exact cM_nought19 w s h0 hm (by omega) (by rw [hT]; simp [Op.bytesLess]) hx hz'
    · exact cM_nought18 w s h0 hm (by omega) hx hz'
  have hz' : ¬ ((s.extract 1 s.size)[0].toNat : Int) = 48 := by rw [hx0]; intro e; exact hz (UInt8.toNat_inj.1 (by simpa using Int.ofNat.inj e))
  have hn48 : (a :: r').head? ≠ some 48 := by simpa using hz
  have hall : decK (s.extract 1 s.size) (s.size - 1) = decV (a :: r') := by
    rw [decK_all _ _ (by omega), hX]
  by_cases h19 : (a :: r').length = 19
  · by_cases hb : Op.bytesLess (a :: r') mostN = true
    · rcases hF with hF | ⟨k0, hk0, hF, hbad⟩
      · have hd := hD.1 hF
        have hlt := (less_dec (a :: r') mostN hd mostN_dig (by simpa using h19)).1 hb
        rw [mostN_val] at hlt
        have hin := decV_in hd
        have hv : numVal s = some (-(decV (a :: r'))) := by rw [← hs]; exact numVal_neg_some (by simp) hd hn48 (by omega)
        rw [num_some hv]
        have k := cM_digits19 w s h0 hm (by omega) (by rw [hT]; exact hb) hx hz' (hD.2 hd)
        rw [hall, wrap_in (by omega) (by omega)] at k
        exact k
      · have hnd : ¬ Dig (a :: r') := fun hd => by have := hD.2 hd k0 hk0; omega
        have hv : numVal s = none := by rw [← hs]; exact numVal_neg_none fun hd _ _ => absurd hd hnd
        rw [num_none hv]
        exact cM_bad19 w s h0 hm (by omega) (by rw [hT]; exact hb) hx hz' k0 hk0 hF hbad
    · have hb' : Op.bytesLess (a :: r') mostN = false := by simpa using hb
      by_cases he : a :: r' = mostN
      · have hd : Dig (a :: r') := by rw [he]; exact mostN_dig
        have hv : numVal s = some (-(decV (a :: r'))) := by rw [← hs]; exact numVal_neg_some (by simp) hd hn48 (by rw [he, mostN_val]; decide)
        rw [num_some hv]
        have k := cM_most w s h0 hm (by omega) (by rw [hT]; exact he) hx hz' (hD.2 hd)
        rw [hall, wrap_in (by rw [he, mostN_val]; decide) (by rw [he, mostN_val]; decide)] at k
        exact k
      · have hv : numVal s = none := by
          rw [← hs]
          refine numVal_neg_none fun hd _ _ => ?_
          have := (less_dec mostN (a :: r') mostN_dig hd (by simpa using h19.symm)).1 (bytesLess_total _ _ (by simpa using h19) hb' he)
          rw [mostN_val] at this
          exact this
        rw [num_none hv]
        exact cM_big w s h0 hm (by omega) (by rw [hT]; exact hb') (by rw [hT]; exact he)
  · rcases hF with hF | ⟨k0, hk0, hF, hbad⟩
    · have hd := hD.1 hF
      have hin := decV_in hd
      have hp := pow_mono (show (a :: r').length ≤ 18 by omega)
      have e18 : (10 : Int) ^ 18 = 1000000000000000000 := by decide
      have hv : numVal s = some (-(decV (a :: r'))) := by rw [← hs]; exact numVal_neg_some (by simp) hd hn48 (by omega)
      rw [num_some hv]
      have k := cM_digits18 w s h0 hm (by omega) hx hz' (hD.2 hd)
      rw [hall, wrap_in (by omega) (by omega)] at k
      exact k
    · have hnd : ¬ Dig (a :: r') := fun hd => by have := hD.2 hd k0 hk0; omega
      have hv : numVal s = none := by rw [← hs]; exact numVal_neg_none fun hd _ _ => absurd hd hnd
      rw [num_none hv]
      exact cM_bad18 w s h0 hm (by omega) hx hz' k0 hk0 hF hbad

theorem cNumber_neg (w : World) (r : List UInt8) :
    Calls Tryz.prog 126 #[.string ⟨(45 :: r).toArray⟩] w fun e w' => e = numOut ⟨(45 :: r).toArray⟩ ∧ w' = w := by
  by_cases hr : r = []
  · subst hr
    rw [num_none (numVal_neg_none fun _ h _ => absurd rfl h)]
    exact cM_empty w
  have hl : 0 < r.length := List.length_pos_iff.2 hr
  have hsz : (⟨(45 :: r).toArray⟩ : ByteArray).size = r.length + 1 := by rw [mk_size]; rfl
  have h0 : 1 < (⟨(45 :: r).toArray⟩ : ByteArray).size := by omega
  have hm : ((⟨(45 :: r).toArray⟩ : ByteArray)[0].toNat : Int) = 45 := by rw [mk_head]; rfl
  by_cases hlong : 19 < r.length
  · rw [num_none (numVal_neg_none fun hd _ hn => ?_)]
    · exact cM_long w _ h0 hm (by omega)
    · cases r with
      | nil => exact absurd rfl hr
      | cons a r =>
        have := decV_low hd (by simpa using hn)
        have := pow_mono (show 19 ≤ r.length by simp at hlong; omega)
        have e19 : (10 : Int) ^ 19 = 10000000000000000000 := by decide
        omega
  obtain ⟨a, r', rfl⟩ : ∃ a r', r = a :: r' := by
    cases r with
    | nil => exact absurd rfl hr
    | cons a r' => exact ⟨a, r', rfl⟩
  exact cNumber_negC w _ a r' rfl hlong

/-- The document's numbers are those that the program reads. -/
theorem cNumber_any (w : World) (s : ByteArray) : Calls Tryz.prog 126 #[.string s] w fun e w' => e = numOut s ∧ w' = w := by
  obtain ⟨⟨l⟩⟩ := s
  cases l with
  | nil =>
    rw [num_none (numVal_pos_none (l := []) (by simp) fun _ h _ => absurd rfl h)]
    exact cN_empty w
  | cons a r =>
    by_cases ha : a = 45
    · subst ha; exact cNumber_neg w r
    · exact cNumber_pos w a r ha
end Go.Proofs.YtfhkfnoajbbfdaaGreatDoor
