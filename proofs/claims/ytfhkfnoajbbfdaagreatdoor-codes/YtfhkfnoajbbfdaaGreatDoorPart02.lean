import Derived.Test.YtfhkfnoajbbfdaaGreatDoorPart01
import Derived.Test.YtfhkfnoajbbfdaaGreatDoorShelf
namespace Go.Proofs.YtfhkfnoajbbfdaaGreatDoor
open Go.RowKit

set_option maxRecDepth 100000 in
set_option maxHeartbeats 1000000 in
/-- A register's word. -/
theorem registerNamed_ok (w : World) (n : Nat) (hn : n < 8) :
    Calls Tryz.prog 200 #[.string ⟨#[114, UInt8.ofNat (48 + n)]⟩] w fun e w' => e = .returned (.tuple #[.int .i64 n, .bool true]) ∧ w' = w := by
  have hc : n = 0 ∨ n = 1 ∨ n = 2 ∨ n = 3 ∨ n = 4 ∨ n = 5 ∨ n = 6 ∨ n = 7 := by omega
  rcases hc with rfl | rfl | rfl | rfl | rfl | rfl | rfl | rfl
  all_goals
    go_enter Tryz.func200, Tryz.ntmps200
    go_wp2
    go_ret2
    exact ⟨rfl, rfl⟩

set_option maxRecDepth 100000 in
set_option maxHeartbeats 1000000 in
theorem registerNamed_size (w : World) (s : ByteArray) (hs : s.size ≠ 2) :
    Calls Tryz.prog 200 #[.string s] w fun e w' => e = .returned (.tuple #[.int .i64 0, .bool false]) ∧ w' = w := by
  have hs' : ¬ (s.size : Int) = 2 := by omega
  go_enter Tryz.func200, Tryz.ntmps200
  go_wp2
  go_ret2
  exact ⟨rfl, rfl⟩

set_option maxRecDepth 100000 in
set_option maxHeartbeats 1000000 in
theorem registerNamed_first (w : World) (a b : UInt8) (ha : a ≠ 114) :
    Calls Tryz.prog 200 #[.string ⟨#[a, b]⟩] w fun e w' => e = .returned (.tuple #[.int .i64 0, .bool false]) ∧ w' = w := by
  have ha' : ¬ (a.toNat : Int) = 114 := fun h => ha (UInt8.toNat_inj.1 (by simpa using Int.ofNat.inj h))
  go_enter Tryz.func200, Tryz.ntmps200
  go_wp2
  go_ret2
  exact ⟨rfl, rfl⟩

theorem ba_ne {u s : ByteArray} (h : u ≠ s) : (u.toList == s.toList) = false := by
  rw [ByteArray.toList_eq, ByteArray.toList_eq]
  cases hb : (u.data.toList == s.data.toList) with
  | false => rfl
  | true => exact absurd (Go.WideShapes.bytes_inj (by simpa using hb)) h

/-- The words of the operations, as they lie in memory. -/
def WordsAt (w : World) (wd : Nat → ByteArray) : Prop := ∀ j, j < 12 → w.cell? ⟨2, j, none⟩ = some (.string (wd j))

set_option maxRecDepth 100000 in
set_option maxHeartbeats 1000000 in
theorem named_none (w : World) (s : ByteArray) (wd : Nat → ByteArray) (hw : Hid (WordsAt w wd)) (hs : Hid (∀ j, j < 12 → wd j ≠ s)) :
    Calls Tryz.prog 164 #[.string s] w fun e w' => e = .returned (.tuple #[.int .i64 0, .bool false]) ∧ w' = w := by
  go_enter Tryz.func164, Tryz.ntmps164
  go_wp2
  go_loopw [5] (fun v wr => ∃ k : Nat, k ≤ 12 ∧ v = .int .i64 k ∧ wr = w) (fun v _ => 12 - (intOf v).toNat)
  case atStart => exact ⟨0, by omega, rfl, rfl⟩
  case round =>
    obtain ⟨k, hk, rfl, rfl⟩ := hrel
    by_cases hlt : k < 12
    · have hlt' : (k : Int) < 12 := by omega
      have hc := hw.out k hlt
      have hne := ba_ne (hs.out k hlt)
      generalize wd k = u at hc hne
      go_wp2
      go_roundw
      case rel => exact ⟨k + 1, by omega, by go_num, trivial⟩
      case measure => simp [intOf]; omega
    · have hlt' : ¬ (k : Int) < 12 := by omega
      go_wp2
      go_ret2
      exact ⟨rfl, rfl⟩

set_option maxRecDepth 100000 in
set_option maxHeartbeats 1000000 in
theorem named_at (w : World) (s : ByteArray) (wd : Nat → ByteArray) (hw : Hid (WordsAt w wd)) (n : Nat) (hn : n < 12) (hs : Hid (∀ j, j < n → wd j ≠ s)) (he : Hid (wd n = s)) :
    Calls Tryz.prog 164 #[.string s] w fun e w' => e = .returned (.tuple #[.int .i64 n, .bool true]) ∧ w' = w := by
  go_enter Tryz.func164, Tryz.ntmps164
  go_wp2
  go_loopw [5] (fun v wr => ∃ k : Nat, k ≤ n ∧ v = .int .i64 k ∧ wr = w) (fun v _ => 12 - (intOf v).toNat)
  case atStart => exact ⟨0, by omega, rfl, rfl⟩
  case round =>
    obtain ⟨k, hk, rfl, rfl⟩ := hrel
    have hlt : k < 12 := by omega
    have hlt' : (k : Int) < 12 := by omega
    have hc := hw.out k hlt
    by_cases hkn : k < n
    · have hne := ba_ne (hs.out k hkn)
      generalize wd k = u at hc hne
      go_wp2
      go_roundw
      case rel => exact ⟨k + 1, by omega, by go_num, trivial⟩
      case measure => simp [intOf]; omega
    · obtain rfl : k = n := by omega
      have hu := he.out
      rw [hu] at hc
      go_wp2
      go_ret2
      exact ⟨rfl, rfl⟩

theorem ba_some {t : ByteArray} (h0 : 0 < t.size) : t.toList.isEmpty = false := by
  rw [ByteArray.toList_eq]
  cases h : t.data.toList with
  | nil => have e : t.data.size = 0 := by rw [← Array.length_toList, h]; rfl
           exact absurd (show t.data.size = t.size from rfl) (by omega)
  | cons a l => rfl

/-- What is left of a word behind its sign. -/
def Digits (s t : ByteArray) : Prop := t = ⟨(Lib.trimPrefix s.data.toList [45]).toArray⟩

set_option maxRecDepth 100000 in
set_option maxHeartbeats 1000000 in
theorem numeral_ok (w : World) (s t : ByteArray) (ht : Hid (Digits s t)) (hm : t.size < 4294967281) (h0 : 0 < t.size) (hz : t[0].toNat ≠ 48 ∨ s = ⟨#[48]⟩) (hd : Hid (∀ j (h : j < t.size), 48 ≤ t[j].toNat ∧ t[j].toNat ≤ 57)) :
    Calls Tryz.prog 227 #[.string s] w fun e w' => e = .returned (.bool true) ∧ w' = w := by
  have hne := ba_some h0
  have hne' : ¬ t.toList = [] := fun h => by simp [h] at hne
  have h0' : (0 : Int) < (t.size : Int) := by omega
  have HT := ht.out
  unfold Digits at HT
  go_enter Tryz.func227, Tryz.ntmps227
  go_wp2_with fail
  refine (Tryz.strings_TrimPrefix s ⟨#[45]⟩ w).mono ?_
  rintro e w' ⟨rfl, rfl⟩
  change Hid _ at ht
  rw [show (⟨(Lib.trimPrefix s.data.toList (ByteArray.mk #[45]).data.toList).toArray⟩ : ByteArray) = t from HT.symm]
  clear HT ht
  rcases hz with hz | rfl
  all_goals go_wp2
  all_goals
    go_loopw [20] (fun v wr => ∃ k : Nat, k ≤ t.size ∧ v = .int .i64 k ∧ wr = w') (fun v _ => t.size - (intOf v).toNat)
    case atStart => exact ⟨0, by omega, rfl, rfl⟩
    case round =>
      obtain ⟨k, hk, rfl, rfl⟩ := hrel
      by_cases hlt : k < t.size
      · have hlt' : (k : Int) < (t.size : Int) := by omega
        have hq := hd.out k hlt
        have q1 : ¬ (t[k].toNat : Int) < 48 := by omega
        have q2 : ¬ (57 : Int) < (t[k].toNat : Int) := by omega
        go_wp2
        go_roundw
        case rel => exact ⟨k + 1, by omega, by go_num, trivial⟩
        case measure => simp [intOf]; omega
      · have hlt' : ¬ (k : Int) < (t.size : Int) := by omega
        go_wp2
        go_ret
        exact ⟨rfl, rfl⟩

set_option maxRecDepth 100000 in
set_option maxHeartbeats 1000000 in
/-- Nothing behind the sign. -/
theorem numeral_empty (w : World) (s t : ByteArray) (ht : Digits s t) (h0 : t.toList.isEmpty = true) :
    Calls Tryz.prog 227 #[.string s] w fun e w' => e = .returned (.bool false) ∧ w' = w := by
  have h0' : t.toList = [] := by simpa using h0
  unfold Digits at ht
  go_enter Tryz.func227, Tryz.ntmps227
  go_wp2_with fail
  refine (Tryz.strings_TrimPrefix s ⟨#[45]⟩ w).mono ?_
  rintro e w' ⟨rfl, rfl⟩
  rw [show (⟨(Lib.trimPrefix s.data.toList (ByteArray.mk #[45]).data.toList).toArray⟩ : ByteArray) = t from ht.symm]
  clear ht
  go_wp2
  go_ret
  exact ⟨rfl, rfl⟩

set_option maxRecDepth 100000 in
set_option maxHeartbeats 1000000 in
/-- A nought ahead. -/
theorem numeral_nought (w : World) (s t : ByteArray) (ht : Digits s t) (h0 : 0 < t.size) (hz : t[0].toNat = 48) (hs : s ≠ ⟨#[48]⟩) :
    Calls Tryz.prog 227 #[.string s] w fun e w' => e = .returned (.bool false) ∧ w' = w := by
  have hne := ba_some h0
  have hne' : ¬ t.toList = [] := fun h => by simp [h] at hne
  have h0' : (0 : Int) < (t.size : Int) := by omega
  have hz' : (t[0].toNat : Int) = 48 := by omega
  have hs' : (s.toList == [48]) = false := by
    have e := ba_ne hs
    rwa [show (ByteArray.mk #[48]).toList = [48] from by rw [ByteArray.toList_eq]] at e
  unfold Digits at ht
  go_enter Tryz.func227, Tryz.ntmps227
  go_wp2_with fail
  refine (Tryz.strings_TrimPrefix s ⟨#[45]⟩ w).mono ?_
  rintro e w' ⟨rfl, rfl⟩
  rw [show (⟨(Lib.trimPrefix s.data.toList (ByteArray.mk #[45]).data.toList).toArray⟩ : ByteArray) = t from ht.symm]
  clear ht
  go_wp2
  go_ret
  exact ⟨rfl, rfl⟩

set_option maxRecDepth 100000 in
set_option maxHeartbeats 1000000 in
theorem number_ok (w : World) (s t : ByteArray) (ht : Hid (Digits s t)) (hm : t.size < 4294967281) (h0 : Hid (0 < t.size)) (hz : Hid (t.data.toList.head? ≠ some 48 ∨ s = ⟨#[48]⟩)) (hd : Hid (∀ j (h : j < t.size), 48 ≤ t[j].toNat ∧ t[j].toNat ≤ 57)) (hs : s.size ≤ 4294967281) (v : Int) (hv : Hid (Lib.parseIntB 64 s.data.toList = .ok v)) :
    Calls Tryz.prog 201 #[.string s] w fun e w' => e = .returned (.tuple #[.int .i64 v, .bool true]) ∧ Below w.heap.size w w' := by
  go_enter Tryz.func201, Tryz.ntmps201
  go_wp2_with fail
  refine (numeral_ok w s t ht hm h0.out ?_ hd).mono ?_
  · rcases hz.out with h | h
    · left
      intro e
      apply h
      have h1 := h0.out
      have : t.data.toList.head? = some t[0] := by
        rw [List.head?_eq_getElem?]
        simp [ByteArray.getElem_eq_getElem_data] 
      rw [this]
      exact congrArg some (UInt8.toNat_inj.1 e)
    · exact .inr h
  rintro e w' ⟨rfl, rfl⟩
  go_wp2_with fail
  refine (Tryz.strconv_ParseInt_10_at64_ok s (by omega) v hv.out _).mono ?_
  rintro e w2 ⟨rfl, h2⟩
  have HB : Hid (Below w'.heap.size w' w2) := by
    rcases h2 with rfl | ⟨u, rfl⟩
    · exact Below.refl _ _
    · exact Lib.bytesWorld_below _ _ _
  clear h2
  go_wp2
  go_ret2
  exact ⟨rfl, HB.out⟩
/-- The words of the operations. -/
def opWords (j : Nat) : ByteArray := [⟨#[97, 100, 100]⟩, ⟨#[115, 117, 98]⟩, ⟨#[109, 117, 108]⟩, ⟨#[100, 105, 118]⟩, ⟨#[109, 111, 100]⟩, ⟨#[97, 110, 100]⟩, ⟨#[111, 114]⟩, ⟨#[120, 111, 114]⟩, ⟨#[115, 104, 108]⟩, ⟨#[115, 104, 114]⟩, ⟨#[108, 116]⟩, ⟨#[101, 113]⟩].getD j ⟨#[]⟩
end Go.Proofs.YtfhkfnoajbbfdaaGreatDoor
