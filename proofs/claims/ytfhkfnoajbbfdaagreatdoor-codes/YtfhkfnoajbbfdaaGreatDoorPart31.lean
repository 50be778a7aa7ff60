import Derived.Test.YtfhkfnoajbbfdaaGreatDoorPart29
/- The document's numbers: the greatest itself, nought, and words with a sign ahead. -/
namespace Go.Proofs.YtfhkfnoajbbfdaaGreatDoor
open Go.RowKit

section
variable (w : World) (t s : ByteArray)

set_option maxRecDepth 100000 in
set_option maxHeartbeats 4000000 in
theorem cM_bad18 (h0 : 1 < s.size) (hm : (s[0].toNat : Int) = 45) (h1 : s.size < 20) (hx : 0 < (s.extract 1 s.size).size) (hz : ¬ ((s.extract 1 s.size)[0].toNat : Int) = 48) (k0 : Nat) (hk0 : k0 < (s.extract 1 s.size).size) (hd : Hid (∀ j (h : j < (s.extract 1 s.size).size), j < k0 → 48 ≤ (s.extract 1 s.size)[j].toNat ∧ (s.extract 1 s.size)[j].toNat ≤ 57)) (hbad : (s.extract 1 s.size)[k0].toNat < 48 ∨ 57 < (s.extract 1 s.size)[k0].toNat) :
    Calls Tryz.prog 126 #[.string s] w fun e w' => e = .returned (.tuple #[.int .i64 0, .bool false]) ∧ w' = w := by
  have h0' : (0 : Int) < (s.size : Int) := by omega
  have h1' : ¬ (19 : Int) < ((s.size - 1 : Nat) : Int) := by omega
  have h2' : ¬ ((s.size - 1 : Nat) : Int) = 19 := by omega
  have hsz : (s.extract 1 s.size).size = s.size - 1 := by rw [ByteArray.size_extract]; omega
  have hne := bs_some (show 0 < (s.extract 1 s.size).size by omega)
  have hne' : ¬ (s.extract 1 s.size).toList = [] := fun h => by simp [h] at hne
  have hk1 : k0 < (s.size - 1) := by rw [ByteArray.size_extract] at hk0; omega
  go_enter Tryz.func126, Tryz.ntmps126
  go_wp2
  go_loopw [7, 8] (fun v7 v8 wr => ∃ (k : Nat) (v : Int), k ≤ k0 ∧ v8 = .int .i64 k ∧ v7 = .int .i64 v ∧ wr = w) (fun _ v8 _ => (s.size - 1) - (intOf v8).toNat)
  case atStart => exact ⟨0, 0, by omega, rfl, rfl, rfl⟩
  case round =>
    obtain ⟨k, v, hk, rfl, rfl, rfl⟩ := hrel
    have hlt : k < (s.size - 1) := by omega
    have hlt' : (k : Int) < ((s.size - 1) : Nat) := by omega
    have hlt2 : k < (s.extract 1 s.size).size := by omega
    by_cases hkk : k < k0
    · have hq := hd.out k hlt2 hkk
      have q1 : ¬ ((s.extract 1 s.size)[k].toNat : Int) < 48 := by omega
      have q2 : ¬ (57 : Int) < ((s.extract 1 s.size)[k].toNat : Int) := by omega
      go_wp2
      go_roundw
      case rel => exact ⟨k + 1, _, by omega, by go_num, rfl, trivial⟩
      case measure => simp [intOf]; omega
    · obtain rfl : k = k0 := by omega
      rcases hbad with hb | hb
      · have q1 : ((s.extract 1 s.size)[k].toNat : Int) < 48 := by omega
        go_wp2
        go_ret2
        exact ⟨rfl, rfl⟩
      · have q1 : ¬ ((s.extract 1 s.size)[k].toNat : Int) < 48 := by omega
        have q2 : (57 : Int) < ((s.extract 1 s.size)[k].toNat : Int) := by omega
        go_wp2
        go_ret2
        exact ⟨rfl, rfl⟩

set_option maxRecDepth 100000 in
set_option maxHeartbeats 4000000 in
theorem cM_bad19 (h0 : 1 < s.size) (hm : (s[0].toNat : Int) = 45) (h1 : s.size = 20) (hb : Op.bytesLess (s.extract 1 s.size).toList mostN = true) (hx : 0 < (s.extract 1 s.size).size) (hz : ¬ ((s.extract 1 s.size)[0].toNat : Int) = 48) (k0 : Nat) (hk0 : k0 < (s.extract 1 s.size).size) (hd : Hid (∀ j (h : j < (s.extract 1 s.size).size), j < k0 → 48 ≤ (s.extract 1 s.size)[j].toNat ∧ (s.extract 1 s.size)[j].toNat ≤ 57)) (hbad : (s.extract 1 s.size)[k0].toNat < 48 ∨ 57 < (s.extract 1 s.size)[k0].toNat) :
    Calls Tryz.prog 126 #[.string s] w fun e w' => e = .returned (.tuple #[.int .i64 0, .bool false]) ∧ w' = w := by
  have h0' : (0 : Int) < (s.size : Int) := by omega
  have h1' : ¬ (19 : Int) < ((s.size - 1 : Nat) : Int) := by omega
  have h2' : ((s.size - 1 : Nat) : Int) = 19 := by omega
  clear h1
  have hsz : (s.extract 1 s.size).size = s.size - 1 := by rw [ByteArray.size_extract]; omega
  have hne := bs_some (show 0 < (s.extract 1 s.size).size by omega)
  have hne' : ¬ (s.extract 1 s.size).toList = [] := fun h => by simp [h] at hne
  have hk1 : k0 < (s.size - 1) := by rw [ByteArray.size_extract] at hk0; omega
  go_enter Tryz.func126, Tryz.ntmps126
  go_wp2
  go_loopw [7, 8] (fun v7 v8 wr => ∃ (k : Nat) (v : Int), k ≤ k0 ∧ v8 = .int .i64 k ∧ v7 = .int .i64 v ∧ wr = w) (fun _ v8 _ => (s.size - 1) - (intOf v8).toNat)
  case atStart => exact ⟨0, 0, by omega, rfl, rfl, rfl⟩
  case round =>
    obtain ⟨k, v, hk, rfl, rfl, rfl⟩ := hrel
    have hlt : k < (s.size - 1) := by omega
    have hlt' : (k : Int) < ((s.size - 1) : Nat) := by omega
    have hlt2 : k < (s.extract 1 s.size).size := by omega
    by_cases hkk : k < k0
    · have hq := hd.out k hlt2 hkk
      have q1 : ¬ ((s.extract 1 s.size)[k].toNat : Int) < 48 := by omega
      have q2 : ¬ (57 : Int) < ((s.extract 1 s.size)[k].toNat : Int) := by omega
      go_wp2
      go_roundw
      case rel => exact ⟨k + 1, _, by omega, by go_num, rfl, trivial⟩
      case measure => simp [intOf]; omega
    · obtain rfl : k = k0 := by omega
      rcases hbad with hb | hb
      · have q1 : ((s.extract 1 s.size)[k].toNat : Int) < 48 := by omega
        go_wp2
        go_ret2
        exact ⟨rfl, rfl⟩
      · have q1 : ¬ ((s.extract 1 s.size)[k].toNat : Int) < 48 := by omega
        have q2 : (57 : Int) < ((s.extract 1 s.size)[k].toNat : Int) := by omega
        go_wp2
        go_ret2
        exact ⟨rfl, rfl⟩
end
end Go.Proofs.YtfhkfnoajbbfdaaGreatDoor
