import Derived.Test.YtfhkfnoajbbfdaaGreatDoorPart28
/- The document's numbers: the greatest itself, nought, and words with a sign ahead. -/
namespace Go.Proofs.YtfhkfnoajbbfdaaGreatDoor
open Go.RowKit

abbrev mostN : List UInt8 := [57, 50, 50, 51, 51, 55, 50, 48, 51, 54, 56, 53, 52, 55, 55, 53, 56, 48, 56]

section
variable (w : World) (t s : ByteArray)

set_option maxRecDepth 100000 in
set_option maxHeartbeats 4000000 in
theorem cN_zero : Calls Tryz.prog 126 #[.string ⟨#[48]⟩] w fun e w' => e = .returned (.tuple #[.int .i64 0, .bool true]) ∧ w' = w := by
  go_enter Tryz.func126, Tryz.ntmps126
  go_wp2
  go_loopw [7, 8] (fun v7 v8 wr => ((v8 = .int .i64 0 ∧ v7 = .int .i64 0) ∨ (v8 = .int .i64 1 ∧ v7 = .int .i64 0)) ∧ wr = w) (fun _ v8 _ => 1 - (intOf v8).toNat)
  case atStart => exact ⟨.inl ⟨rfl, rfl⟩, rfl⟩
  case round =>
    obtain ⟨⟨rfl, rfl⟩ | ⟨rfl, rfl⟩, rfl⟩ := hrel
    · go_wp2
      go_roundw
      case rel => exact ⟨.inr ⟨rfl, rfl⟩, trivial⟩
      case measure => decide
    · go_wp2
      go_ret2
      exact ⟨rfl, rfl⟩

set_option maxRecDepth 100000 in
set_option maxHeartbeats 4000000 in
theorem cM_empty : Calls Tryz.prog 126 #[.string ⟨#[45]⟩] w fun e w' => e = .returned (.tuple #[.int .i64 0, .bool false]) ∧ w' = w := by
  go_enter Tryz.func126, Tryz.ntmps126
  go_wp2
  go_ret2
  exact ⟨rfl, rfl⟩

set_option maxRecDepth 100000 in
set_option maxHeartbeats 4000000 in
theorem cM_long (h0 : 1 < s.size) (hm : (s[0].toNat : Int) = 45) (h1 : 20 < s.size) : Calls Tryz.prog 126 #[.string s] w fun e w' => e = .returned (.tuple #[.int .i64 0, .bool false]) ∧ w' = w := by
  have h0' : (0 : Int) < (s.size : Int) := by omega
  have h1' : (19 : Int) < ((s.size - 1 : Nat) : Int) := by omega
  have hsz : (s.extract 1 s.size).size = s.size - 1 := by rw [ByteArray.size_extract]; omega
  have hne := bs_some (show 0 < (s.extract 1 s.size).size by omega)
  have hne' : ¬ (s.extract 1 s.size).toList = [] := fun h => by simp [h] at hne
  go_enter Tryz.func126, Tryz.ntmps126
  go_wp2
  all_goals
    go_ret2
    exact ⟨rfl, rfl⟩

set_option maxRecDepth 100000 in
set_option maxHeartbeats 4000000 in
theorem cM_big (h0 : 1 < s.size) (hm : (s[0].toNat : Int) = 45) (h1 : s.size = 20) (hb : Op.bytesLess (s.extract 1 s.size).toList mostN = false) (hb3 : ¬ (s.extract 1 s.size).toList = mostN) : Calls Tryz.prog 126 #[.string s] w fun e w' => e = .returned (.tuple #[.int .i64 0, .bool false]) ∧ w' = w := by
  have h0' : (0 : Int) < (s.size : Int) := by omega
  have h1' : ¬ (19 : Int) < ((s.size - 1 : Nat) : Int) := by omega
  have h2' : ((s.size - 1 : Nat) : Int) = 19 := by omega
  clear h1
  have hb2 : ((s.extract 1 s.size).toList == mostN) = false := by simpa using hb3
  have hsz : (s.extract 1 s.size).size = s.size - 1 := by rw [ByteArray.size_extract]; omega
  have hne := bs_some (show 0 < (s.extract 1 s.size).size by omega)
  have hne' : ¬ (s.extract 1 s.size).toList = [] := fun h => by simp [h] at hne
  go_enter Tryz.func126, Tryz.ntmps126
  go_wp2
  all_goals
    go_ret2
    exact ⟨rfl, rfl⟩

set_option maxRecDepth 100000 in
set_option maxHeartbeats 4000000 in
theorem cM_nought18 (h0 : 1 < s.size) (hm : (s[0].toNat : Int) = 45) (h1 : s.size < 20) (hx : 0 < (s.extract 1 s.size).size) (hz : ((s.extract 1 s.size)[0].toNat : Int) = 48) : Calls Tryz.prog 126 #[.string s] w fun e w' => e = .returned (.tuple #[.int .i64 0, .bool false]) ∧ w' = w := by
  have h0' : (0 : Int) < (s.size : Int) := by omega
  have h1' : ¬ (19 : Int) < ((s.size - 1 : Nat) : Int) := by omega
  have h2' : ¬ ((s.size - 1 : Nat) : Int) = 19 := by omega
  have hsz : (s.extract 1 s.size).size = s.size - 1 := by rw [ByteArray.size_extract]; omega
  have hne := bs_some (show 0 < (s.extract 1 s.size).size by omega)
  have hne' : ¬ (s.extract 1 s.size).toList = [] := fun h => by simp [h] at hne
  go_enter Tryz.func126, Tryz.ntmps126
  go_wp2
  all_goals
    go_ret2
    exact ⟨rfl, rfl⟩

set_option maxRecDepth 100000 in
set_option maxHeartbeats 4000000 in
theorem cM_nought19 (h0 : 1 < s.size) (hm : (s[0].toNat : Int) = 45) (h1 : s.size = 20) (hb : Op.bytesLess (s.extract 1 s.size).toList mostN = true) (hx : 0 < (s.extract 1 s.size).size) (hz : ((s.extract 1 s.size)[0].toNat : Int) = 48) : Calls Tryz.prog 126 #[.string s] w fun e w' => e = .returned (.tuple #[.int .i64 0, .bool false]) ∧ w' = w := by
  have h0' : (0 : Int) < (s.size : Int) := by omega
  have h1' : ¬ (19 : Int) < ((s.size - 1 : Nat) : Int) := by omega
  have h2' : ((s.size - 1 : Nat) : Int) = 19 := by omega
  clear h1
  have hsz : (s.extract 1 s.size).size = s.size - 1 := by rw [ByteArray.size_extract]; omega
  have hne := bs_some (show 0 < (s.extract 1 s.size).size by omega)
  have hne' : ¬ (s.extract 1 s.size).toList = [] := fun h => by simp [h] at hne
  go_enter Tryz.func126, Tryz.ntmps126
  go_wp2
  all_goals
    go_ret2
    exact ⟨rfl, rfl⟩
end
end Go.Proofs.YtfhkfnoajbbfdaaGreatDoor
