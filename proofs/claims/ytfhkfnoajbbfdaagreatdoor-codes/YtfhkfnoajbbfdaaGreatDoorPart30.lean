import Derived.Test.YtfhkfnoajbbfdaaGreatDoorPart29
/- The document's numbers: the greatest itself, nought, and words with a sign ahead. -/
namespace Go.Proofs.YtfhkfnoajbbfdaaGreatDoor
open Go.RowKit

section
variable (w : World) (t s : ByteArray)

set_option maxRecDepth 100000 in
set_option maxHeartbeats 4000000 in
theorem cN_most (h1 : t.size = 19) (hq0 : t.toList = mostP) (hm : ¬ (t[0].toNat : Int) = 45) (hz : ¬ (t[0].toNat : Int) = 48) (hd : Hid (∀ j (h : j < t.size), 48 ≤ t[j].toNat ∧ t[j].toNat ≤ 57)) :
    Calls Tryz.prog 126 #[.string t] w fun e w' => e = .returned (.tuple #[.int .i64 (wrap64 (decK t t.size)), .bool true]) ∧ w' = w := by
  have h0' : (0 : Int) < (t.size : Int) := by omega
  have h1' : ¬ (19 : Int) < (t.size : Int) := by omega
  have h2' : (t.size : Int) = 19 := by omega
  have hb : Op.bytesLess t.toList mostP = false := by rw [hq0]; decide
  have hb2 : (t.toList == mostP) = true := by rw [hq0]; decide
  have hne := bs_some (show 0 < t.size by omega)
  have hne' : ¬ t.toList = [] := fun h => by simp [h] at hne
  go_enter Tryz.func126, Tryz.ntmps126
  go_wp2
  go_loopw [7, 8] (fun v7 v8 wr => ∃ k : Nat, k ≤ t.size ∧ v8 = .int .i64 k ∧ v7 = .int .i64 (wrap64 (decK t k)) ∧ wr = w) (fun _ v8 _ => t.size - (intOf v8).toNat)
  case atStart => exact ⟨0, by omega, rfl, by rw [decK_zero]; simp [wrap64], rfl⟩
  case round =>
    obtain ⟨k, hk, rfl, rfl, rfl⟩ := hrel
    by_cases hlt : k < t.size
    · have hlt' : (k : Int) < (t.size : Nat) := by omega
      have hlt2 : k < t.size := by exact hlt
      have hq := hd.out k hlt2
      have q1 : ¬ (t[k].toNat : Int) < 48 := by omega
      have q2 : ¬ (57 : Int) < (t[k].toNat : Int) := by omega
      have hs := decK_step t k hlt2
      have hwd := wrap_dig (decK t k) ((t[k].toNat : Int) - 48)
      rw [← hs] at hwd
      have HS := hid hs
      clear hs
      go_wp2
      go_roundw
      case rel => exact ⟨k + 1, by omega, by go_num, by rw [hwd], trivial⟩
      case measure => simp [intOf]; omega
    · have hlt' : ¬ (k : Int) < (t.size : Nat) := by omega
      obtain rfl : k = t.size := by omega
      go_wp2
      go_ret2
      exact ⟨rfl, rfl⟩

set_option maxRecDepth 100000 in
set_option maxHeartbeats 4000000 in
theorem cM_digits18 (h0 : 1 < s.size) (hm : (s[0].toNat : Int) = 45) (h1 : s.size < 20) (hx : 0 < (s.extract 1 s.size).size) (hz : ¬ ((s.extract 1 s.size)[0].toNat : Int) = 48) (hd : Hid (∀ j (h : j < (s.extract 1 s.size).size), 48 ≤ (s.extract 1 s.size)[j].toNat ∧ (s.extract 1 s.size)[j].toNat ≤ 57)) :
    Calls Tryz.prog 126 #[.string s] w fun e w' => e = .returned (.tuple #[.int .i64 (wrap64 (-(decK (s.extract 1 s.size) (s.size - 1)))), .bool true]) ∧ w' = w := by
  have h0' : (0 : Int) < (s.size : Int) := by omega
  have h1' : ¬ (19 : Int) < ((s.size - 1 : Nat) : Int) := by omega
  have h2' : ¬ ((s.size - 1 : Nat) : Int) = 19 := by omega
  have hsz : (s.extract 1 s.size).size = s.size - 1 := by rw [ByteArray.size_extract]; omega
  have hne := bs_some (show 0 < (s.extract 1 s.size).size by omega)
  have hne' : ¬ (s.extract 1 s.size).toList = [] := fun h => by simp [h] at hne
  go_enter Tryz.func126, Tryz.ntmps126
  go_wp2
  go_loopw [7, 8] (fun v7 v8 wr => ∃ k : Nat, k ≤ (s.size - 1) ∧ v8 = .int .i64 k ∧ v7 = .int .i64 (wrap64 (-(decK (s.extract 1 s.size) k))) ∧ wr = w) (fun _ v8 _ => (s.size - 1) - (intOf v8).toNat)
  case atStart => exact ⟨0, by omega, rfl, by rw [decK_zero]; simp [wrap64], rfl⟩
  case round =>
    obtain ⟨k, hk, rfl, rfl, rfl⟩ := hrel
    by_cases hlt : k < (s.size - 1)
    · have hlt' : (k : Int) < ((s.size - 1) : Nat) := by omega
      have hlt2 : k < (s.extract 1 s.size).size := by rw [ByteArray.size_extract]; omega
      have hq := hd.out k hlt2
      have q1 : ¬ ((s.extract 1 s.size)[k].toNat : Int) < 48 := by omega
      have q2 : ¬ (57 : Int) < ((s.extract 1 s.size)[k].toNat : Int) := by omega
      have hs := decK_step (s.extract 1 s.size) k hlt2
      have hwd := wrap_digN (decK (s.extract 1 s.size) k) (((s.extract 1 s.size)[k].toNat : Int) - 48)
      rw [← hs] at hwd
      have HS := hid hs
      clear hs
      go_wp2
      go_roundw
      case rel => exact ⟨k + 1, by omega, by go_num, by rw [hwd], trivial⟩
      case measure => simp [intOf]; omega
    · have hlt' : ¬ (k : Int) < ((s.size - 1) : Nat) := by omega
      obtain rfl : k = (s.size - 1) := by omega
      go_wp2
      go_ret2
      exact ⟨rfl, rfl⟩

set_option maxRecDepth 100000 in
set_option maxHeartbeats 4000000 in
theorem cM_digits19 (h0 : 1 < s.size) (hm : (s[0].toNat : Int) = 45) (h1 : s.size = 20) (hb : Op.bytesLess (s.extract 1 s.size).toList mostN = true) (hx : 0 < (s.extract 1 s.size).size) (hz : ¬ ((s.extract 1 s.size)[0].toNat : Int) = 48) (hd : Hid (∀ j (h : j < (s.extract 1 s.size).size), 48 ≤ (s.extract 1 s.size)[j].toNat ∧ (s.extract 1 s.size)[j].toNat ≤ 57)) :
    Calls Tryz.prog 126 #[.string s] w fun e w' => e = .returned (.tuple #[.int .i64 (wrap64 (-(decK (s.extract 1 s.size) (s.size - 1)))), .bool true]) ∧ w' = w := by
  have h0' : (0 : Int) < (s.size : Int) := by omega
  have h1' : ¬ (19 : Int) < ((s.size - 1 : Nat) : Int) := by omega
  have h2' : ((s.size - 1 : Nat) : Int) = 19 := by omega
  clear h1
  have hsz : (s.extract 1 s.size).size = s.size - 1 := by rw [ByteArray.size_extract]; omega
  have hne := bs_some (show 0 < (s.extract 1 s.size).size by omega)
  have hne' : ¬ (s.extract 1 s.size).toList = [] := fun h => by simp [h] at hne
  go_enter Tryz.func126, Tryz.ntmps126
  go_wp2
  go_loopw [7, 8] (fun v7 v8 wr => ∃ k : Nat, k ≤ (s.size - 1) ∧ v8 = .int .i64 k ∧ v7 = .int .i64 (wrap64 (-(decK (s.extract 1 s.size) k))) ∧ wr = w) (fun _ v8 _ => (s.size - 1) - (intOf v8).toNat)
  case atStart => exact ⟨0, by omega, rfl, by rw [decK_zero]; simp [wrap64], rfl⟩
  case round =>
    obtain ⟨k, hk, rfl, rfl, rfl⟩ := hrel
    by_cases hlt : k < (s.size - 1)
    · have hlt' : (k : Int) < ((s.size - 1) : Nat) := by omega
      have hlt2 : k < (s.extract 1 s.size).size := by rw [ByteArray.size_extract]; omega
      have hq := hd.out k hlt2
      have q1 : ¬ ((s.extract 1 s.size)[k].toNat : Int) < 48 := by omega
      have q2 : ¬ (57 : Int) < ((s.extract 1 s.size)[k].toNat : Int) := by omega
      have hs := decK_step (s.extract 1 s.size) k hlt2
      have hwd := wrap_digN (decK (s.extract 1 s.size) k) (((s.extract 1 s.size)[k].toNat : Int) - 48)
      rw [← hs] at hwd
      have HS := hid hs
      clear hs
      go_wp2
      go_roundw
      case rel => exact ⟨k + 1, by omega, by go_num, by rw [hwd], trivial⟩
      case measure => simp [intOf]; omega
    · have hlt' : ¬ (k : Int) < ((s.size - 1) : Nat) := by omega
      obtain rfl : k = (s.size - 1) := by omega
      go_wp2
      go_ret2
      exact ⟨rfl, rfl⟩

set_option maxRecDepth 100000 in
set_option maxHeartbeats 4000000 in
theorem cM_most (h0 : 1 < s.size) (hm : (s[0].toNat : Int) = 45) (h1 : s.size = 20) (hq0 : (s.extract 1 s.size).toList = mostN) (hx : 0 < (s.extract 1 s.size).size) (hz : ¬ ((s.extract 1 s.size)[0].toNat : Int) = 48) (hd : Hid (∀ j (h : j < (s.extract 1 s.size).size), 48 ≤ (s.extract 1 s.size)[j].toNat ∧ (s.extract 1 s.size)[j].toNat ≤ 57)) :
    Calls Tryz.prog 126 #[.string s] w fun e w' => e = .returned (.tuple #[.int .i64 (wrap64 (-(decK (s.extract 1 s.size) (s.size - 1)))), .bool true]) ∧ w' = w := by
  have h0' : (0 : Int) < (s.size : Int) := by omega
  have h1' : ¬ (19 : Int) < ((s.size - 1 : Nat) : Int) := by omega
  have h2' : ((s.size - 1 : Nat) : Int) = 19 := by omega
  clear h1
  have hb : Op.bytesLess (s.extract 1 s.size).toList mostN = false := by rw [hq0]; decide
  have hb2 : ((s.extract 1 s.size).toList == mostN) = true := by rw [hq0]; decide
  have hsz : (s.extract 1 s.size).size = s.size - 1 := by rw [ByteArray.size_extract]; omega
  have hne := bs_some (show 0 < (s.extract 1 s.size).size by omega)
  have hne' : ¬ (s.extract 1 s.size).toList = [] := fun h => by simp [h] at hne
  go_enter Tryz.func126, Tryz.ntmps126
  go_wp2
  go_loopw [7, 8] (fun v7 v8 wr => ∃ k : Nat, k ≤ (s.size - 1) ∧ v8 = .int .i64 k ∧ v7 = .int .i64 (wrap64 (-(decK (s.extract 1 s.size) k))) ∧ wr = w) (fun _ v8 _ => (s.size - 1) - (intOf v8).toNat)
  case atStart => exact ⟨0, by omega, rfl, by rw [decK_zero]; simp [wrap64], rfl⟩
  case round =>
    obtain ⟨k, hk, rfl, rfl, rfl⟩ := hrel
    by_cases hlt : k < (s.size - 1)
    · have hlt' : (k : Int) < ((s.size - 1) : Nat) := by omega
      have hlt2 : k < (s.extract 1 s.size).size := by rw [ByteArray.size_extract]; omega
      have hq := hd.out k hlt2
      have q1 : ¬ ((s.extract 1 s.size)[k].toNat : Int) < 48 := by omega
      have q2 : ¬ (57 : Int) < ((s.extract 1 s.size)[k].toNat : Int) := by omega
      have hs := decK_step (s.extract 1 s.size) k hlt2
      have hwd := wrap_digN (decK (s.extract 1 s.size) k) (((s.extract 1 s.size)[k].toNat : Int) - 48)
      rw [← hs] at hwd
      have HS := hid hs
      clear hs
      go_wp2
      go_roundw
      case rel => exact ⟨k + 1, by omega, by go_num, by rw [hwd], trivial⟩
      case measure => simp [intOf]; omega
    · have hlt' : ¬ (k : Int) < ((s.size - 1) : Nat) := by omega
      obtain rfl : k = (s.size - 1) := by omega
      go_wp2
      go_ret2
      exact ⟨rfl, rfl⟩
end
end Go.Proofs.YtfhkfnoajbbfdaaGreatDoor
