import Derived.Test.YtfhkfnoajbbfdaaGreatDoorPart37
import Derived.Test.YtfhkfnoajbbfdaaGreatDoorPart07
import Derived.Laws.MakeOwn
/- The document's machine at work: a value, what waits. -/
namespace Go.Proofs.YtfhkfnoajbbfdaaGreatDoor
open Go.RowKit

section
variable {w : World} {t : CT}

set_option maxRecDepth 100000 in
set_option maxHeartbeats 1000000 in
theorem cGet_num (b : Nat) (v : Int) : Calls Tryz.prog 72 #[ptr b, .agg #[.bool false, .int .i64 v]] w fun e w' => e = .returned (.int .i64 v) ∧ Below w.heap.size w w' := by
  go_enter Tryz.func72, Tryz.ntmps72
  go_wp2
  go_ret
  exact ⟨rfl, (Below.refl _ w).alloc (Nat.le_refl _) _⟩

set_option maxRecDepth 100000 in
set_option maxHeartbeats 1000000 in
theorem cGet_reg (h : CThAt w t) (r : Nat) (hr : r < 8) : Calls Tryz.prog 72 #[ptr t.b, .agg #[.bool true, .int .i64 r]] w fun e w' => e = .returned (.int .i64 (t.T.r r)) ∧ Below w.heap.size w w' := by
  have c2 := h.regs
  have cr := h.rcell r hr
  have hb := lt_of_shape h.sh
  have hrb := lt_of_shape h.rsh
  have hr' : (r : Int) < 8 := by omega
  clear h
  generalize t.b = tb at *
  generalize t.rb = rb at *
  generalize t.T.r r = v at *
  go_enter Tryz.func72, Tryz.ntmps72
  go_wp2
  go_region
  all_goals
    go_wp2
    go_ret
    exact ⟨rfl, ((Below.refl _ w).alloc (Nat.le_refl _) _).drew⟩

theorem cGet_any (h : CThAt w t) (x : Vl) (hx : x.ok) : Calls Tryz.prog 72 #[ptr t.b, .agg #[.bool x.reg, .int .i64 x.v]] w fun e w' => e = .returned (.int .i64 (x.of t.T)) ∧ Below w.heap.size w w' := by
  obtain ⟨reg, v⟩ := x
  cases reg with
  | false => exact cGet_num _ v
  | true =>
    obtain ⟨h0, h8⟩ := hx rfl
    obtain ⟨r, rfl⟩ : ∃ r : Nat, v = r := ⟨v.toNat, by simp at h0; omega⟩
    have := cGet_reg h r (by simp at h8; omega)
    simpa [Vl.of] using this
end
end Go.Proofs.YtfhkfnoajbbfdaaGreatDoor

/- The document's operations. -/
namespace Go.Proofs.YtfhkfnoajbbfdaaGreatDoor
open Go.RowKit

theorem and63 (n : Nat) : n &&& 63 = n % 64 := by
  have := Nat.and_two_pow_sub_one_eq_mod n 6
  simpa using this

theorem bv_nat (b : Int) : (BitVec.ofInt 64 b).toNat = (b % 18446744073709551616).toNat := by
  rw [BitVec.toNat_ofInt]
  rfl

theorem bits63 (b : Int) : bits .and .i64 b 63 = b % 64 := by
  show IntKind.i64.wrap ((BitVec.ofInt 64 b &&& BitVec.ofInt 64 63).toNat : Int) = _
  have h2 : (BitVec.ofInt 64 63).toNat = 63 := by decide
  rw [BitVec.toNat_and, h2, bv_nat, and63, IntKind.wrap_i64]
  omega

theorem bits1 (b : Int) : bits .and .i64 b 1 = b % 2 := by
  show IntKind.i64.wrap ((BitVec.ofInt 64 b &&& BitVec.ofInt 64 1).toNat : Int) = _
  have h2 : (BitVec.ofInt 64 1).toNat = 1 := by decide
  have h3 : ∀ n : Nat, n &&& 1 = n % 2 := fun n => Nat.and_one_is_mod n
  rw [BitVec.toNat_and, h2, bv_nat, h3, IntKind.wrap_i64]
  omega

theorem places_mod (b : Int) : places b = b % 64 := by
  unfold places
  rw [IntKind.wrap_u64]
  have h := bits_and_u64_nat (b % 18446744073709551616).toNat 63 (by omega) (by decide)
  rw [show (((b % 18446744073709551616).toNat : Nat) : Int) = b % 18446744073709551616 by omega] at h
  rw [show (63 : Int) = ((63 : Nat) : Int) from rfl, h, and63]
  omega

/-- A number of 64 bits. -/
def In64 (a : Int) : Prop := -9223372036854775808 ≤ a ∧ a < 9223372036854775808

section
variable (w : World) (a b : Int)

set_option maxRecDepth 100000 in
set_option maxHeartbeats 1000000 in
theorem cMade_add : Calls Tryz.prog 74 #[.string ⟨#[97, 100, 100]⟩, .int .i64 a, .int .i64 b] w fun e w' => e = .returned (.tuple #[.int .i64 (wrap64 (a + b)), .bool true]) ∧ w' = w := by
  go_enter Tryz.func74, Tryz.ntmps74
  go_wp2
  go_ret2
  exact ⟨rfl, rfl⟩

set_option maxRecDepth 100000 in
set_option maxHeartbeats 1000000 in
theorem cMade_sub : Calls Tryz.prog 74 #[.string ⟨#[115, 117, 98]⟩, .int .i64 a, .int .i64 b] w fun e w' => e = .returned (.tuple #[.int .i64 (wrap64 (a - b)), .bool true]) ∧ w' = w := by
  go_enter Tryz.func74, Tryz.ntmps74
  go_wp2
  go_ret2
  exact ⟨rfl, rfl⟩

set_option maxRecDepth 100000 in
set_option maxHeartbeats 1000000 in
theorem cMade_mul : Calls Tryz.prog 74 #[.string ⟨#[109, 117, 108]⟩, .int .i64 a, .int .i64 b] w fun e w' => e = .returned (.tuple #[.int .i64 (wrap64 (a * b)), .bool true]) ∧ w' = w := by
  go_enter Tryz.func74, Tryz.ntmps74
  go_wp2
  go_ret2
  exact ⟨rfl, rfl⟩

set_option maxRecDepth 100000 in
set_option maxHeartbeats 1000000 in
theorem cMade_and : Calls Tryz.prog 74 #[.string ⟨#[97, 110, 100]⟩, .int .i64 a, .int .i64 b] w fun e w' => e = .returned (.tuple #[.int .i64 (bits .and .i64 a b), .bool true]) ∧ w' = w := by
  go_enter Tryz.func74, Tryz.ntmps74
  go_wp2
  go_ret2
  exact ⟨rfl, rfl⟩

set_option maxRecDepth 100000 in
set_option maxHeartbeats 1000000 in
theorem cMade_or : Calls Tryz.prog 74 #[.string ⟨#[111, 114]⟩, .int .i64 a, .int .i64 b] w fun e w' => e = .returned (.tuple #[.int .i64 (bits .or .i64 a b), .bool true]) ∧ w' = w := by
  go_enter Tryz.func74, Tryz.ntmps74
  go_wp2
  go_ret2
  exact ⟨rfl, rfl⟩

set_option maxRecDepth 100000 in
set_option maxHeartbeats 1000000 in
theorem cMade_xor : Calls Tryz.prog 74 #[.string ⟨#[120, 111, 114]⟩, .int .i64 a, .int .i64 b] w fun e w' => e = .returned (.tuple #[.int .i64 (bits .xor .i64 a b), .bool true]) ∧ w' = w := by
  go_enter Tryz.func74, Tryz.ntmps74
  go_wp2
  go_ret2
  exact ⟨rfl, rfl⟩

set_option maxRecDepth 100000 in
set_option maxHeartbeats 1000000 in
theorem cMade_lt1 (h : a < b) : Calls Tryz.prog 74 #[.string ⟨#[108, 116]⟩, .int .i64 a, .int .i64 b] w fun e w' => e = .returned (.tuple #[.int .i64 (1), .bool true]) ∧ w' = w := by
  go_enter Tryz.func74, Tryz.ntmps74
  go_wp2
  go_ret2
  exact ⟨rfl, rfl⟩

set_option maxRecDepth 100000 in
set_option maxHeartbeats 1000000 in
theorem cMade_lt0 (h : ¬ a < b) : Calls Tryz.prog 74 #[.string ⟨#[108, 116]⟩, .int .i64 a, .int .i64 b] w fun e w' => e = .returned (.tuple #[.int .i64 (0), .bool true]) ∧ w' = w := by
  go_enter Tryz.func74, Tryz.ntmps74
  go_wp2
  go_ret2
  exact ⟨rfl, rfl⟩

set_option maxRecDepth 100000 in
set_option maxHeartbeats 1000000 in
theorem cMade_eq1 (h : a = b) : Calls Tryz.prog 74 #[.string ⟨#[101, 113]⟩, .int .i64 a, .int .i64 b] w fun e w' => e = .returned (.tuple #[.int .i64 (1), .bool true]) ∧ w' = w := by
  have h' : (a == b) = true := by simpa using h
  go_enter Tryz.func74, Tryz.ntmps74
  go_wp2
  go_ret2
  exact ⟨rfl, rfl⟩

set_option maxRecDepth 100000 in
set_option maxHeartbeats 1000000 in
theorem cMade_eq0 (h : ¬ a = b) : Calls Tryz.prog 74 #[.string ⟨#[101, 113]⟩, .int .i64 a, .int .i64 b] w fun e w' => e = .returned (.tuple #[.int .i64 (0), .bool true]) ∧ w' = w := by
  have h' : (a == b) = false := by simpa using h
  go_enter Tryz.func74, Tryz.ntmps74
  go_wp2
  go_ret2
  exact ⟨rfl, rfl⟩

set_option maxRecDepth 100000 in
set_option maxHeartbeats 1000000 in
theorem cDiv_d0 (h : b = 0) : Calls Tryz.prog 103 #[.string ⟨#[100, 105, 118]⟩, .int .i64 a, .int .i64 b] w fun e w' => e = .returned (.tuple #[.int .i64 (0), .bool false]) ∧ w' = w := by
  have h' : (b == 0) = true := by simpa using h
  go_enter Tryz.func103, Tryz.ntmps103
  go_wp2
  go_ret2
  exact ⟨rfl, rfl⟩

set_option maxRecDepth 100000 in
set_option maxHeartbeats 1000000 in
theorem cDiv_d1 (h : b = -1) : Calls Tryz.prog 103 #[.string ⟨#[100, 105, 118]⟩, .int .i64 a, .int .i64 b] w fun e w' => e = .returned (.tuple #[.int .i64 (wrap64 (-a)), .bool true]) ∧ w' = w := by
  have h0 : (b == 0) = false := by simp; omega
  have h' : (b == -1) = true := by simpa using h
  go_enter Tryz.func103, Tryz.ntmps103
  go_wp2
  go_ret2
  exact ⟨rfl, rfl⟩

set_option maxRecDepth 100000 in
set_option maxHeartbeats 1000000 in
theorem cDiv_d2 (h : ¬ b = 0) (h1 : ¬ b = -1) : Calls Tryz.prog 103 #[.string ⟨#[100, 105, 118]⟩, .int .i64 a, .int .i64 b] w fun e w' => e = .returned (.tuple #[.int .i64 (wrap64 (a.tdiv b)), .bool true]) ∧ w' = w := by
  have h0 : (b == 0) = false := by simpa using h
  have h' : (b == -1) = false := by simpa using h1
  go_enter Tryz.func103, Tryz.ntmps103
  go_wp2
  go_ret2
  exact ⟨rfl, rfl⟩

set_option maxRecDepth 100000 in
set_option maxHeartbeats 1000000 in
theorem cDiv_m0 (h : b = 0) : Calls Tryz.prog 103 #[.string ⟨#[109, 111, 100]⟩, .int .i64 a, .int .i64 b] w fun e w' => e = .returned (.tuple #[.int .i64 (0), .bool false]) ∧ w' = w := by
  have h' : (b == 0) = true := by simpa using h
  go_enter Tryz.func103, Tryz.ntmps103
  go_wp2
  go_ret2
  exact ⟨rfl, rfl⟩

set_option maxRecDepth 100000 in
set_option maxHeartbeats 1000000 in
theorem cDiv_m1 (h : b = -1) : Calls Tryz.prog 103 #[.string ⟨#[109, 111, 100]⟩, .int .i64 a, .int .i64 b] w fun e w' => e = .returned (.tuple #[.int .i64 (0), .bool true]) ∧ w' = w := by
  have h0 : (b == 0) = false := by simp; omega
  have h' : (b == -1) = true := by simpa using h
  go_enter Tryz.func103, Tryz.ntmps103
  go_wp2
  go_ret2
  exact ⟨rfl, rfl⟩

set_option maxRecDepth 100000 in
set_option maxHeartbeats 1000000 in
theorem cDiv_m2 (h : ¬ b = 0) (h1 : ¬ b = -1) : Calls Tryz.prog 103 #[.string ⟨#[109, 111, 100]⟩, .int .i64 a, .int .i64 b] w fun e w' => e = .returned (.tuple #[.int .i64 (a.tmod b), .bool true]) ∧ w' = w := by
  have h0 : (b == 0) = false := by simpa using h
  have h' : (b == -1) = false := by simpa using h1
  go_enter Tryz.func103, Tryz.ntmps103
  go_wp2
  go_ret2
  exact ⟨rfl, rfl⟩

theorem wrap_dbl (x : Int) (k : Nat) : wrap64 (wrap64 (x * 2 ^ k) + wrap64 (x * 2 ^ k)) = wrap64 (x * 2 ^ (k + 1)) := by
  have e : x * 2 ^ (k + 1) = x * 2 ^ k + x * 2 ^ k := by rw [Int.pow_succ, ← Int.mul_assoc]; omega
  rw [e]
  unfold wrap64
  omega

theorem half_in {a : Int} (h : In64 a) (k : Nat) : In64 (a / 2 ^ k) := by
  have hp : (0 : Int) < 2 ^ k := Int.pow_pos (by decide)
  obtain ⟨h1, h2⟩ := h
  constructor
  · rw [Int.le_ediv_iff_mul_le hp]
    have := Int.mul_le_mul_of_nonneg_left (show (1 : Int) ≤ 2 ^ k by omega) (show (0 : Int) ≤ 9223372036854775808 by decide)
    omega
  · rw [Int.ediv_lt_iff_lt_mul hp]
    have := Int.mul_le_mul_of_nonneg_left (show (1 : Int) ≤ 2 ^ k by omega) (show (0 : Int) ≤ 9223372036854775808 by decide)
    omega

theorem half_go {x : Int} (h : In64 x) : wrap64 ((wrap64 (x - x % 2)).tdiv 2) = x / 2 := by
  obtain ⟨h1, h2⟩ := h
  have e : wrap64 (x - x % 2) = 2 * (x / 2) := by unfold wrap64; omega
  rw [e, Int.mul_tdiv_cancel_left _ (by decide)]
  unfold wrap64
  omega

theorem half_step (a : Int) (k : Nat) : a / 2 ^ (k + 1) = (a / 2 ^ k) / 2 := by rw [Int.pow_succ, Int.ediv_ediv_of_nonneg (Int.le_of_lt (Int.pow_pos (by decide)))]

set_option maxRecDepth 100000 in
set_option maxHeartbeats 1000000 in
theorem cShift_up (ha : In64 a) (n : Nat) (hn : Hid (b % 64 = n)) (hn64 : n < 64) : Calls Tryz.prog 104 #[.int .i64 a, .int .i64 b, .bool true] w fun e w' => e = .returned (.int .i64 (wrap64 (a * 2 ^ n))) ∧ w' = w := by
  have hb : bits .and .i64 b 63 = (n : Int) := (bits63 b).trans hn.out
  have ha0 : Hid (a = wrap64 (a * 2 ^ 0)) := hid (by have := ha.1; have := ha.2; unfold wrap64; omega)
  clear ha
  go_enter Tryz.func104, Tryz.ntmps104
  go_wp2
  go_loopw [0, 8] (fun v0 v8 wr => ∃ k : Nat, k ≤ n ∧ v8 = .int .i64 k ∧ v0 = .int .i64 (wrap64 (a * 2 ^ k)) ∧ wr = w) (fun _ v8 _ => n - (intOf v8).toNat)
  case atStart => exact ⟨0, by omega, rfl, by rw [← ha0.out], rfl⟩
  case round =>
    obtain ⟨k, hk, rfl, rfl, rfl⟩ := hrel
    by_cases hlt : k < n
    · have hlt' : (k : Int) < (n : Int) := by omega
      have HW := hid (wrap_dbl a k)
      go_wp2
      refine ⟨⟨k + 1, by omega, by go_num, by rw [← HW.out], trivial⟩, by simp [intOf]; omega⟩
    · have hlt' : ¬ (k : Int) < (n : Int) := by omega
      obtain rfl : k = n := by omega
      go_wp2
      go_ret
      exact ⟨rfl, rfl⟩

set_option maxRecDepth 100000 in
set_option maxHeartbeats 1000000 in
theorem cShift_down (ha : In64 a) (n : Nat) (hn : Hid (b % 64 = n)) (hn64 : n < 64) : Calls Tryz.prog 104 #[.int .i64 a, .int .i64 b, .bool false] w fun e w' => e = .returned (.int .i64 (a / 2 ^ n)) ∧ w' = w := by
  have hb : bits .and .i64 b 63 = (n : Int) := (bits63 b).trans hn.out
  have HA := hid ha
  clear ha
  go_enter Tryz.func104, Tryz.ntmps104
  go_wp2
  go_loopw [0, 8] (fun v0 v8 wr => ∃ k : Nat, k ≤ n ∧ v8 = .int .i64 k ∧ v0 = .int .i64 (a / 2 ^ k) ∧ wr = w) (fun _ v8 _ => n - (intOf v8).toNat)
  case atStart => exact ⟨0, by omega, rfl, by simp, rfl⟩
  case round =>
    obtain ⟨k, hk, rfl, rfl, rfl⟩ := hrel
    by_cases hlt : k < n
    · have hlt' : (k : Int) < (n : Int) := by omega
      have HS := hid (half_step a k)
      have HH := hid (half_in HA.out k)
      have h1 := bits1 (a / 2 ^ k)
      generalize a / 2 ^ k = x at *
      go_wp2
      refine ⟨⟨k + 1, by omega, by go_num, ?_, trivial⟩, by simp [intOf]; omega⟩
      rw [HS.out, half_go HH.out]
    · have hlt' : ¬ (k : Int) < (n : Int) := by omega
      obtain rfl : k = n := by omega
      go_wp2
      go_ret
      exact ⟨rfl, rfl⟩

set_option maxRecDepth 100000 in
set_option maxHeartbeats 1000000 in
theorem cMade_div (r : Int) (ok : Bool) (hd : Hid (Calls Tryz.prog 103 #[.string ⟨#[100, 105, 118]⟩, .int .i64 a, .int .i64 b] w fun e w' => e = .returned (.tuple #[.int .i64 r, .bool ok]) ∧ w' = w)) : Calls Tryz.prog 74 #[.string ⟨#[100, 105, 118]⟩, .int .i64 a, .int .i64 b] w fun e w' => e = .returned (.tuple #[.int .i64 r, .bool ok]) ∧ w' = w := by
  go_enter Tryz.func74, Tryz.ntmps74
  go_wp2_with fail
  refine hd.out.mono ?_
  rintro e W1 ⟨rfl, rfl⟩
  go_wp2
  go_ret2
  exact ⟨rfl, rfl⟩

set_option maxRecDepth 100000 in
set_option maxHeartbeats 1000000 in
theorem cMade_mod (r : Int) (ok : Bool) (hd : Hid (Calls Tryz.prog 103 #[.string ⟨#[109, 111, 100]⟩, .int .i64 a, .int .i64 b] w fun e w' => e = .returned (.tuple #[.int .i64 r, .bool ok]) ∧ w' = w)) : Calls Tryz.prog 74 #[.string ⟨#[109, 111, 100]⟩, .int .i64 a, .int .i64 b] w fun e w' => e = .returned (.tuple #[.int .i64 r, .bool ok]) ∧ w' = w := by
  go_enter Tryz.func74, Tryz.ntmps74
  go_wp2_with fail
  refine hd.out.mono ?_
  rintro e W1 ⟨rfl, rfl⟩
  go_wp2
  go_ret2
  exact ⟨rfl, rfl⟩

set_option maxRecDepth 100000 in
set_option maxHeartbeats 1000000 in
theorem cMade_shl (r : Int) (hd : Hid (Calls Tryz.prog 104 #[.int .i64 a, .int .i64 b, .bool true] w fun e w' => e = .returned (.int .i64 r) ∧ w' = w)) : Calls Tryz.prog 74 #[.string ⟨#[115, 104, 108]⟩, .int .i64 a, .int .i64 b] w fun e w' => e = .returned (.tuple #[.int .i64 r, .bool true]) ∧ w' = w := by
  go_enter Tryz.func74, Tryz.ntmps74
  go_wp2_with fail
  refine hd.out.mono ?_
  rintro e W1 ⟨rfl, rfl⟩
  go_wp2
  go_ret2
  exact ⟨rfl, rfl⟩

set_option maxRecDepth 100000 in
set_option maxHeartbeats 1000000 in
theorem cMade_shr (r : Int) (hd : Hid (Calls Tryz.prog 104 #[.int .i64 a, .int .i64 b, .bool false] w fun e w' => e = .returned (.int .i64 r) ∧ w' = w)) : Calls Tryz.prog 74 #[.string ⟨#[115, 104, 114]⟩, .int .i64 a, .int .i64 b] w fun e w' => e = .returned (.tuple #[.int .i64 r, .bool true]) ∧ w' = w := by
  go_enter Tryz.func74, Tryz.ntmps74
  go_wp2_with fail
  refine hd.out.mono ?_
  rintro e W1 ⟨rfl, rfl⟩
  go_wp2
  go_ret2
  exact ⟨rfl, rfl⟩

/-- The document's operations make what the program's do. -/
theorem cMade_any (ha : In64 a) (op : Nat) (hop : op < 12) : Calls Tryz.prog 74 #[.string (opWords op), .int .i64 a, .int .i64 b] w fun e w' => e = .returned (.tuple #[.int .i64 ((opV op a b).getD 0), .bool (opV op a b).isSome]) ∧ w' = w := by
  have hpl := places_mod b
  have hmin : min (places b).toNat 64 = (b % 64).toNat := by rw [hpl]; omega
  obtain ⟨n, hn⟩ : ∃ n : Nat, b % 64 = n := ⟨(b % 64).toNat, by omega⟩
  have hn64 : n < 64 := by omega
  rw [hn] at hmin
  have hmin' : min (places b).toNat 64 = n := by rw [hmin]; rfl
  have hc : op = 0 ∨ op = 1 ∨ op = 2 ∨ op = 3 ∨ op = 4 ∨ op = 5 ∨ op = 6 ∨ op = 7 ∨ op = 8 ∨ op = 9 ∨ op = 10 ∨ op = 11 := by omega
  rcases hc with rfl | rfl | rfl | rfl | rfl | rfl | rfl | rfl | rfl | rfl | rfl | rfl
  · exact cMade_add w a b
  · exact cMade_sub w a b
  · exact cMade_mul w a b
  · by_cases h0 : b = 0
    · have e : opV 3 a b = none := by simp [opV, h0]
      rw [e]
      exact cMade_div w a b 0 false (cDiv_d0 w a b h0)
    · have e : opV 3 a b = some (wrap64 (a.tdiv b)) := by simp [opV, h0]
      rw [e]
      by_cases h1 : b = -1
      · have e2 : wrap64 (a.tdiv b) = wrap64 (-a) := by rw [h1, Int.tdiv_neg, Int.tdiv_one]
        have := cMade_div w a b _ true (cDiv_d1 w a b h1)
        rw [← e2] at this
        exact this
      · exact cMade_div w a b _ true (cDiv_d2 w a b h0 h1)
  · by_cases h0 : b = 0
    · have e : opV 4 a b = none := by simp [opV, h0]
      rw [e]
      exact cMade_mod w a b 0 false (cDiv_m0 w a b h0)
    · have e : opV 4 a b = some (a.tmod b) := by simp [opV, h0]
      rw [e]
      by_cases h1 : b = -1
      · have e2 : a.tmod b = 0 := by rw [h1, Int.tmod_neg, Int.tmod_one]
        have := cMade_mod w a b _ true (cDiv_m1 w a b h1)
        rw [← e2] at this
        exact this
      · exact cMade_mod w a b _ true (cDiv_m2 w a b h0 h1)
  · exact cMade_and w a b
  · exact cMade_or w a b
  · exact cMade_xor w a b
  · have e : opV 8 a b = some (wrap64 (a * 2 ^ n)) := by simp [opV, hmin']
    rw [e]
    exact cMade_shl w a b _ (cShift_up w a b ha n hn hn64)
  · have e : opV 9 a b = some (a / 2 ^ n) := by simp [opV, hmin']
    rw [e]
    exact cMade_shr w a b _ (cShift_down w a b ha n hn hn64)
  · by_cases h : a < b
    · have e : opV 10 a b = some 1 := by simp [opV, h]
      rw [e]
      exact cMade_lt1 w a b h
    · have e : opV 10 a b = some 0 := by simp [opV, h]
      rw [e]
      exact cMade_lt0 w a b h
  · by_cases h : a = b
    · have e : opV 11 a b = some 1 := by simp [opV, h]
      rw [e]
      exact cMade_eq1 w a b h
    · have e : opV 11 a b = some 0 := by simp [opV, h]
      rw [e]
      exact cMade_eq0 w a b h
end
end Go.Proofs.YtfhkfnoajbbfdaaGreatDoor

/- The document's machine at work: what a thread's doing leaves of the machine. -/
namespace Go.Proofs.YtfhkfnoajbbfdaaGreatDoor
open Go.RowKit

/-- What a thread's doing may turn. -/
abbrev footC (mb : Nat) (t : CT) : Nat → Nat → Prop := fun k _ => k = mb ∨ k = t.b ∨ k = t.rb ∨ t.cv.ownBlock = some k ∨ t.wv.ownBlock = some k ∨ t.ov.ownBlock = some k

theorem CMach.upd {D : Nat → Prop} {lab lab' : Nat → Nat × Nat} {w W : World} {bm mb : Nat} {tv : Value} {m m' : Nat → Int} {ts : List CT} (h : CMach D lab w bm mb tv m ts) (i : Nat) (hi : i < ts.length) (t' : CT)
    (hc : Chg (footC mb ts[i]) w W) (ht : CThAt W t') (hb : t'.b = ts[i].b) (hl : LabT D lab' i t') (hlab : ∀ k, k < w.heap.size → lab' k = lab k) (hm : ∀ j, j < 256 → W.cell? ⟨mb, j, none⟩ = some (.int .i64 (m' j))) :
    CMach D lab' W bm mb tv m' (ts.set i t') ∧ Chg (fun k _ => D k) w W := by
  have lbm := lt_of_shape h.sh
  have lmb := lt_of_shape h.msh
  have hlk := h.lts i hi
  have out : ∀ k a x, lab k = (a, x) → a ≠ i + 1 → (a, x) ≠ (0, 1) → ∀ o, ¬ footC mb ts[i] k o := by
    rintro k a x hk ha h0 o (e | e | e | e | e | e)
    · exact h0 (hk.symm.trans (e ▸ h.lm.1))
    · have := hk.symm.trans (e ▸ hlk.b.1); simp at this; omega
    · have := hk.symm.trans (e ▸ hlk.rb.1); simp at this; omega
    · have := hk.symm.trans (hlk.cv k e).1; simp at this; omega
    · have := hk.symm.trans (hlk.wv k e).1; simp at this; omega
    · have := hk.symm.trans (hlk.ov k e).1; simp at this; omega
  refine ⟨⟨(hc.shape _ lbm).trans h.sh, (hc.cell _ _ lbm (out _ _ _ h.lb.1 (by omega) (by simp) _)).trans h.memc, (hc.cell _ _ lbm (out _ _ _ h.lb.1 (by omega) (by simp) _)).trans h.tc, fun j hj => (hc.frozen _ _ lbm).trans (h.free j hj), (hc.shape _ lmb).trans h.msh, hm, fun j hj => (hc.frozen _ _ lmb).trans (h.mfree j hj), ?_, ?_, ⟨(hlab _ lbm).trans h.lb.1, h.lb.2⟩, ⟨(hlab _ lmb).trans h.lm.1, h.lm.2⟩, fun q hq => ⟨(hlab _ (h.trow.lt q hq).2).trans (h.lt q hq).1, (h.lt q hq).2⟩, ?_⟩, hc.mono ?_⟩
  · have hr := ownsRow_chg h.trow hc (fun q hq o => out _ _ _ (h.lt q hq).1 (by omega) (by simp) o)
    have e : (ts.set i t').map (fun t => ptr t.b) = ts.map fun t => ptr t.b := by
      rw [List.map_set, hb]
      apply List.ext_getElem
      · simp
      · intro j h1 h2
        rw [List.getElem_set]
        split
        · rename_i e; subst e; simp
        · rfl
    rw [e, List.length_set]
    exact hr
  · intro j hj
    have hj' : j < ts.length := by simpa using hj
    rw [List.getElem_set]
    by_cases e : i = j
    · subst e
      rw [if_pos rfl]
      exact ht
    · rw [if_neg e]
      have l := h.lts j hj'
      have ne : ∀ q x, lab q = (j + 1, x) → ∀ o, ¬ footC mb ts[i] q o := fun q x hq o => out q _ _ hq (by omega) (by simp) o
      exact (h.th j hj').keep hc (ne _ _ l.b.1) (ne _ _ l.rb.1) (fun g hg => ne _ _ (l.cv g hg).1) (fun g hg => ne _ _ (l.wv g hg).1) (fun g hg => ne _ _ (l.ov g hg).1)
  · intro j hj
    have hj' : j < ts.length := by simpa using hj
    rw [List.getElem_set]
    by_cases e : i = j
    · subst e
      rw [if_pos rfl]
      exact hl
    · rw [if_neg e]
      have l := h.lts j hj'
      have t := h.th j hj'
      exact ⟨⟨(hlab _ (lt_of_shape t.sh)).trans l.b.1, l.b.2⟩, ⟨(hlab _ (lt_of_shape t.rsh)).trans l.rb.1, l.rb.2⟩, fun g hg => ⟨(hlab _ (t.crow.lt g hg).2).trans (l.cv g hg).1, (l.cv g hg).2⟩, fun g hg => ⟨(hlab _ (t.wrow.lt g hg).2).trans (l.wv g hg).1, (l.wv g hg).2⟩, fun g hg => ⟨(hlab _ (t.orow.lt g hg).2).trans (l.ov g hg).1, (l.ov g hg).2⟩⟩
  · rintro k o hk (e | e | e | e | e | e)
    · exact e ▸ h.lm.2
    · exact e ▸ hlk.b.2
    · exact e ▸ hlk.rb.2
    · exact (hlk.cv k e).2
    · exact (hlk.wv k e).2
    · exact (hlk.ov k e).2
end Go.Proofs.YtfhkfnoajbbfdaaGreatDoor
