import Derived.Test.YtfhkfnoajbbfdaaGreatDoorPart05
import Derived.WalkLawsBesides
import Derived.Lib.ParseIntB
/- The document's numbers: the digits. -/
namespace Go.Proofs.YtfhkfnoajbbfdaaGreatDoor
open Go.RowKit

theorem bs_some {t : ByteArray} (h0 : 0 < t.size) : t.toList.isEmpty = false := by
  rw [ByteArray.toList_eq]
  cases h : t.data.toList with
  | nil =>
    have : t.data.toList.length = 0 := by rw [h]; rfl
    rw [Array.length_toList] at this
    exact absurd h0 (by show ¬ 0 < t.data.size; omega)
  | cons a l => rfl

/-- The number that digits write. -/
def decV (l : List UInt8) : Int := l.foldl (fun v b => 10 * v + ((b.toNat : Int) - 48)) 0

theorem decV_snoc (l : List UInt8) (b : UInt8) : decV (l ++ [b]) = 10 * decV l + ((b.toNat : Int) - 48) := by simp [decV, List.foldl_append]

theorem decV_take (t : ByteArray) (k : Nat) (h : k < t.size) : decV (t.data.toList.take (k + 1)) = 10 * decV (t.data.toList.take k) + ((t[k].toNat : Int) - 48) := by
  have hk : k < t.data.toList.length := by rw [Array.length_toList]; exact h
  rw [List.take_succ_eq_append_getElem hk, decV_snoc]
  simp [ByteArray.getElem_eq_getElem_data]

/-- The number that the first digits write. -/
def decK (t : ByteArray) (k : Nat) : Int := decV (t.data.toList.take k)

theorem decK_zero (t : ByteArray) : decK t 0 = 0 := by simp [decK, decV]
theorem decK_step (t : ByteArray) (k : Nat) (h : k < t.size) : decK t (k + 1) = 10 * decK t k + ((t[k].toNat : Int) - 48) := decV_take t k h
theorem decK_all (t : ByteArray) (k : Nat) (h : k = t.size) : decK t k = decV t.data.toList := by
  subst h
  unfold decK
  rw [List.take_of_length_le (by rw [Array.length_toList]; exact Nat.le_refl _)]

theorem dec_acc (l : List UInt8) : ∀ v : Int, l.foldl (fun v b => 10 * v + ((b.toNat : Int) - 48)) v = v * 10 ^ l.length + decV l := by
  induction l with
  | nil => intro v; simp [decV]
  | cons a l ih =>
    intro v
    unfold decV
    rw [List.foldl_cons, List.foldl_cons, ih, ih, List.length_cons, Int.pow_succ]
    generalize (10 : Int) ^ l.length = e
    generalize decV l = d
    have h1 : (10 * v + ((a.toNat : Int) - 48)) * e = v * (e * 10) + ((a.toNat : Int) - 48) * e := by
      rw [Int.add_mul, Int.mul_comm e 10, ← Int.mul_assoc, Int.mul_comm v 10]
    have h2 : (10 * 0 + ((a.toNat : Int) - 48)) * e = ((a.toNat : Int) - 48) * e := by simp
    rw [h1, h2]
    omega

theorem decV_cons (a : UInt8) (l : List UInt8) : decV (a :: l) = ((a.toNat : Int) - 48) * 10 ^ l.length + decV l := by
  have := dec_acc l ((a.toNat : Int) - 48)
  unfold decV at *
  rw [List.foldl_cons]
  simpa using this

def Dig (l : List UInt8) : Prop := ∀ b ∈ l, 48 ≤ b.toNat ∧ b.toNat ≤ 57

theorem decV_in {l : List UInt8} (h : Dig l) : 0 ≤ decV l ∧ decV l < 10 ^ l.length := by
  induction l with
  | nil => simp [decV]
  | cons a l ih =>
    have ha := h a (List.mem_cons_self)
    have hi := ih (fun b hb => h b (List.mem_cons_of_mem _ hb))
    rw [decV_cons, List.length_cons, Int.pow_succ]
    have hp : (0 : Int) < 10 ^ l.length := Int.pow_pos (by decide)
    generalize (10 : Int) ^ l.length = e at *
    obtain ⟨d, hd⟩ : ∃ d : Int, d = (a.toNat : Int) - 48 := ⟨_, rfl⟩
    rw [← hd]
    have h0 : 0 ≤ d := by omega
    have h9 : d ≤ 9 := by omega
    have m1 : 0 ≤ d * e := Int.mul_nonneg h0 (Int.le_of_lt hp)
    have m2 : d * e ≤ 9 * e := Int.mul_le_mul_of_nonneg_right h9 (Int.le_of_lt hp)
    omega

/-- Words of as many digits stand in the order of their numbers. -/
theorem less_dec : ∀ (x y : List UInt8), Dig x → Dig y → x.length = y.length → (Op.bytesLess x y = true ↔ decV x < decV y)
  | [], [], _, _, _ => by simp [Op.bytesLess, decV]
  | [], _ :: _, _, _, h => by simp at h
  | _ :: _, [], _, _, h => by simp at h
  | a :: x, b :: y, hx, hy, h => by
    have hl : x.length = y.length := by simpa using h
    have ha := hx a (List.mem_cons_self)
    have hb := hy b (List.mem_cons_self)
    have hx' : Dig x := fun c hc => hx c (List.mem_cons_of_mem _ hc)
    have hy' : Dig y := fun c hc => hy c (List.mem_cons_of_mem _ hc)
    have ih := less_dec x y hx' hy' hl
    have dx := decV_in hx'
    have dy := decV_in hy'
    rw [decV_cons, decV_cons, hl]
    rw [hl] at dx
    have hp : (0 : Int) < 10 ^ y.length := Int.pow_pos (by decide)
    generalize (10 : Int) ^ y.length = e at *
    have hab : (a < b ↔ a.toNat < b.toNat) := UInt8.lt_iff_toNat_lt
    have heq : (a = b ↔ a.toNat = b.toNat) := ⟨fun h => by rw [h], fun h => UInt8.toNat_inj.1 h⟩
    simp only [Op.bytesLess, Bool.or_eq_true, decide_eq_true_eq, Bool.and_eq_true, beq_iff_eq]
    rw [ih, hab, heq]
    obtain ⟨p, hpd⟩ : ∃ p : Int, p = (a.toNat : Int) - 48 := ⟨_, rfl⟩
    obtain ⟨q, hqd⟩ : ∃ q : Int, q = (b.toNat : Int) - 48 := ⟨_, rfl⟩
    rw [← hpd, ← hqd]
    have h1 : (a.toNat < b.toNat ↔ p < q) := by omega
    have h2 : (a.toNat = b.toNat ↔ p = q) := by omega
    rw [h1, h2]
    constructor
    · rintro (hlt | ⟨rfl, hlt⟩)
      · have : (p + 1) * e ≤ q * e := Int.mul_le_mul_of_nonneg_right (by omega) (Int.le_of_lt hp)
        rw [Int.add_mul] at this
        omega
      · omega
    · intro hlt
      rcases Int.lt_trichotomy p q with h | h | h
      · exact .inl h
      · subst h; exact .inr ⟨rfl, by omega⟩
      · have : (q + 1) * e ≤ p * e := Int.mul_le_mul_of_nonneg_right (by omega) (Int.le_of_lt hp)
        rw [Int.add_mul] at this
        omega

/-- At most nineteen digits: the library's reader makes their number. -/
theorem parse_digits : ∀ (l : List UInt8) (acc : Nat), Dig l → (acc + 1) * 10 ^ l.length ≤ 10000000000000000000 → ∃ u : Nat, Lib.parseUintM 18446744073709551615 acc l = .ok u ∧ (u : Int) = (acc : Int) * 10 ^ l.length + decV l
  | [], acc, _, _ => ⟨acc, rfl, by simp [decV]⟩
  | c :: r, acc, hd, hb => by
    have hc := hd c (List.mem_cons_self)
    have hd' : Dig r := fun b hb => hd b (List.mem_cons_of_mem _ hb)
    have hp : 0 < 10 ^ r.length := Nat.pow_pos (by decide)
    have hb2 : ((acc + 1) * 10) * 10 ^ r.length ≤ 10000000000000000000 := by
      rw [List.length_cons, Nat.pow_succ] at hb
      rw [Nat.mul_assoc, Nat.mul_comm 10 (10 ^ r.length)]
      exact hb
    have hle : (acc + 1) * 10 ≤ 10000000000000000000 := Nat.le_trans (Nat.le_mul_of_pos_right _ hp) hb2
    have hstep : (acc * 10 + (c.toNat - 48) + 1) * 10 ^ r.length ≤ 10000000000000000000 := Nat.le_trans (Nat.mul_le_mul_right _ (by omega)) hb2
    obtain ⟨u, h1, h2⟩ := parse_digits r (acc * 10 + (c.toNat - 48)) hd' hstep
    refine ⟨u, ?_, ?_⟩
    · unfold Lib.parseUintM
      rw [if_pos hc, if_neg (by omega), if_neg (by omega)]
      exact h1
    · rw [h2, decV_cons, List.length_cons, Int.pow_succ]
      have hcast : ((acc * 10 + (c.toNat - 48) : Nat) : Int) = (acc : Int) * 10 + ((c.toNat : Int) - 48) := by omega
      rw [hcast]
      generalize (10 : Int) ^ r.length = e
      rw [Int.add_mul, Int.mul_assoc, Int.mul_comm 10 e]
      omega

theorem wrap_dig (x d : Int) : wrap64 (wrap64 (10 * wrap64 x) + d) = wrap64 (10 * x + d) := by unfold wrap64; omega
theorem wrap_digN (x d : Int) : wrap64 (wrap64 (10 * wrap64 (-x)) - d) = wrap64 (-(10 * x + d)) := by unfold wrap64; omega

set_option maxRecDepth 100000 in
set_option maxHeartbeats 1000000 in
theorem cNumber_short (w : World) (t : ByteArray) (h0 : 0 < t.size) (h1 : t.size < 19) (hm : ¬ (t[0].toNat : Int) = 45) (hz : ¬ (t[0].toNat : Int) = 48) (hd : Hid (∀ j (h : j < t.size), 48 ≤ t[j].toNat ∧ t[j].toNat ≤ 57)) :
    Calls Tryz.prog 126 #[.string t] w fun e w' => e = .returned (.tuple #[.int .i64 (wrap64 (decV t.data.toList)), .bool true]) ∧ w' = w := by
  have h0' : (0 : Int) < (t.size : Int) := by omega
  have h1' : ¬ (19 : Int) < (t.size : Int) := by omega
  have h2' : ¬ (t.size : Int) = 19 := by omega
  have hne := bs_some h0
  have hne' : ¬ t.toList = [] := fun h => by simp [h] at hne
  go_enter Tryz.func126, Tryz.ntmps126
  go_wp2
  go_loopw [7, 8] (fun v7 v8 wr => ∃ k : Nat, k ≤ t.size ∧ v8 = .int .i64 k ∧ v7 = .int .i64 (wrap64 (decV (t.data.toList.take k))) ∧ wr = w) (fun _ v8 _ => t.size - (intOf v8).toNat)
  case atStart => exact ⟨0, by omega, rfl, by simp [decV, wrap64], rfl⟩
  case round =>
    obtain ⟨k, hk, rfl, rfl, rfl⟩ := hrel
    by_cases hlt : k < t.size
    · have hlt' : (k : Int) < (t.size : Int) := by omega
      have hq := hd.out k hlt
      have q1 : ¬ (t[k].toNat : Int) < 48 := by omega
      have q2 : ¬ (57 : Int) < (t[k].toNat : Int) := by omega
      have hs := decV_take t k hlt
      have hwd := wrap_dig (decV (t.data.toList.take k)) ((t[k].toNat : Int) - 48)
      rw [← hs] at hwd
      have HS := hid hs
      clear hs
      go_wp2
      go_roundw
      case rel => exact ⟨k + 1, by omega, by go_num, by rw [hwd], trivial⟩
      case measure => simp [intOf]; omega
    · have hlt' : ¬ (k : Int) < (t.size : Int) := by omega
      obtain rfl : k = t.size := by omega
      have hall : t.data.toList.take t.size = t.data.toList := List.take_of_length_le (by rw [Array.length_toList]; exact Nat.le_refl _)
      rw [hall]
      go_wp2
      go_ret2
      exact ⟨rfl, rfl⟩
end Go.Proofs.YtfhkfnoajbbfdaaGreatDoor

/- The document's numbers: words without a sign ahead. -/
namespace Go.Proofs.YtfhkfnoajbbfdaaGreatDoor
open Go.RowKit

abbrev mostP : List UInt8 := [57, 50, 50, 51, 51, 55, 50, 48, 51, 54, 56, 53, 52, 55, 55, 53, 56, 48, 55]

section
variable (w : World) (t : ByteArray)

set_option maxRecDepth 100000 in
set_option maxHeartbeats 1000000 in
theorem cN_empty : Calls Tryz.prog 126 #[.string ⟨#[]⟩] w fun e w' => e = .returned (.tuple #[.int .i64 0, .bool false]) ∧ w' = w := by
  go_enter Tryz.func126, Tryz.ntmps126
  go_wp2
  go_ret2
  exact ⟨rfl, rfl⟩

set_option maxRecDepth 100000 in
set_option maxHeartbeats 1000000 in
theorem cN_long (h1 : 19 < t.size) (hm : ¬ (t[0].toNat : Int) = 45) : Calls Tryz.prog 126 #[.string t] w fun e w' => e = .returned (.tuple #[.int .i64 0, .bool false]) ∧ w' = w := by
  have h0' : (0 : Int) < (t.size : Int) := by omega
  have h1' : (19 : Int) < (t.size : Int) := by omega
  have hne := bs_some (show 0 < t.size by omega)
  have hne' : ¬ t.toList = [] := fun h => by simp [h] at hne
  go_enter Tryz.func126, Tryz.ntmps126
  go_wp2
  go_ret2
  exact ⟨rfl, rfl⟩

set_option maxRecDepth 100000 in
set_option maxHeartbeats 1000000 in
theorem cN_big (h1 : t.size = 19) (hm : ¬ (t[0].toNat : Int) = 45) (hb : Op.bytesLess t.toList mostP = false) (hb2 : (t.toList == mostP) = false) : Calls Tryz.prog 126 #[.string t] w fun e w' => e = .returned (.tuple #[.int .i64 0, .bool false]) ∧ w' = w := by
  have h0' : (0 : Int) < (t.size : Int) := by omega
  have h1' : ¬ (19 : Int) < (t.size : Int) := by omega
  have h2' : (t.size : Int) = 19 := by omega
  have hb3 : ¬ t.toList = mostP := by simpa using hb2
  have hne := bs_some (show 0 < t.size by omega)
  have hne' : ¬ t.toList = [] := fun h => by simp [h] at hne
  go_enter Tryz.func126, Tryz.ntmps126
  go_wp2
  go_ret2
  exact ⟨rfl, rfl⟩

set_option maxRecDepth 100000 in
set_option maxHeartbeats 1000000 in
theorem cN_digits19 (h1 : t.size = 19) (hb : Op.bytesLess t.toList mostP = true) (hm : ¬ (t[0].toNat : Int) = 45) (hz : ¬ (t[0].toNat : Int) = 48) (hd : Hid (∀ j (h : j < t.size), 48 ≤ t[j].toNat ∧ t[j].toNat ≤ 57)) :
    Calls Tryz.prog 126 #[.string t] w fun e w' => e = .returned (.tuple #[.int .i64 (wrap64 (decV t.data.toList)), .bool true]) ∧ w' = w := by
  have h0' : (0 : Int) < (t.size : Int) := by omega
  have h1' : ¬ (19 : Int) < (t.size : Int) := by omega
  have h2' : (t.size : Int) = 19 := by omega
  have hne := bs_some (show 0 < t.size by omega)
  have hne' : ¬ t.toList = [] := fun h => by simp [h] at hne
  go_enter Tryz.func126, Tryz.ntmps126
  go_wp2
  go_loopw [7, 8] (fun v7 v8 wr => ∃ k : Nat, k ≤ t.size ∧ v8 = .int .i64 k ∧ v7 = .int .i64 (wrap64 (decV (t.data.toList.take k))) ∧ wr = w) (fun _ v8 _ => t.size - (intOf v8).toNat)
  case atStart => exact ⟨0, by omega, rfl, by simp [decV, wrap64], rfl⟩
  case round =>
    obtain ⟨k, hk, rfl, rfl, rfl⟩ := hrel
    by_cases hlt : k < t.size
    · have hlt' : (k : Int) < (t.size : Int) := by omega
      have hq := hd.out k hlt
      have q1 : ¬ (t[k].toNat : Int) < 48 := by omega
      have q2 : ¬ (57 : Int) < (t[k].toNat : Int) := by omega
      have hs := decV_take t k hlt
      have hwd := wrap_dig (decV (t.data.toList.take k)) ((t[k].toNat : Int) - 48)
      rw [← hs] at hwd
      have HS := hid hs
      clear hs
      go_wp2
      go_roundw
      case rel => exact ⟨k + 1, by omega, by go_num, by rw [hwd], trivial⟩
      case measure => simp [intOf]; omega
    · have hlt' : ¬ (k : Int) < (t.size : Int) := by omega
      obtain rfl : k = t.size := by omega
      have hall : t.data.toList.take t.size = t.data.toList := List.take_of_length_le (by rw [Array.length_toList]; exact Nat.le_refl _)
      rw [hall]
      go_wp2
      go_ret2
      exact ⟨rfl, rfl⟩
set_option maxRecDepth 100000 in
set_option maxHeartbeats 1000000 in
theorem cN_nought18 (h0 : 1 < t.size) (h1 : t.size < 19) (hz : (t[0].toNat : Int) = 48) : Calls Tryz.prog 126 #[.string t] w fun e w' => e = .returned (.tuple #[.int .i64 0, .bool false]) ∧ w' = w := by
  have h0' : (0 : Int) < (t.size : Int) := by omega
  have h01 : (1 : Int) < (t.size : Int) := by omega
  have h1' : ¬ (19 : Int) < (t.size : Int) := by omega
  have h2' : ¬ (t.size : Int) = 19 := by omega
  have hm : ¬ (t[0].toNat : Int) = 45 := by omega
  have hne := bs_some (show 0 < t.size by omega)
  have hne' : ¬ t.toList = [] := fun h => by simp [h] at hne
  go_enter Tryz.func126, Tryz.ntmps126
  go_wp2
  go_ret2
  exact ⟨rfl, rfl⟩

set_option maxRecDepth 100000 in
set_option maxHeartbeats 1000000 in
theorem cN_bad18 (h0 : 0 < t.size) (h1 : t.size < 19) (hm : ¬ (t[0].toNat : Int) = 45) (hz : ¬ (t[0].toNat : Int) = 48) (k0 : Nat) (hk0 : k0 < t.size) (hd : Hid (∀ j (h : j < t.size), j < k0 → 48 ≤ t[j].toNat ∧ t[j].toNat ≤ 57)) (hbad : t[k0].toNat < 48 ∨ 57 < t[k0].toNat) :
    Calls Tryz.prog 126 #[.string t] w fun e w' => e = .returned (.tuple #[.int .i64 0, .bool false]) ∧ w' = w := by
  have h0' : (0 : Int) < (t.size : Int) := by omega
  have h1' : ¬ (19 : Int) < (t.size : Int) := by omega
  have h2' : ¬ (t.size : Int) = 19 := by omega
  have hne := bs_some h0
  have hne' : ¬ t.toList = [] := fun h => by simp [h] at hne
  go_enter Tryz.func126, Tryz.ntmps126
  go_wp2
  go_loopw [7, 8] (fun v7 v8 wr => ∃ (k : Nat) (v : Int), k ≤ k0 ∧ v8 = .int .i64 k ∧ v7 = .int .i64 v ∧ wr = w) (fun _ v8 _ => t.size - (intOf v8).toNat)
  case atStart => exact ⟨0, 0, by omega, rfl, rfl, rfl⟩
  case round =>
    obtain ⟨k, v, hk, rfl, rfl, rfl⟩ := hrel
    have hlt : k < t.size := by omega
    have hlt' : (k : Int) < (t.size : Int) := by omega
    by_cases hkk : k < k0
    · have hq := hd.out k hlt hkk
      have q1 : ¬ (t[k].toNat : Int) < 48 := by omega
      have q2 : ¬ (57 : Int) < (t[k].toNat : Int) := by omega
      go_wp2
      go_roundw
      case rel => exact ⟨k + 1, _, by omega, by go_num, rfl, trivial⟩
      case measure => simp [intOf]; omega
    · obtain rfl : k = k0 := by omega
      rcases hbad with hb | hb
      · have q1 : (t[k].toNat : Int) < 48 := by omega
        go_wp2
        go_ret2
        exact ⟨rfl, rfl⟩
      · have q1 : ¬ (t[k].toNat : Int) < 48 := by omega
        have q2 : (57 : Int) < (t[k].toNat : Int) := by omega
        go_wp2
        go_ret2
        exact ⟨rfl, rfl⟩

set_option maxRecDepth 100000 in
set_option maxHeartbeats 1000000 in
theorem cN_nought19 (h1 : t.size = 19) (hb : Op.bytesLess t.toList mostP = true) (hz : (t[0].toNat : Int) = 48) : Calls Tryz.prog 126 #[.string t] w fun e w' => e = .returned (.tuple #[.int .i64 0, .bool false]) ∧ w' = w := by
  have h0' : (0 : Int) < (t.size : Int) := by omega
  have h01 : (1 : Int) < (t.size : Int) := by omega
  have h1' : ¬ (19 : Int) < (t.size : Int) := by omega
  have h2' : (t.size : Int) = 19 := by omega
  have hm : ¬ (t[0].toNat : Int) = 45 := by omega
  have hne := bs_some (show 0 < t.size by omega)
  have hne' : ¬ t.toList = [] := fun h => by simp [h] at hne
  go_enter Tryz.func126, Tryz.ntmps126
  go_wp2
  go_ret2
  exact ⟨rfl, rfl⟩

set_option maxRecDepth 100000 in
set_option maxHeartbeats 1000000 in
theorem cN_bad19 (h0 : 0 < t.size) (h1 : t.size = 19) (hb : Op.bytesLess t.toList mostP = true) (hm : ¬ (t[0].toNat : Int) = 45) (hz : ¬ (t[0].toNat : Int) = 48) (k0 : Nat) (hk0 : k0 < t.size) (hd : Hid (∀ j (h : j < t.size), j < k0 → 48 ≤ t[j].toNat ∧ t[j].toNat ≤ 57)) (hbad : t[k0].toNat < 48 ∨ 57 < t[k0].toNat) :
    Calls Tryz.prog 126 #[.string t] w fun e w' => e = .returned (.tuple #[.int .i64 0, .bool false]) ∧ w' = w := by
  have h0' : (0 : Int) < (t.size : Int) := by omega
  have h1' : ¬ (19 : Int) < (t.size : Int) := by omega
  have h2' : (t.size : Int) = 19 := by omega
  have hne := bs_some h0
  have hne' : ¬ t.toList = [] := fun h => by simp [h] at hne
  go_enter Tryz.func126, Tryz.ntmps126
  go_wp2
  go_loopw [7, 8] (fun v7 v8 wr => ∃ (k : Nat) (v : Int), k ≤ k0 ∧ v8 = .int .i64 k ∧ v7 = .int .i64 v ∧ wr = w) (fun _ v8 _ => t.size - (intOf v8).toNat)
  case atStart => exact ⟨0, 0, by omega, rfl, rfl, rfl⟩
  case round =>
    obtain ⟨k, v, hk, rfl, rfl, rfl⟩ := hrel
    have hlt : k < t.size := by omega
    have hlt' : (k : Int) < (t.size : Int) := by omega
    by_cases hkk : k < k0
    · have hq := hd.out k hlt hkk
      have q1 : ¬ (t[k].toNat : Int) < 48 := by omega
      have q2 : ¬ (57 : Int) < (t[k].toNat : Int) := by omega
      go_wp2
      go_roundw
      case rel => exact ⟨k + 1, _, by omega, by go_num, rfl, trivial⟩
      case measure => simp [intOf]; omega
    · obtain rfl : k = k0 := by omega
      rcases hbad with hb | hb
      · have q1 : (t[k].toNat : Int) < 48 := by omega
        go_wp2
        go_ret2
        exact ⟨rfl, rfl⟩
      · have q1 : ¬ (t[k].toNat : Int) < 48 := by omega
        have q2 : (57 : Int) < (t[k].toNat : Int) := by omega
        go_wp2
        go_ret2
        exact ⟨rfl, rfl⟩

end
end Go.Proofs.YtfhkfnoajbbfdaaGreatDoor
