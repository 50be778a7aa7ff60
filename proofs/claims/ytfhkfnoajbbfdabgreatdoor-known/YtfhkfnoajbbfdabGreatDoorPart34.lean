import Derived.Test.YtfhkfnoajbbfdabGreatDoorPart33
import Derived.Test.YtfhkfnoajbbfdabGreatDoorPart31
import Derived.Test.YtfhkfnoajbbfdabGreatDoorPart32
/- Known: what is to be reckoned of its texts. -/
namespace Go.Proofs.YtfhkfnoajbbfdabGreatDoor
open Go.RowKit

set_option maxRecDepth 100000 in
theorem codes_ok : knCodes.all (fun p => match gCode p.1 with | .error e => decide (e = (p.2.1, p.2.2)) | .ok _ => false) = true := by kernel_rfl
set_option maxRecDepth 100000 in
theorem wrongs_ok : knWrongs.all (fun p => match gProg p.1 with | .error e => decide (e = (p.2.1, p.2.2)) | .ok _ => false) = true := by kernel_rfl
set_option maxRecDepth 100000 in
theorem rans_ok : knRans.all (fun p => decide (p.2.length ≤ 3) && knOk p.1 p.2) = true := by kernel_rfl

theorem code_at {j : Nat} {s : ByteArray} {er ln : Int} (h : knCodes[j]? = some (s, er, ln)) : gCode s = .error (er, ln) := by
  have := List.all_eq_true.1 codes_ok _ (List.mem_iff_getElem?.2 ⟨j, h⟩)
  simp only at this
  cases hg : gCode s with
  | ok cs => simp [hg] at this
  | error e =>
    rw [hg] at this
    simp only [decide_eq_true_eq] at this
    rw [this]

theorem wrong_at {j : Nat} {s : ByteArray} {er ln : Int} (h : knWrongs[j]? = some (s, er, ln)) : gProg s = .error (er, ln) := by
  have := List.all_eq_true.1 wrongs_ok _ (List.mem_iff_getElem?.2 ⟨j, h⟩)
  simp only at this
  cases hg : gProg s with
  | ok cs => simp [hg] at this
  | error e =>
    rw [hg] at this
    simp only [decide_eq_true_eq] at this
    rw [this]

theorem ran_at {k : Nat} {s : ByteArray} {rs : List (List Int × Int)} (h : knRans[k]? = some (s, rs)) : rs.length ≤ 3 ∧ ∃ st cs, gProg s = .ok st ∧ gCode (progText st) = .ok cs ∧ runAll rs 0 (cs.map fun c => (Th.init, c), fun _ => 0) = true := by
  have := List.all_eq_true.1 rans_ok _ (List.mem_iff_getElem?.2 ⟨k, h⟩)
  simp only [Bool.and_eq_true, decide_eq_true_eq] at this
  refine ⟨this.1, ?_⟩
  have h2 := this.2
  unfold knOk at h2
  cases hg : gProg s with
  | error e => rw [hg] at h2; simp at h2
  | ok st =>
    rw [hg] at h2
    simp only at h2
    cases hc : gCode (progText st) with
    | error e => rw [hc] at h2; simp at h2
    | ok cs =>
      rw [hc] at h2
      exact ⟨st, cs, rfl, hc, h2⟩
end Go.Proofs.YtfhkfnoajbbfdabGreatDoor

/- Known, whatever the number. -/
namespace Go.Proofs.YtfhkfnoajbbfdabGreatDoor
open Go.RowKit

set_option maxRecDepth 100000 in
set_option maxHeartbeats 2000000 in
theorem made_ok {W : World} (hE : Env W) (hT : TabAt W) {s : ByteArray} {st : RS} {cs : List (List Ic)} (hg : gProg s = .ok st) (hc : gCode (progText st) = .ok cs) :
    Calls Tryz.prog 8 #[.string s] W fun e w' => ∃ bm D, e = .returned (ptr bm) ∧ MRep D w' bm (cs.map fun c => (Th.init, c)) (fun _ => 0) ∧ (∀ k, w'.heap.size ≤ k → D k) ∧ (∀ k, D k → W.heap.size ≤ k) ∧ AccOk cs ∧ Below W.heap.size W w' := by
  have K1 := hid (pcomp_ok hE hT s hg)
  have K2 : Hid (∀ w, Env w → Calls Tryz.prog 19 #[.string (progText st)] w fun e w' => ∃ bm, e = .returned (.tuple #[ptr bm, .int .i64 0, .int .i64 0]) ∧ MRep (fun k => w.heap.size ≤ k) w' bm (cs.map fun c => (Th.init, c)) (fun _ => 0) ∧ AccOk cs ∧ Below w.heap.size w w') := hid fun w hw => by
    have := pload_any hw (progText st)
    rw [hc] at this
    exact this
  have HE := hid hE
  clear hE hT
  generalize progText st = t at *
  go_enter Tryz.func8, Tryz.ntmps8
  go_wp2_with fail
  refine K1.out.mono ?_
  rintro e w1 ⟨rfl, b1⟩
  have B1 := hid b1
  clear b1 K1
  go_wp2_with fail
  refine (K2.out w1 (HE.out.below B1.out)).mono ?_
  rintro e w2 ⟨bm, rfl, h1, h2, b2⟩
  have H1 := hid h1
  have H2 := hid h2
  have B2 := hid b2
  clear h1 h2 b2 K2
  go_wp2
  go_ret
  exact ⟨bm, _, rfl, H1.out, fun k hk => Nat.le_trans B2.out.size hk, fun k hk => Nat.le_trans B1.out.size hk, H2.out, B1.out.trans (B2.out.mono B1.out.size)⟩

theorem getAt {α : Type} (l : List α) {n k : Nat} (hl : l.length = n) (h : k < n) : ∃ x, l[k]? = some x := ⟨l[k], List.getElem?_eq_getElem (by omega)⟩

theorem known_walk {W : World} (hE : Env W) (hT : TabAt W) (a : Int) (ha : -9223372036854775808 ≤ a) :
    Calls Tryz.prog 6 #[.int .i64 a] W fun e w' => e = .returned (.bool true) ∧ Below W.heap.size W w' := by
  have hin := pickV_in a 53 ha (by decide)
  have hP : Hid (∀ w, Calls Tryz.prog 13 #[.int .i64 a, .int .i64 53] w fun e w' => e = .returned (.int .i64 (pickV a 53)) ∧ w' = w) := hid fun w => pick_is a 53 w (by decide)
  have hL := lists_are W
  obtain ⟨k, hk⟩ := Int.eq_ofNat_of_zero_le hin.1
  rw [hk] at hP hin
  have hk53 : k < 53 := by omega
  by_cases h40 : 40 ≤ k
  · obtain ⟨j, rfl⟩ : ∃ j, k = 40 + j := ⟨k - 40, by omega⟩
    obtain ⟨⟨s, er, ln⟩, hp⟩ := getAt knCodes (n := 13) rfl (show j < 13 by omega)
    refine known_code hL j (by omega) hp (hid fun w => by have := hP.out w; simpa using this) (hid fun w hb => ?_)
    have := pload_any (hE.below hb) s
    rw [code_at hp] at this
    exact this
  · by_cases h13 : 13 ≤ k
    · obtain ⟨j, rfl⟩ : ∃ j, k = 13 + j := ⟨k - 13, by omega⟩
      obtain ⟨⟨s, er, ln⟩, hp⟩ := getAt knWrongs (n := 27) rfl (show j < 27 by omega)
      refine known_wrong hL j (by omega) hp (hid fun w => by have := hP.out w; simpa using this) (hid fun w hb => ?_)
      exact pcomp_err (hE.below hb) s (wrong_at hp)
    · obtain ⟨⟨s, rs⟩, hp⟩ := getAt knRans (n := 13) rfl (show k < 13 by omega)
      obtain ⟨h3, st, cs, hg, hc, hall⟩ := ran_at hp
      refine known_run hL k (by omega) hp h3 (cs.map fun c => (Th.init, c), fun _ => 0) hall hP (hid fun w hb => ?_)
      refine (made_ok (hE.below hb) (hT.below hb) hg hc).mono ?_
      rintro e w' ⟨bm, D, he, h1, h2, h4, h6, h5⟩
      exact ⟨bm, D, he, h1, h2, h4, fine_init h6 (gCode_okL hc), h5⟩
end Go.Proofs.YtfhkfnoajbbfdabGreatDoor
