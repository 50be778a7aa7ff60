import Derived.Test.YtfhkfnoajbbfdaaGreatDoorPart23
import Derived.Test.YtfhkfnoajbbfdaaGreatDoorPart24
import Derived.ShutString
import Derived.ChangeOld
import Derived.Below
namespace Go.Proofs.YtfhkfnoajbbfdaaGreatDoor
open Go.RowKit

set_option maxRecDepth 100000 in
set_option maxHeartbeats 1000000 in
/-- No picks: nothing is played. -/
theorem play_nil (W : World) (bm cap : Nat) :
    Calls Tryz.prog 24 #[ptr bm, .slice none 0 cap, .int .i64 2] W fun e w' => e = .returned (.tuple #[]) ∧ w' = W := by
  go_enter Tryz.func24, Tryz.ntmps24
  go_wp2
  go_loopw [6] (fun v wr => v = .int .i64 0 ∧ wr = W) (fun _ _ => 0)
  case atStart => exact ⟨rfl, rfl⟩
  case round =>
    obtain ⟨rfl, rfl⟩ := hrel
    go_wp2
    go_end0
    exact ⟨rfl, rfl⟩

theorem plays_nil (w : World) (cap : Nat) : PlaysOn w (.slice none 0 cap) := by
  intro bt D W bm A m _ hm hl _ _ _
  refine (play_nil W bm cap).mono ?_
  rintro e w' ⟨rfl, rfl⟩
  exact ⟨rfl, A, m, hm, hl, Chg.refl _ _⟩

theorem plays_some (w : World) (x : Addr) (len cap : Nat) (zs : List Int) (hln : len ≤ zs.length) (hlen : len ≤ 4096) (hz : ∀ j (h : j < zs.length), w.cell? (x.add j) = some (.int .i64 zs[j])) (hwf : ∀ z ∈ zs, -9223372036854775808 ≤ z) :
    PlaysOn w (.slice (some x) len cap) := by
  intro bt D W bm A m hb hm hl hD hn hbel
  have hlt : 0 < zs.length → x.block < w.heap.size := fun h => by
    have h0 := hz 0 h
    rw [← addr_block x 0]
    exact World.block_lt_of_cell? _ _ h0
  exact play_inv (I := LI bt) (fun _ _ i h => h.step hb i) (fun _ _ i h => h.flush i) (fun _ _ h => h.ok hb) (fun _ _ h => h.len) hm hl hD x len cap zs hln hlen (fun h => hn _ (hlt (by omega))) (fun j h => (hbel.cell (by rw [addr_block]; exact hlt (by omega))).trans (hz j h)) hwf

set_option maxRecDepth 100000 in
set_option maxHeartbeats 1000000 in
/-- More picks than are played. -/
theorem litmus_long (w : World) (pa : Option Addr) (len cap : Nat) (a : Int) (hlen : 4096 < len) :
    Calls Tryz.prog 5 #[.slice pa len cap, .int .i64 a] w fun e w' => e = .returned (.bool true) ∧ w' = w := by
  have hlen' : (4096 : Int) < (len : Int) := by omega
  go_enter Tryz.func5, Tryz.ntmps5
  go_wp2
  go_ret
  exact ⟨rfl, rfl⟩

end Go.Proofs.YtfhkfnoajbbfdaaGreatDoor

/- Litmus: the row's frame. -/
namespace Go.Proofs.YtfhkfnoajbbfdaaGreatDoor
open Go.ChangeShapes Go.WideShapes Go.ChangeAt Go.WideMaps Go.WideElems Go.RowKit

/-- A slice of ints that came in. -/
def IsRow (w : World) (a : Option Addr) (len cap : Nat) (zs : List Int) : Prop :=
  (a = none ∧ len = 0 ∧ cap = 0 ∧ zs = []) ∨
  ∃ x, a = some x ∧ len ≤ cap ∧ cap ≤ maxLen ∧ zs.length = cap ∧ (∀ i, i < zs.length → w.cell? (x.add i) = some (.int .i64 (zs.getD i 0))) ∧ ∀ n ∈ zs, (Lit.int .i64 n).wf = true

theorem wf_low {n : Int} (h : (Lit.int .i64 n).wf = true) : -9223372036854775808 ≤ n := by
  have hmin : IntKind.i64.min = -9223372036854775808 := rfl
  simp only [Lit.wf, Bool.and_eq_true, decide_eq_true_eq] at h
  omega

theorem litmus_walk (pa : Option Addr) (len cap : Nat) (zs : List Int) (a : Int) (w : World) (h0 : IsRow w pa len cap zs) (h1 : (Lit.int .i64 a).wf = true) {m : Int} (hm : w.cell? ⟨1, 0, none⟩ = some (.int .i64 m)) (hw : WordsAt w opWords) :
    Calls Tryz.prog 5 #[.slice pa len cap, .int .i64 a] w fun e w' => e = .returned (.bool true) ∧ Below w.heap.size w w' := by
  by_cases hl : 4096 < len
  · exact (litmus_long w pa len cap a hl).mono fun e w' h => ⟨h.1, h.2 ▸ Below.refl _ _⟩
  · have h3 := three_le hm hw
    refine litmus_main w pa len cap a (wf_low h1) (by omega) ?_ (loads_fence h3 hm hw) (loads_xadd h3 hm hw) (loads_cas h3 hm hw) (loads_plain h3 hm hw)
    rcases h0 with ⟨rfl, rfl, rfl, rfl⟩ | ⟨x, rfl, h2, _, h4, h5, h6⟩
    · exact plays_nil w 0
    · refine plays_some w x len cap zs (by omega) (by omega) (fun j hj => ?_) (fun z hz => wf_low (h6 z hz))
      rw [h5 j hj, List.getD_eq_getElem?_getD, List.getElem?_eq_getElem hj]
      rfl

set_option maxRecDepth 100000 in
theorem door_met (os : Os) (args : Array Value) : laidMetH Tryz.prog Rows.litmusRow.laid ((((World.doorLaid Tryz.prog 200 os).layVars Tryz.prog [("unicode/utf8.first", Rows.laid_unicode_utf8_first)]).forCall (fun _ _ => 0) ⟨#[], args, []⟩).memory) :=
  laidMetH_of_parts3 (fuel := 8) (laidMet_of_run' 8 (by kernel_rfl) (by kernel_rfl)) (by kernel_rfl) (by kernel_rfl)

set_option maxRecDepth 100000 in
theorem litmus_lifted (os : Os) (started : os.Started) (H : Type) (enc : TypeId × Value → H) :
    ReturnsInHanded {} Tryz.checked os 5 .any (fun w args => (Rows.litmusSpec.pre enc Tryz.prog Tryz.f5 Rows.litmusRow.domain false w args ∧ laidMetH Tryz.prog Rows.litmusRow.laid w) ∧ sizedMet enc Tryz.prog Tryz.f5 (OpenSpec.ofChange Rows.litmusSpec) false w args)
      (Rows.litmusSpec.post enc Tryz.prog Tryz.f5 false true false false) := by
  refine returns_shaped (C := Tryz.checked) (X := fun w _ => laidMetH Tryz.prog Rows.litmusRow.laid w) (fun _ _ _ hh h => h.of_heap hh) own started (by kernel_rfl) Tryz.func5
    (ChangeSpec.witness_shaped (enc := enc) (C := Tryz.checked) (os := os) (X := fun w _ => laidMetH Tryz.prog Rows.litmusRow.laid w) false ((World.doorLaid Tryz.prog 200 os).layVars Tryz.prog [("unicode/utf8.first", Rows.laid_unicode_utf8_first)]) #[.slice none 0 0, .int .i64 0] 8 rfl (World.shaped_of_RefB (by kernel_rfl) (by kernel_rfl)) (by kernel_rfl) (by kernel_rfl) (by kernel_rfl) (door_met os _)) ?_
  intro W base args ds gs before hval0 hW _ hL hS
  have hval : ∀ (j : Nat) t v, Tryz.f5.params[j]? = some t → args[j]? = some v → Value.okWide Tryz.prog W .any base t v := hval0
  have hW' := hW
  obtain ⟨p, q, hA0, hV, rfl, hfz, hnd⟩ := hW
  have hA : DataW.TrodAll enc Tryz.prog W 0 (fun _ => true) true Tryz.f5.params.toList args.toList ds p := hA0
  rw [Tryz.params5] at hA hval
  obtain ⟨v0, vs0, d0, ds0, p0, q0, hargs, rfl, rfl, h0, r0⟩ := trodAll_cons hA
  obtain ⟨v1, vs1, d1, ds1, p1, q1, rfl, rfl, rfl, h1, r1⟩ := trodAll_cons r0
  obtain ⟨rfl, rfl, rfl⟩ := trodAll_nil r1
  obtain rfl : args = #[v0, v1] := by cases args; simp_all
  obtain ⟨rfl, rfl⟩ := trodVars_none hV
  obtain ⟨a0, len0, cap0, rfl⟩ := okWide_slice Tryz.underlying29 (hval 0 29 v0 rfl rfl)
  have k0 := h0
  have lt0 : ∀ x ∈ p0, x.block < W.heap.size := by obtain ⟨m, hm⟩ := k0; exact DataW.trod_lt m _ _ _ hm
  obtain ⟨z0, w0⟩ : ∃ zs, IsRow W a0 len0 cap0 zs := by
    obtain ⟨fuel, hf⟩ := h0
    rcases open_ints Tryz.underlying29 Tryz.underlying3 (by kernel_rfl) hf with ⟨hcs, _⟩ | ⟨x, l, c, zs, hcs, _, hl, hm, hz, _, hcell, hwz⟩
    · simp [Value.cells] at hcs
      obtain ⟨rfl, rfl, rfl⟩ := hcs
      exact ⟨[], .inl ⟨rfl, rfl, rfl, rfl⟩⟩
    · simp [Value.cells] at hcs
      obtain ⟨rfl, rfl, rfl⟩ := hcs
      exact ⟨zs, .inr ⟨_, rfl, hl, hm, by simpa using hz, hcell, hwz⟩⟩
  obtain ⟨a1, rfl, rfl, rfl, w1⟩ := open_int Tryz.underlying3 (hval 1 3 v1 rfl rfl) h1
  clear hA0 hval0
  obtain ⟨m, hm⟩ := maxLen_of hS
  refine (litmus_walk a0 len0 cap0 z0 a1 W w0 w1 hm (laid_words (by kernel_rfl) hL)).mono fun e W' ⟨he, bel⟩ => ?_
  subst he
  exact ⟨_, rfl, _, _, _, [], _, [], hW', trodAll_mk1 (shut_bool Tryz.underlying4 _), (trodAll_cons_mk (Below.trod laidOut (by kernel_rfl) (of_decide_eq_true (by kernel_rfl)) k0 bel lt0) (trodAll_cons_mk (shut_int Tryz.underlying3 w1) trodAll_mk0)), rfl, bel.frame _, fun h => by cases h⟩

end Go.Proofs.YtfhkfnoajbbfdaaGreatDoor
