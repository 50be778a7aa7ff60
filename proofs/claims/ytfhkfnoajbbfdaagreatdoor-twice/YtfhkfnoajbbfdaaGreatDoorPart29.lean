import Derived.Test.YtfhkfnoajbbfdaaGreatDoorPart28
/- Twice: the walk of a code that is one. -/
namespace Go.Proofs.YtfhkfnoajbbfdaaGreatDoor
open Go.RowKit

theorem tri_start {w w1 w2 w3 : World} {bx by_ bz : Nat} {A B C : List (Th × List Ic)} {m1 m2 m3 : Nat → Int} (h1 : MRep (fun k => w.heap.size ≤ k) w1 bx A m1) (b1 : Below w.heap.size w w1) (h2 : MRep (fun k => w1.heap.size ≤ k) w2 by_ B m2) (b2 : Below w1.heap.size w1 w2) (h3 : MRep (fun k => w2.heap.size ≤ k) w3 bz C m3) (b3 : Below w2.heap.size w2 w3)
    (f1 : Fine 0 A) (f2 : Fine 0 B) (f3 : Fine 0 C) : Tri3 w w3 0 ⟨bx, A, m1⟩ ⟨by_, B, m2⟩ ⟨bz, C, m3⟩ := by
  have s1 := b1.size
  have s2 := b2.size
  have s3 := b3.size
  have g1 := h1.newD (D' := fun k => w.heap.size ≤ k ∧ k < w1.heap.size) (fun k hk hlt => ⟨hk, hlt⟩)
  have g2 := h2.newD (D' := fun k => w1.heap.size ≤ k ∧ k < w2.heap.size) (fun k hk hlt => ⟨hk, hlt⟩)
  have g3 := h3.newD (D' := fun k => w2.heap.size ≤ k ∧ k < w3.heap.size) (fun k hk hlt => ⟨hk, hlt⟩)
  refine ⟨_, _, _, ⟨(g1.below b2).below b3, g2.below b3, g3⟩, ⟨f1, f2, f3⟩, ?_, ?_, ?_, ?_, b1.trans ((b2.trans (b3.mono s2)).mono s1)⟩
  · rintro q (h | h | h) <;> omega
  · intro q h1 h2; omega
  · intro q h1 h2; omega
  · intro q h1 h2; omega

section
variable {w0 wr : World} {N : Nat} {X Y Z : M3}
theorem tri_out (h : Tri3 w0 wr N X Y Z) (hN : N < 1099511627776) (i : Nat) :
    Calls Tryz.prog 26 #[ptr X.b, .int .i64 i] wr fun e w' => ∃ a, e = .returned (.slice a (outsOf X.A i).length (outsOf X.A i).length) ∧ Below wr.heap.size wr w' ∧ (outsOf X.A i = [] ∨ ∃ g, a = some ⟨g, 0, none⟩ ∧ wr.heap.size ≤ g ∧ ∀ j (h : j < (outsOf X.A i).length), w'.cell? ⟨g, j, none⟩ = some (.int .i64 (outsOf X.A i)[j])) := by
  obtain ⟨Dx, Dy, Dz, ⟨h1, _⟩, ⟨f1, _⟩, _⟩ := h
  exact p_outG h1 f1 hN i
theorem tri_state (h : Tri3 w0 wr N X Y Z) (i : Nat) : Calls Tryz.prog 31 #[ptr X.b, .int .i64 i] wr fun e w' => e = .returned (.int .i64 (stOf X.A i)) ∧ w' = wr := by
  obtain ⟨Dx, Dy, Dz, ⟨h1, _⟩, _⟩ := h
  exact p_stateG h1 i
theorem tri_peek (h : Tri3 w0 wr N X Y Z) : Calls Tryz.prog 28 #[ptr X.b, .int .i64 3] wr fun e w' => e = .returned (.int .i64 (X.m 3)) ∧ w' = wr := by
  obtain ⟨Dx, Dy, Dz, ⟨h1, _⟩, _⟩ := h
  exact p_peekR h1 3 (by omega)
end

set_option maxRecDepth 100000 in
set_option maxHeartbeats 4000000 in
theorem twice_main (w : World) (s : ByteArray) (pa : Option Addr) (len cap : Nat) (zs : List Int) (h : s.size + len ≤ 4096) (hE : Env w) {cs : List (List Ic)} (hR : gCode s = .ok cs) (hcap : len ≤ cap)
    (hpa : Hid (0 < len → ∃ x, pa = some x ∧ len ≤ zs.length ∧ (∀ j (h : j < zs.length), w.cell? (x.add j) = some (.int .i64 zs[j])) ∧ ∀ z ∈ zs, -9223372036854775808 ≤ z)) :
    Calls Tryz.prog 6 #[.string s, .slice pa len cap] w fun e w' => e = .returned (.bool true) ∧ Below w.heap.size w w' := by
  have h' : ¬ (4096 : Int) < (s.size : Int) + (len : Int) := by omega
  have hw : wrap64 ((s.size : Int) + (len : Int)) = (s.size : Int) + (len : Int) := by unfold wrap64; omega
  have KL : Hid (∀ W, Env W → Calls Tryz.prog 22 #[.string s] W fun e w' => ∃ bm, e = .returned (.tuple #[ptr bm, .int .i64 0, .int .i64 0]) ∧ MRep (fun k => W.heap.size ≤ k) w' bm (cs.map fun c => (Th.init, c)) (fun _ => 0) ∧ AccOk cs ∧ Below W.heap.size W w') := fun W hW => by
    have k := pload_any hW s
    rw [hR] at k
    exact k
  have KZ : Hid (∀ W, Env W → Calls Tryz.prog 22 #[.string ⟨#[116, 104, 114, 101, 97, 100, 10, 115, 116, 111, 114, 101, 32, 51, 32, 48, 32, 55, 10, 97, 100, 100, 32, 114, 48, 32, 114, 48, 32, 49, 10, 111, 117, 116, 32, 114, 48, 10, 106, 109, 112, 32, 48, 10]⟩] W fun e w' => ∃ bm, e = .returned (.tuple #[ptr bm, .int .i64 0, .int .i64 0]) ∧ MRep (fun k => W.heap.size ≤ k) w' bm ([zCode].map fun c => (Th.init, c)) (fun _ => 0) ∧ AccOk [zCode] ∧ Below W.heap.size W w') := fun W hW => by
    have k := pload_any hW zText
    rw [gz] at k
    exact k
  have FL := hid (gCode_okL hR)
  have FZ := hid (gCode_okL gz)
  have HE := hid hE
  clear hE hR
  go_enter Tryz.func6, Tryz.ntmps6
  go_wp2_with fail
  refine (KL.out w HE.out).mono ?_
  rintro e w1 ⟨bx, rfl, g1, a1, b1⟩
  have G1 := hid g1
  have A1 := hid a1
  have B1 := hid b1
  clear g1 a1 b1
  go_wp2_with fail
  refine (KL.out w1 (HE.out.below B1.out)).mono ?_
  rintro e w2 ⟨by_, rfl, g2, a2, b2⟩
  have G2 := hid g2
  have B2 := hid b2
  clear g2 a2 b2
  go_wp2_with fail
  refine (KZ.out w2 ((HE.out.below B1.out).below B2.out)).mono ?_
  rintro e w3 ⟨bz, rfl, g3, a3, b3⟩
  have T0 : Hid (Tri3 w w3 0 ⟨bx, cs.map fun c => (Th.init, c), fun _ => 0⟩ ⟨by_, cs.map fun c => (Th.init, c), fun _ => 0⟩ ⟨bz, [zCode].map fun c => (Th.init, c), fun _ => 0⟩) :=
    tri_start G1.out B1.out G2.out B2.out g3 b3 (fine_init A1.out FL.out) (fine_init A1.out FL.out) (fine_init a3 FZ.out)
  clear g3 a3 b3 KL KZ G1 G2 B1 B2 A1 FL FZ HE
  go_wp2
  go_loopw [14] (fun v wr => ∃ k : Nat, k ≤ len ∧ v = .int .i64 k ∧ Hid (∃ A m Az mz, Tri3 w wr (180 * k) ⟨bx, A, m⟩ ⟨by_, A, m⟩ ⟨bz, Az, mz⟩)) (fun v _ => len - (intOf v).toNat)
  case atStart => exact ⟨0, Nat.zero_le _, rfl, _, _, _, _, T0.out⟩
  case round =>
    clear T0
    obtain ⟨k, hk, rfl, hr⟩ := hrel
    by_cases hlt : k < len
    · have hlt' : (k : Int) < (len : Int) := by omega
      obtain ⟨x, rfl, hlz, hcz, hwz⟩ := hpa.out (by omega)
      have hkz : k < zs.length := by omega
      have hcell := hcz k hkz
      have hwf := hwz _ (List.getElem_mem hkz)
      generalize zs[k] = z at hcell hwf
      have HC := hid hcell
      have HW := hid hwf
      clear hcz hwz hcell hwf hpa
      have hwk : wrap64 ((k : Int) + 1) = (k : Int) + 1 := by unfold wrap64; omega
      have hk1 : (k : Int) + 1 ≤ (cap : Int) := by omega
      have hne : ¬ cap = k := by omega
      obtain ⟨A, m, Az, mz, hT⟩ := hr.out
      have HT := hid hT
      clear hT hr
      go_wp2_with fail
      refine (tri_play4 HT.out (by omega) (x.add k) (cap - k) z HC.out HW.out).mono ?_
      rintro e v1 ⟨rfl, t1⟩
      have T1 := hid t1.rot.rot
      clear t1 HT
      go_wp2_with fail
      refine (tri_play2 T1.out (by omega) (x.add k) (cap - k) z HC.out HW.out).mono ?_
      rintro e v2 ⟨rfl, t2⟩
      have T2 := hid t2.rot.rot
      clear t2 T1
      go_wp2_with fail
      refine (tri_play4 T2.out (by omega) (x.add k) (cap - k) z HC.out HW.out).mono ?_
      rintro e v3 ⟨rfl, t3⟩
      have T3 : Hid (∃ A m Az mz, Tri3 w v3 (180 * (k + 1)) ⟨bx, A, m⟩ ⟨by_, A, m⟩ ⟨bz, Az, mz⟩) := ⟨_, _, _, _, (show 180 * k + 60 + 60 + 60 = 180 * (k + 1) by omega) ▸ t3.rot.rot⟩
      clear t3 T2 HC HW
      go_wp2
      go_roundw
      case rel => exact ⟨k + 1, by omega, by go_num, T3⟩
      case measure => simp [intOf]; omega
    · have hlt' : ¬ (k : Int) < (len : Int) := by omega
      obtain ⟨A, m, Az, mz, hT⟩ := hr.out
      have HT := hid hT
      clear hT hr hpa
      have hN : 180 * k < 1099511627776 := by omega
      go_wp2
      go_loopw [16] (fun v wq => ∃ t : Nat, t ≤ 3 ∧ v = .int .i64 t ∧ Hid (Tri3 w wq (180 * k) ⟨bx, A, m⟩ ⟨by_, A, m⟩ ⟨bz, Az, mz⟩)) (fun v _ => 3 - (intOf v).toNat)
      case atStart => exact ⟨0, by omega, rfl, HT⟩
      case round =>
        clear HT
        obtain ⟨t, ht, rfl, hq⟩ := hrel
        by_cases htl : t < 3
        · have htl' : (t : Int) < 3 := by omega
          go_wp2_with fail
          refine (tri_out hq.out hN t).mono ?_
          rintro e v1 ⟨a, rfl, o1, c1⟩
          have Q1 := hid (hq.out.below o1)
          have C1 := hid c1
          clear o1 c1 hq
          go_wp2_with fail
          refine (tri_out Q1.out.rot hN t).mono ?_
          rintro e v2 ⟨a2, rfl, o2, c2⟩
          have Q2 := hid (Q1.out.below o2)
          have C2 := hid c2
          have C3 : Hid (outsOf A t = [] ∨ ∃ g, a = some ⟨g, 0, none⟩ ∧ ∀ j (h : j < (outsOf A t).length), v2.cell? ⟨g, j, none⟩ = some (.int .i64 (outsOf A t)[j])) := by
            rcases C1.out with e | ⟨g, e1, e2, e3⟩
            · exact .inl e
            · exact .inr ⟨g, e1, fun j hj => (o2.cell (p := ⟨g, j, none⟩) (World.block_lt_of_cell? _ _ (e3 j hj))).trans (e3 j hj)⟩
          clear o2 c2 Q1 C1
          go_wp2_with fail
          refine (tri_state Q2.out t).mono ?_
          rintro e v3 ⟨rfl, rfl⟩
          go_wp2_with fail
          refine (tri_state Q2.out.rot t).mono ?_
          rintro e v4 ⟨rfl, rfl⟩
          have hlb : (outsOf A t).length ≤ 180 * k := by
            obtain ⟨_, _, _, _, ⟨f1, _⟩, _⟩ := Q2.out
            unfold outsOf
            split
            · rename_i p hp
              exact (f1 p (List.mem_of_getElem? hp)).2.2.2
            · simp
          go_wp2
          go_loopw [21] (fun v wz => ∃ j nn : Nat, j ≤ (outsOf A t).length ∧ v = .int .i64 j ∧ wz = v4.drewN nn) (fun v _ => (outsOf A t).length - (intOf v).toNat)
          case atStart => exact ⟨0, 0, Nat.zero_le _, rfl, rfl⟩
          case round =>
            obtain ⟨j, nn, hj, rfl, rfl⟩ := hrel
            by_cases hjl : j < (outsOf A t).length
            · have hjl' : (j : Int) < ((outsOf A t).length : Int) := by omega
              have hne : outsOf A t ≠ [] := fun e => by rw [e] at hjl; simp at hjl
              obtain ⟨g, rfl, e3⟩ : ∃ g, a = some ⟨g, 0, none⟩ ∧ _ := C3.out.resolve_left hne
              obtain ⟨g2, rfl, _, e4⟩ : ∃ g, a2 = some ⟨g, 0, none⟩ ∧ _ := C2.out.resolve_left hne
              have c3 := e3 j hjl
              have c4 := e4 j hjl
              generalize (outsOf A t)[j] = o at c3 c4
              clear e3 e4
              go_wp2
              go_region
              all_goals
                go_wp2
                go_roundw
                case rel => exact ⟨j + 1, nn + 1, by omega, by go_num, rfl⟩
                case measure => simp [intOf]; omega
            · have hjl' : ¬ (j : Int) < ((outsOf A t).length : Int) := by omega
              go_wp2
              go_roundw
              case rel => exact ⟨t + 1, by omega, by go_num, Q2.out.below (below_drewN _ v4 nn)⟩
              case measure => simp [intOf]; omega
        · have htl' : ¬ (t : Int) < 3 := by omega
          go_wp2_with fail
          refine (tri_peek hq.out).mono ?_
          rintro e v1 ⟨rfl, rfl⟩
          go_wp2_with fail
          refine (tri_peek hq.out.rot).mono ?_
          rintro e v2 ⟨rfl, rfl⟩
          go_wp2
          go_ret
          obtain ⟨_, _, _, _, _, _, _, _, _, hb⟩ := hq.out
          exact ⟨by simp, hb⟩
end Go.Proofs.YtfhkfnoajbbfdaaGreatDoor
