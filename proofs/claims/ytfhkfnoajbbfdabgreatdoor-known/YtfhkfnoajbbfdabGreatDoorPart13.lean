import Derived.Test.YtfhkfnoajbbfdabGreatDoorPart12
import Derived.Test.YtfhkfnoajbbfdabGreatDoorPart10
namespace Go.Proofs.YtfhkfnoajbbfdabGreatDoor
open Go.RowKit

attribute [local go_sem] mNumOf mRegOf mEnd mDrain mGive mLeap mSetRegister mStore mLoad mSetCell nGive nStore nSetCell

section
variable {w : World} {b bm : Nat} {iv ov : Value} {T : Th} {m : Nat → Int}

set_option maxRecDepth 100000 in
set_option maxHeartbeats 4000000 in
theorem do_cas_eq_any (h : ThAt w b bm iv ov T) (hm : MemAt w bm m) (x y z : Vl) (hx : x.ok) (hy : y.ok) (hz : z.ok) (n d : Int) (d0 : 0 ≤ d) (d1 : d < 8) (h0 : 0 ≤ atOf x n T) (h1 : atOf x n T < 256) (hva : drainM m T.q (atOf x n T).toNat = y.of T) :
    Calls Tryz.prog 308 #[.agg #[.int .i64 d, encVl x, .int .i64 n, encVl y, encVl z], ifc b] w fun e w' => e = .returned (.tuple #[]) ∧
      Eff w b bm iv ov ({ T with q := [] }.setR d.toNat 1) (putM (drainM m T.q) (atOf x n T).toNat (z.of T)) w' := by
  have hmf : ∀ (fn : Fn) (first cap : Array Value) (w : World), (Instr.makeFunc fn first cap).run Tryz.prog w = .ok (.func fn first cap) w := fun _ _ _ _ => rfl
  have hon := fun (W : World) (ov' : Value) (h' : ThAt W b bm iv ov' { T with q := [] }) => cellOn_in h' x hx n h0 h1
  obtain ⟨t, u, hxe⟩ := encVl_iface' x
  obtain ⟨ty, uy, Fy, hye, hmey, heny, hvy⟩ := vl_call y hy
  obtain ⟨tz, uz, Fz, hze, hmez, henz, hvz⟩ := vl_call z hz
  rw [hxe] at hon ⊢
  rw [hye, hze]
  have HV : Hid (∀ (W : World) (ov' : Value), ThAt W b bm iv ov' { T with q := [] } → Calls Tryz.prog Fy #[uy, ifc b] W fun e w' => e = .returned (.int .i64 (y.of T)) ∧ w' = W) := fun W ov' h => hvy W b bm iv ov' { T with q := [] } h
  have HZ : Hid (∀ (W : World) (ov' : Value), ThAt W b bm iv ov' { T with q := [] } → Calls Tryz.prog Fz #[uz, ifc b] W fun e w' => e = .returned (.int .i64 (z.of T)) ∧ w' = W) := fun W ov' h => hvz W b bm iv ov' { T with q := [] } h
  generalize y.of T = v at HV hva ⊢
  generalize z.of T = v2 at HZ ⊢
  clear hvy hye hvz hze
  have HO := hid hon
  have H := hid h
  have HM := hid hm
  have hb := h.lt
  clear hon hxe hx h hm hy hz
  have e9 : atOf x n { T with q := [] } = atOf x n T := by simp [atOf, Vl.of]
  have HO' : Hid (∀ (W : World) (ov' : Value), ThAt W b bm iv ov' { T with q := [] } → Calls Tryz.prog 305 #[.agg #[.iface t u, .int .i64 n], ifc b] W fun e w' => e = .returned (.tuple #[.int .i64 (atOf x n T), .bool true]) ∧ Below W.heap.size W w') := fun W ov' h' => by have := HO.out W ov' h'; rw [e9] at this; exact this
  clear e9 HO
  have hdr := th_drain (H.out.below (below_box w (.cells #[.int .i64 d, .iface t u, .int .i64 n, .iface ty uy, .iface tz uz] 281))) (HM.out.below (below_box _ _))
  have HDR := hid hdr
  clear hdr
  generalize atOf x n T = a at *
  generalize drainM m T.q = m1 at *
  have HVA := hid hva
  clear hva
  have hne : ∀ i, ¬ foot b bm ov w.heap.size i := fun i e => by
    rcases e with e | e | e
    · omega
    · have := HM.out.lt; omega
    · obtain ⟨c, hc⟩ := ownsRow_shape H.out.out _ e; have := lt_of_shape hc; omega
  have HNE := hid hne
  clear hne
  go_enter Tryz.func308, Tryz.ntmps308
  go_wp2_with fail
  refine HDR.out.mono ?_
  rintro e w1 ⟨rfl, ov1, ht1, hm1, hc1, ho1⟩
  have b0 := (hc1.cell w.heap.size 0 (by simp) (HNE.out _)).trans (show _ = some (Value.int .i64 d) by simp [go_sem])
  have b1 := (hc1.cell w.heap.size 1 (by simp) (HNE.out _)).trans (show _ = some (Value.iface t u) by simp [go_sem])
  have b2 := (hc1.cell w.heap.size 2 (by simp) (HNE.out _)).trans (show _ = some (Value.int .i64 n) by simp [go_sem])
  have b3 := (hc1.cell w.heap.size 3 (by simp) (HNE.out _)).trans (show _ = some (Value.iface ty uy) by simp [go_sem])
  have b4 := (hc1.cell w.heap.size 4 (by simp) (HNE.out _)).trans (show _ = some (Value.iface tz uz) by simp [go_sem])
  have hs1 : w.heap.size < w1.heap.size := by have := hc1.size; simp at this; omega
  have HT := hid ht1
  have HT2 := hid hm1
  have HC := hid hc1
  have HO1 := hid ho1
  clear ht1 hm1 hc1 ho1 HDR
  go_wp2_with fail
  refine (HO'.out _ _ HT.out).mono ?_
  rintro e w2 ⟨rfl, hb2⟩
  have c0 := (hb2.cell (p := ⟨w.heap.size, 0, none⟩) hs1).trans b0
  have c3 := (hb2.cell (p := ⟨w.heap.size, 3, none⟩) hs1).trans b3
  have c4 := (hb2.cell (p := ⟨w.heap.size, 4, none⟩) hs1).trans b4
  have hs2 : w.heap.size < w2.heap.size := Nat.lt_of_lt_of_le hs1 hb2.size
  have HB2 := hid hb2
  clear hb2 HO' b0 b1 b2 b3 b4
  have hse : seenIn (List.reverse ([] : List (Int × Int))) a (m1 a.toNat) = m1 a.toNat := by simp [seenIn]
  have hld := th_load (HT.out.below HB2.out.drew) (HT2.out.below HB2.out.drew) a h0 h1
  simp only [hse] at hld
  have HLD := hid hld
  clear hld hse
  have hne : (m1 a.toNat != v) = false := by simp [HVA.out]
  generalize m1 a.toNat = va at hne HLD HVA
  go_wp2
  go_region_with (first
    | (go_at_call 331; refine HLD.out.mono ?_; rintro e w3 ⟨rfl, hb3⟩; have d0' := (hb3.cell (p := ⟨w.heap.size, 0, none⟩) hs2).trans c0; have d3' := (hb3.cell (p := ⟨w.heap.size, 3, none⟩) hs2).trans c3; have d4' := (hb3.cell (p := ⟨w.heap.size, 4, none⟩) hs2).trans c4; have hs3 := Nat.lt_of_lt_of_le hs2 hb3.size; have HB3 := hid (HB2.out.drew.trans (hb3.mono HB2.out.size)); clear hb3)
    | (with_reducible refine (HV.out _ ov1 (HT.out.below HB3.out)).mono ?_; rintro e w' ⟨rfl, rfl⟩)
    | (with_reducible refine (HV.out _ ov1 (HT.out.below HB2.out.drew)).mono ?_; rintro e w' ⟨rfl, rfl⟩))
  all_goals
    go_wp2
    go_region_with (first
      | (go_at_call 80; refine (th_setCell (HT.out.below HB3.out.drew) (HT2.out.below HB3.out.drew) a v2 h0 h1).mono ?_; rintro e w4 ⟨rfl, ov4, ht4, hm4, hc4, ho4⟩; have f0 := xadd_kept HNE.out (own_past HO1.out) hc4 hs3 d0'; have HT4 := hid ht4; have HM4 := hid hm4; have HC4 := hid hc4; have HO4 := hid ho4; clear ht4 hm4 hc4 ho4)
      | (with_reducible refine (HZ.out _ ov1 (HT.out.below HB3.out.drew)).mono ?_; rintro e w' ⟨rfl, rfl⟩))
    all_goals go_wp2_with (go_at_call 300; refine (regSet_any b d _ _ _ d0 d1 (HT4.out.regs _ (by omega)) (HT4.out.free _ (by omega))).mono ?_; rintro e w5 ⟨rfl, rfl⟩)
    all_goals go_end0
    all_goals
      refine ⟨rfl, ?_⟩
      exact (Eff.two ⟨HT.out, HT2.out, HC.out, HO1.out⟩ (Eff.two (ov1 := ov4) ((Eff.mk HT4.out HM4.out HC4.out HO4.out).base4 HB3.out.drew) (HT4.out.effReg HM4.out (by omega) 1))).base (below_box _ _)

set_option maxRecDepth 100000 in
set_option maxHeartbeats 4000000 in
theorem do_cas_ne_any (h : ThAt w b bm iv ov T) (hm : MemAt w bm m) (x y z : Vl) (hx : x.ok) (hy : y.ok) (hz : z.ok) (n d : Int) (d0 : 0 ≤ d) (d1 : d < 8) (h0 : 0 ≤ atOf x n T) (h1 : atOf x n T < 256) (hva : ¬ drainM m T.q (atOf x n T).toNat = y.of T) :
    Calls Tryz.prog 308 #[.agg #[.int .i64 d, encVl x, .int .i64 n, encVl y, encVl z], ifc b] w fun e w' => e = .returned (.tuple #[]) ∧
      Eff w b bm iv ov ({ T with q := [] }.setR d.toNat 0) (drainM m T.q) w' := by
  have hmf : ∀ (fn : Fn) (first cap : Array Value) (w : World), (Instr.makeFunc fn first cap).run Tryz.prog w = .ok (.func fn first cap) w := fun _ _ _ _ => rfl
  have hon := fun (W : World) (ov' : Value) (h' : ThAt W b bm iv ov' { T with q := [] }) => cellOn_in h' x hx n h0 h1
  obtain ⟨t, u, hxe⟩ := encVl_iface' x
  obtain ⟨ty, uy, Fy, hye, hmey, heny, hvy⟩ := vl_call y hy
  obtain ⟨tz, uz, Fz, hze, hmez, henz, hvz⟩ := vl_call z hz
  rw [hxe] at hon ⊢
  rw [hye, hze]
  have HV : Hid (∀ (W : World) (ov' : Value), ThAt W b bm iv ov' { T with q := [] } → Calls Tryz.prog Fy #[uy, ifc b] W fun e w' => e = .returned (.int .i64 (y.of T)) ∧ w' = W) := fun W ov' h => hvy W b bm iv ov' { T with q := [] } h
  have HZ : Hid (∀ (W : World) (ov' : Value), ThAt W b bm iv ov' { T with q := [] } → Calls Tryz.prog Fz #[uz, ifc b] W fun e w' => e = .returned (.int .i64 (z.of T)) ∧ w' = W) := fun W ov' h => hvz W b bm iv ov' { T with q := [] } h
  generalize y.of T = v at HV hva ⊢
  generalize z.of T = v2 at HZ ⊢
  clear hvy hye hvz hze
  have HO := hid hon
  have H := hid h
  have HM := hid hm
  have hb := h.lt
  clear hon hxe hx h hm hy hz
  have e9 : atOf x n { T with q := [] } = atOf x n T := by simp [atOf, Vl.of]
  have HO' : Hid (∀ (W : World) (ov' : Value), ThAt W b bm iv ov' { T with q := [] } → Calls Tryz.prog 305 #[.agg #[.iface t u, .int .i64 n], ifc b] W fun e w' => e = .returned (.tuple #[.int .i64 (atOf x n T), .bool true]) ∧ Below W.heap.size W w') := fun W ov' h' => by have := HO.out W ov' h'; rw [e9] at this; exact this
  clear e9 HO
  have hdr := th_drain (H.out.below (below_box w (.cells #[.int .i64 d, .iface t u, .int .i64 n, .iface ty uy, .iface tz uz] 281))) (HM.out.below (below_box _ _))
  have HDR := hid hdr
  clear hdr
  generalize atOf x n T = a at *
  generalize drainM m T.q = m1 at *
  have HVA := hid hva
  clear hva
  have hne : ∀ i, ¬ foot b bm ov w.heap.size i := fun i e => by
    rcases e with e | e | e
    · omega
    · have := HM.out.lt; omega
    · obtain ⟨c, hc⟩ := ownsRow_shape H.out.out _ e; have := lt_of_shape hc; omega
  have HNE := hid hne
  clear hne
  go_enter Tryz.func308, Tryz.ntmps308
  go_wp2_with fail
  refine HDR.out.mono ?_
  rintro e w1 ⟨rfl, ov1, ht1, hm1, hc1, ho1⟩
  have b0 := (hc1.cell w.heap.size 0 (by simp) (HNE.out _)).trans (show _ = some (Value.int .i64 d) by simp [go_sem])
  have b1 := (hc1.cell w.heap.size 1 (by simp) (HNE.out _)).trans (show _ = some (Value.iface t u) by simp [go_sem])
  have b2 := (hc1.cell w.heap.size 2 (by simp) (HNE.out _)).trans (show _ = some (Value.int .i64 n) by simp [go_sem])
  have b3 := (hc1.cell w.heap.size 3 (by simp) (HNE.out _)).trans (show _ = some (Value.iface ty uy) by simp [go_sem])
  have b4 := (hc1.cell w.heap.size 4 (by simp) (HNE.out _)).trans (show _ = some (Value.iface tz uz) by simp [go_sem])
  have hs1 : w.heap.size < w1.heap.size := by have := hc1.size; simp at this; omega
  have HT := hid ht1
  have HT2 := hid hm1
  have HC := hid hc1
  have HO1 := hid ho1
  clear ht1 hm1 hc1 ho1 HDR
  go_wp2_with fail
  refine (HO'.out _ _ HT.out).mono ?_
  rintro e w2 ⟨rfl, hb2⟩
  have c0 := (hb2.cell (p := ⟨w.heap.size, 0, none⟩) hs1).trans b0
  have c3 := (hb2.cell (p := ⟨w.heap.size, 3, none⟩) hs1).trans b3
  have c4 := (hb2.cell (p := ⟨w.heap.size, 4, none⟩) hs1).trans b4
  have hs2 : w.heap.size < w2.heap.size := Nat.lt_of_lt_of_le hs1 hb2.size
  have HB2 := hid hb2
  clear hb2 HO' b0 b1 b2 b3 b4
  have hse : seenIn (List.reverse ([] : List (Int × Int))) a (m1 a.toNat) = m1 a.toNat := by simp [seenIn]
  have hld := th_load (HT.out.below HB2.out.drew) (HT2.out.below HB2.out.drew) a h0 h1
  simp only [hse] at hld
  have HLD := hid hld
  clear hld hse
  have hne : (m1 a.toNat != v) = true := by have := HVA.out; simpa using this
  generalize m1 a.toNat = va at hne HLD HVA
  go_wp2
  go_region_with (first
    | (go_at_call 331; refine HLD.out.mono ?_; rintro e w3 ⟨rfl, hb3⟩; have d0' := (hb3.cell (p := ⟨w.heap.size, 0, none⟩) hs2).trans c0; have d3' := (hb3.cell (p := ⟨w.heap.size, 3, none⟩) hs2).trans c3; have HB3 := hid (HB2.out.drew.trans (hb3.mono HB2.out.size)); clear hb3)
    | (with_reducible refine (HV.out _ ov1 (HT.out.below HB3.out)).mono ?_; rintro e w' ⟨rfl, rfl⟩)
    | (with_reducible refine (HV.out _ ov1 (HT.out.below HB2.out.drew)).mono ?_; rintro e w' ⟨rfl, rfl⟩))
  all_goals go_wp2_with (go_at_call 300; refine (regSet_any b d _ _ _ d0 d1 ((HT.out.below HB3.out).regs _ (by omega)) ((HT.out.below HB3.out).free _ (by omega))).mono ?_; rintro e w5 ⟨rfl, rfl⟩)
  all_goals refine bodyPost_ret (results_none rfl _ _ _) rfl ?_
  all_goals
    refine ⟨rfl, ?_⟩
    exact (Eff.two ⟨HT.out, HT2.out, HC.out, HO1.out⟩ (((HT.out.below HB3.out).effReg (HT2.out.below HB3.out) (by omega) 0).base HB3.out)).base (below_box _ _)

end
end Go.Proofs.YtfhkfnoajbbfdabGreatDoor
