import Derived.Test.YtfhkfnoajbbfdabGreatDoorPart09
import Derived.RangeFuncLeaves
namespace Go.Proofs.YtfhkfnoajbbfdabGreatDoor
open Go.RowKit

/-- A value's own function, whichever it is. -/
theorem vl_call (x : Vl) (hx : x.ok) : ∃ t u F, encVl x = .iface t u ∧ (∀ W, (method 578 t u "commits/codes.of").run Tryz.prog W = .ok (F, u) W) ∧ (∀ args W, (callFunc F args).run Tryz.prog W = .ok (.enter F args) W) ∧
    ∀ (W : World) (b bm : Nat) (iv ov : Value) (T : Th), ThAt W b bm iv ov T → Calls Tryz.prog F #[u, ifc b] W fun e w' => e = .returned (.int .i64 (x.of T)) ∧ w' = W := by
  obtain ⟨r, v⟩ := x
  cases r
  · refine ⟨359, .int .i64 v, 322, rfl, mNumOf _, enters_of Tryz.func322 (by kernel_rfl) rfl, fun W b bm iv ov T _ => ?_⟩
    exact numOf_any _ _ _
  · have hv := hx rfl
    simp only at hv
    refine ⟨264, .int .i64 v, 297, rfl, mRegOf _, enters_of Tryz.func297 (by kernel_rfl) rfl, fun W b bm iv ov T h => ?_⟩
    exact regOf_any b v _ W hv.1 hv.2 (h.regs _ (by omega))

section
variable {w : World} {b bm : Nat} {iv ov : Value} {T : Th} {m : Nat → Int}

attribute [local go_sem] mSetRegister mLeap mEnd

set_option maxRecDepth 100000 in
set_option maxHeartbeats 1000000 in
theorem do_move (h : ThAt w b bm iv ov T) (hm : MemAt w bm m) (x : Vl) (hx : x.ok) (d : Int) (d0 : 0 ≤ d) (d1 : d < 8) :
    Calls Tryz.prog 304 #[.agg #[.int .i64 d, encVl x], ifc b] w fun e w' => e = .returned (.tuple #[]) ∧ Eff w b bm iv ov (T.setR d.toNat (x.of T)) m w' := by
  obtain ⟨t, u, F, he, hme, hen, hv⟩ := vl_call x hx
  rw [he]
  have H := hid h
  have HM := hid hm
  have HV := hid hv
  clear h hm hv he hx
  go_enter Tryz.func304, Tryz.ntmps304
  go_wp2
  go_region_with (first
    | (go_at_call 300; refine (regSet_any b d _ _ _ d0 d1 ((H.out.below (below_boxd _ _)).regs _ (by omega)) ((H.out.below (below_boxd _ _)).free _ (by omega))).mono ?_; rintro e w3 ⟨rfl, rfl⟩)
    | (with_reducible refine (HV.out _ b bm iv ov T (H.out.below (below_boxd _ _))).mono ?_; rintro e w' ⟨rfl, rfl⟩))
  all_goals go_wp2
  all_goals go_end0
  all_goals exact ⟨rfl, ((H.out.below (below_boxd _ _)).effReg (HM.out.below (below_boxd _ _)) (by omega) _).base (below_boxd _ _)⟩

set_option maxRecDepth 100000 in
set_option maxHeartbeats 1000000 in
theorem do_leapIf_zero (h : ThAt w b bm iv ov T) (hm : MemAt w bm m) (x : Vl) (hx : x.ok) (n : Int) (hz : x.of T = 0) :
    Calls Tryz.prog 313 #[.agg #[encVl x, .int .i64 n], ifc b] w fun e w' => e = .returned (.tuple #[]) ∧ Eff w b bm iv ov { T with pl := n } m w' := by
  obtain ⟨t, u, F, he, hme, hen, hv⟩ := vl_call x hx
  rw [he]
  have H := hid h
  have HM := hid hm
  have HV := hid (hz ▸ hv (w.alloc (.cells #[.iface t u, .int .i64 n] 292)) b bm iv ov T (h.below (below_box _ _)))
  clear h hm hv he hx hz
  go_enter Tryz.func313, Tryz.ntmps313
  go_wp2_with fail
  refine HV.out.mono ?_
  rintro e w' ⟨rfl, rfl⟩
  go_wp2_with (go_at_call 330; refine (leap_any b n _ _ (H.out.below (below_box _ _)).place ((H.out.below (below_box _ _)).free 10 (by omega))).mono ?_; rintro e w1 ⟨rfl, rfl⟩)
  go_end0
  exact ⟨rfl, ((H.out.below (below_box _ _)).effPlace (HM.out.below (below_box _ _)) n).base (below_box _ _)⟩

set_option maxRecDepth 100000 in
set_option maxHeartbeats 1000000 in
theorem do_leapIf_not (h : ThAt w b bm iv ov T) (hm : MemAt w bm m) (x : Vl) (hx : x.ok) (n : Int) (hz : x.of T ≠ 0) :
    Calls Tryz.prog 313 #[.agg #[encVl x, .int .i64 n], ifc b] w fun e w' => e = .returned (.tuple #[]) ∧ Eff w b bm iv ov T m w' := by
  obtain ⟨t, u, F, he, hme, hen, hv⟩ := vl_call x hx
  rw [he]
  have H := hid h
  have HM := hid hm
  have HV := hid (hv (w.alloc (.cells #[.iface t u, .int .i64 n] 292)) b bm iv ov T (h.below (below_box _ _)))
  have hz' : (x.of T == 0) = false := by simp [hz]
  generalize x.of T = z at HV hz'
  clear h hm hv he hx hz
  go_enter Tryz.func313, Tryz.ntmps313
  go_wp2_with fail
  refine HV.out.mono ?_
  rintro e w' ⟨rfl, rfl⟩
  go_wp2
  go_end0
  exact ⟨rfl, ov, H.out.below (below_box _ _), HM.out.below (below_box _ _), Chg.of_below (below_box _ _), .inl rfl⟩
end
end Go.Proofs.YtfhkfnoajbbfdabGreatDoor

namespace Go.Proofs.YtfhkfnoajbbfdabGreatDoor
open Go.RowKit

attribute [local go_sem] mNumOf mRegOf mEnd mDrain mGive mLeap mSetRegister mStore mLoad mSetCell nGive nStore nSetCell

section
variable {w : World} {b bm : Nat} {iv ov : Value} {T : Th} {m : Nat → Int}

set_option maxRecDepth 100000 in
set_option maxHeartbeats 2000000 in
theorem do_xadd_any (h : ThAt w b bm iv ov T) (hm : MemAt w bm m) (x y : Vl) (hx : x.ok) (hy : y.ok) (n d : Int) (d0 : 0 ≤ d) (d1 : d < 8) (h0 : 0 ≤ atOf x n T) (h1 : atOf x n T < 256) :
    Calls Tryz.prog 309 #[.agg #[.int .i64 d, encVl x, .int .i64 n, encVl y], ifc b] w fun e w' => e = .returned (.tuple #[]) ∧
      Eff w b bm iv ov ({ T with q := [] }.setR d.toNat (drainM m T.q (atOf x n T).toNat)) (putM (drainM m T.q) (atOf x n T).toNat (wrap64 (drainM m T.q (atOf x n T).toNat + y.of T))) w' := by
  have hmf : ∀ (fn : Fn) (first cap : Array Value) (w : World), (Instr.makeFunc fn first cap).run Tryz.prog w = .ok (.func fn first cap) w := fun _ _ _ _ => rfl
  have hon := fun (W : World) (ov' : Value) (h' : ThAt W b bm iv ov' { T with q := [] }) => cellOn_in h' x hx n h0 h1
  obtain ⟨t, u, hxe⟩ := encVl_iface' x
  obtain ⟨ty, uy, Fy, hye, hmey, heny, hvy⟩ := vl_call y hy
  rw [hxe] at hon ⊢
  rw [hye]
  have HV : Hid (∀ (W : World) (ov' : Value), ThAt W b bm iv ov' { T with q := [] } → Calls Tryz.prog Fy #[uy, ifc b] W fun e w' => e = .returned (.int .i64 (y.of T)) ∧ w' = W) := fun W ov' h => hvy W b bm iv ov' { T with q := [] } h
  generalize y.of T = v at HV ⊢
  clear hvy hye
  have HO := hid hon
  have H := hid h
  have HM := hid hm
  have hb := h.lt
  clear hon hxe hx h hm hy
  have e9 : atOf x n { T with q := [] } = atOf x n T := by simp [atOf, Vl.of]
  have HO' : Hid (∀ (W : World) (ov' : Value), ThAt W b bm iv ov' { T with q := [] } → Calls Tryz.prog 305 #[.agg #[.iface t u, .int .i64 n], ifc b] W fun e w' => e = .returned (.tuple #[.int .i64 (atOf x n T), .bool true]) ∧ Below W.heap.size W w') := fun W ov' h' => by have := HO.out W ov' h'; rw [e9] at this; exact this
  clear e9 HO
  have hdr := th_drain (H.out.below (below_box w (.cells #[.int .i64 d, .iface t u, .int .i64 n, .iface ty uy] 283))) (HM.out.below (below_box _ _))
  have HDR := hid hdr
  clear hdr
  generalize atOf x n T = a at *
  generalize drainM m T.q = m1 at *
  have hne : ∀ i, ¬ foot b bm ov w.heap.size i := fun i e => by
    rcases e with e | e | e
    · omega
    · have := HM.out.lt; omega
    · obtain ⟨c, hc⟩ := ownsRow_shape H.out.out _ e; have := lt_of_shape hc; omega
  have HNE := hid hne
  clear hne
  go_enter Tryz.func309, Tryz.ntmps309
  go_wp2_with fail
  refine HDR.out.mono ?_
  rintro e w1 ⟨rfl, ov1, ht1, hm1, hc1, ho1⟩
  have b0 := (hc1.cell w.heap.size 0 (by simp) (HNE.out _)).trans (show _ = some (Value.int .i64 d) by simp [go_sem])
  have b1 := (hc1.cell w.heap.size 1 (by simp) (HNE.out _)).trans (show _ = some (Value.iface t u) by simp [go_sem])
  have b2 := (hc1.cell w.heap.size 2 (by simp) (HNE.out _)).trans (show _ = some (Value.int .i64 n) by simp [go_sem])
  have b3 := (hc1.cell w.heap.size 3 (by simp) (HNE.out _)).trans (show _ = some (Value.iface ty uy) by simp [go_sem])
  have hs1 : w.heap.size < w1.heap.size := by have := hc1.size; simp at this; omega
  have HT := hid ht1
  have HT2 := hid hm1
  have HC := hid hc1
  have HO1 := hid ho1
  clear ht1 hm1 hc1 ho1 HDR
  go_wp2_with fail
  refine (HO'.out _ _ HT.out).mono ?_
  rintro e w2 ⟨rfl, hb2⟩
  have c0 := (hb2.cell (p := ⟨w.heap.size, 0, none⟩) hs1).trans b0
  have c3 := (hb2.cell (p := ⟨w.heap.size, 3, none⟩) hs1).trans b3
  have hs2 : w.heap.size < w2.heap.size := Nat.lt_of_lt_of_le hs1 hb2.size
  have HB2 := hid hb2
  clear hb2 HO' b0 b1 b2 b3
  go_wp2_with fail
  refine (th_load (HT.out.below HB2.out) (HT2.out.below HB2.out) a h0 h1).mono ?_
  rintro e w3 ⟨rfl, hb3⟩
  have d0' := (hb3.cell (p := ⟨w.heap.size, 0, none⟩) hs2).trans c0
  have d3' := (hb3.cell (p := ⟨w.heap.size, 3, none⟩) hs2).trans c3
  have hs3 : w.heap.size < w3.heap.size := Nat.lt_of_lt_of_le hs2 hb3.size
  have HB3 := hid (HB2.out.trans (hb3.mono HB2.out.size))
  clear hb3 HB2 c0 c3
  have hse : seenIn (List.reverse ([] : List (Int × Int))) a (m1 a.toNat) = m1 a.toNat := by simp [seenIn]
  simp only [hse]
  clear hse
  generalize hva : m1 a.toNat = va
  have HVA := hid hva
  clear hva
  go_wp2
  go_region_with (first
    | (go_at_call 80; refine (th_setCell (HT.out.below HB3.out.drew) (HT2.out.below HB3.out.drew) a (IntKind.i64.wrap (va + v)) h0 h1).mono ?_; rintro e w4 ⟨rfl, ov4, ht4, hm4, hc4, ho4⟩; have f0 := xadd_kept HNE.out (own_past HO1.out) hc4 hs3 d0'; have HT4 := hid ht4; have HM4 := hid hm4; have HC4 := hid hc4; have HO4 := hid ho4; clear ht4 hm4 hc4 ho4)
    | (with_reducible refine (HV.out _ ov1 (HT.out.below HB3.out.drew)).mono ?_; rintro e w' ⟨rfl, rfl⟩))
  all_goals go_wp2_with (go_at_call 300; refine (regSet_any b d _ _ _ d0 d1 (HT4.out.regs _ (by omega)) (HT4.out.free _ (by omega))).mono ?_; rintro e w5 ⟨rfl, rfl⟩)
  all_goals go_end0
  all_goals
    refine ⟨rfl, ?_⟩
    rw [HVA.out, ← IntWalk.i64_left]
    exact (Eff.two ⟨HT.out, HT2.out, HC.out, HO1.out⟩ (Eff.two (ov1 := ov4) ((Eff.mk HT4.out HM4.out HC4.out HO4.out).base4 HB3.out.drew) (HT4.out.effReg HM4.out (by omega) va))).base (below_box _ _)
end
end Go.Proofs.YtfhkfnoajbbfdabGreatDoor
