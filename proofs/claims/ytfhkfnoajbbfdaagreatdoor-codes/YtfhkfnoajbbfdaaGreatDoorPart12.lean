import Derived.Test.YtfhkfnoajbbfdaaGreatDoorPart11
namespace Go.Proofs.YtfhkfnoajbbfdaaGreatDoor
open Go.RowKit

attribute [local go_sem] mNumOf mRegOf mEnd mDrain mGive mLeap mSetRegister mStore mLoad mSetCell nGive nStore nSetCell

section
variable {w : World} {b bm : Nat} {iv ov : Value} {T : Th} {m : Nat → Int}

theorem encVl_iface' (x : Vl) : ∃ t u, encVl x = .iface t u := by unfold encVl; split <;> exact ⟨_, _, rfl⟩

structure Eff4 (w : World) (b bm : Nat) (iv ov ov' : Value) (T' : Th) (m' : Nat → Int) (w' : World) : Prop where
  t : ThAt w' b bm iv ov' T'
  m : MemAt w' bm m'
  c : Chg (foot b bm ov) w w'
  o : ov'.ownBlock = ov.ownBlock ∨ ∃ k, ov'.ownBlock = some k ∧ w.heap.size ≤ k
theorem Eff.mk {w w' : World} {ov' : Value} {T' : Th} {m' : Nat → Int} (h1 : ThAt w' b bm iv ov' T') (h2 : MemAt w' bm m') (h3 : Chg (foot b bm ov) w w') (h4 : ov'.ownBlock = ov.ownBlock ∨ ∃ k, ov'.ownBlock = some k ∧ w.heap.size ≤ k) : Eff4 w b bm iv ov ov' T' m' w' := ⟨h1, h2, h3, h4⟩
theorem Eff4.base4 {w W w' : World} {ov' : Value} {T' : Th} {m' : Nat → Int} (h : Eff4 W b bm iv ov ov' T' m' w') (hB : Below w.heap.size w W) : ThAt w' b bm iv ov' T' ∧ MemAt w' bm m' ∧ Chg (foot b bm ov) w w' ∧ (ov'.ownBlock = ov.ownBlock ∨ ∃ k, ov'.ownBlock = some k ∧ w.heap.size ≤ k) :=
  ⟨h.t, h.m, (Chg.of_below hB).trans h.c, h.o.imp id (fun ⟨k, e, hk⟩ => ⟨k, e, Nat.le_trans hB.size hk⟩)⟩

/-- Behind a drain and a wrong address. -/
theorem Eff.two {w w1 w2 : World} {T1 T2 : Th} {m1 m2 : Nat → Int} {ov1 : Value} (h1 : ThAt w1 b bm iv ov1 T1 ∧ MemAt w1 bm m1 ∧ Chg (foot b bm ov) w w1 ∧ (ov1.ownBlock = ov.ownBlock ∨ ∃ k, ov1.ownBlock = some k ∧ w.heap.size ≤ k)) (h2 : Eff w1 b bm iv ov1 T2 m2 w2) : Eff w b bm iv ov T2 m2 w2 :=
  let ⟨_, a, c, d, e⟩ := h2; Eff.then h1.2.2.1 h1.2.2.2 a c d e

theorem own_past {w : World} {o : Obj} {ov1 : Value} (h : ov1.ownBlock = ov.ownBlock ∨ ∃ k, ov1.ownBlock = some k ∧ (w.alloc o).heap.size ≤ k) : ov1.ownBlock = ov.ownBlock ∨ ∃ k, ov1.ownBlock = some k ∧ w.heap.size < k :=
  h.imp id (fun ⟨k, a, c⟩ => ⟨k, a, by simp at c; omega⟩)

/-- The instruction's own copy stays as it was. -/
theorem xadd_kept {w w3 w4 : World} {ov1 : Value} {i : Nat} {v : Option Value} (hne : ∀ i, ¬ foot b bm ov w.heap.size i) (ho : ov1.ownBlock = ov.ownBlock ∨ ∃ k, ov1.ownBlock = some k ∧ w.heap.size < k)
    (hc : Chg (foot b bm ov1) w3 w4) (hs : w.heap.size < w3.heap.size) (hv : w3.cell? ⟨w.heap.size, i, none⟩ = v) : w4.cell? ⟨w.heap.size, i, none⟩ = v := by
  refine (hc.cell _ i hs fun e => ?_).trans hv
  rcases e with e | e | e
  · exact hne i (.inl e)
  · exact hne i (.inr (.inl e))
  · rcases ho with ho | ⟨k, ho, hk⟩
    · exact hne i (.inr (.inr (ho ▸ e)))
    · rw [ho] at e; simp at e; omega

set_option maxRecDepth 100000 in
set_option maxHeartbeats 1000000 in
theorem do_xadd_out (h : ThAt w b bm iv ov T) (hm : MemAt w bm m) (x y : Vl) (hx : x.ok) (n d : Int) (h0 : ¬ (0 ≤ atOf x n T ∧ atOf x n T < 256)) :
    Calls Tryz.prog 327 #[.agg #[.int .i64 d, encVl x, .int .i64 n, encVl y], ifc b] w fun e w' => e = .returned (.tuple #[]) ∧ Eff w b bm iv ov { T with q := [], st := 9 } (drainM m T.q) w' := by
  have hon := fun (W : World) (ov' : Value) (h' : ThAt W b bm iv ov' { T with q := [] }) (hm' : MemAt W bm (drainM m T.q)) => cellOn_out h' hm' x hx n h0
  obtain ⟨t, u, hxe⟩ := encVl_iface' x
  obtain ⟨t', u', hye⟩ := encVl_iface' y
  rw [hxe] at hon ⊢
  rw [hye]
  have HO := hid hon
  have H := hid h
  have HM := hid hm
  have hb := h.lt
  clear hon hxe hx h hm hye
  go_enter Tryz.func327, Tryz.ntmps327
  go_wp2_with fail
  refine (th_drain (H.out.below (below_box _ _)) (HM.out.below (below_box _ _))).mono ?_
  rintro e w1 ⟨rfl, ov1, ht1, hm1, hc1, ho1⟩
  have hne : ∀ i, ¬ foot b bm ov w.heap.size i := fun i e => by
    rcases e with e | e | e
    · omega
    · have := HM.out.lt; omega
    · obtain ⟨c, hc⟩ := ownsRow_shape H.out.out _ e; have := lt_of_shape hc; omega
  have b1 := (hc1.cell w.heap.size 1 (by simp) (hne _)).trans (show _ = some (Value.iface t u) by simp [go_sem])
  have b2 := (hc1.cell w.heap.size 2 (by simp) (hne _)).trans (show _ = some (Value.int .i64 n) by simp [go_sem])
  have HT := hid ht1
  have HT2 := hid hm1
  have HC := hid hc1
  have HO1 := hid ho1
  clear ht1 hm1 hc1 ho1 hne
  go_wp2_with fail
  refine (HO.out _ _ HT.out HT2.out).mono ?_
  rintro e w2 ⟨rfl, h2⟩
  have H2 := hid h2
  clear h2 HO
  go_wp2
  refine bodyPost_ret (results_none rfl _ _ _) rfl ?_
  exact ⟨rfl, (Eff.two ⟨HT.out, HT2.out, HC.out, HO1.out⟩ H2.out).base (below_box _ _)⟩

set_option maxRecDepth 100000 in
set_option maxHeartbeats 2000000 in
theorem do_xadd_num (h : ThAt w b bm iv ov T) (hm : MemAt w bm m) (x : Vl) (hx : x.ok) (n d v : Int) (d0 : 0 ≤ d) (d1 : d < 8) (h0 : 0 ≤ atOf x n T) (h1 : atOf x n T < 256) :
    Calls Tryz.prog 327 #[.agg #[.int .i64 d, encVl x, .int .i64 n, .iface 378 (.int .i64 v)], ifc b] w fun e w' => e = .returned (.tuple #[]) ∧
      Eff w b bm iv ov ({ T with q := [] }.setR d.toNat (drainM m T.q (atOf x n T).toNat)) (putM (drainM m T.q) (atOf x n T).toNat (wrap64 (drainM m T.q (atOf x n T).toNat + v))) w' := by
  have hmf : ∀ (fn : Fn) (first cap : Array Value) (w : World), (Instr.makeFunc fn first cap).run Tryz.prog w = .ok (.func fn first cap) w := fun _ _ _ _ => rfl
  have hon := fun (W : World) (ov' : Value) (h' : ThAt W b bm iv ov' { T with q := [] }) => cellOn_in h' x hx n h0 h1
  obtain ⟨t, u, hxe⟩ := encVl_iface' x
  rw [hxe] at hon ⊢
  have HO := hid hon
  have H := hid h
  have HM := hid hm
  have hb := h.lt
  clear hon hxe hx h hm
  have e9 : atOf x n { T with q := [] } = atOf x n T := by simp [atOf, Vl.of]
  have HO' : Hid (∀ (W : World) (ov' : Value), ThAt W b bm iv ov' { T with q := [] } → Calls Tryz.prog 323 #[.agg #[.iface t u, .int .i64 n], ifc b] W fun e w' => e = .returned (.tuple #[.int .i64 (atOf x n T), .bool true]) ∧ Below W.heap.size W w') := fun W ov' h' => by have := HO.out W ov' h'; rw [e9] at this; exact this
  clear e9 HO
  have hdr := th_drain (H.out.below (below_box w (.cells #[.int .i64 d, .iface t u, .int .i64 n, .iface 378 (.int .i64 v)] 319))) (HM.out.below (below_box _ _))
  have HDR := hid hdr
  clear hdr
  generalize atOf x n T = a at *
  generalize drainM m T.q = m1 at *
  have hne : ∀ i, ¬ foot b bm ov w.heap.size i := fun i e => by
    rcases e with e | e | e
    · omega
    · have := HM.out.lt; omega
    · obtain ⟨c, hc⟩ := ownsRow_shape H.out.out _ e; have := lt_of_shape hc; omega
  have HNE := hid hne
  clear hne
  go_enter Tryz.func327, Tryz.ntmps327
  go_wp2_with fail
  refine HDR.out.mono ?_
  rintro e w1 ⟨rfl, ov1, ht1, hm1, hc1, ho1⟩
  have b0 := (hc1.cell w.heap.size 0 (by simp) (HNE.out _)).trans (show _ = some (Value.int .i64 d) by simp [go_sem])
  have b1 := (hc1.cell w.heap.size 1 (by simp) (HNE.out _)).trans (show _ = some (Value.iface t u) by simp [go_sem])
  have b2 := (hc1.cell w.heap.size 2 (by simp) (HNE.out _)).trans (show _ = some (Value.int .i64 n) by simp [go_sem])
  have b3 := (hc1.cell w.heap.size 3 (by simp) (HNE.out _)).trans (show _ = some (Value.iface 378 (.int .i64 v)) by simp [go_sem])
  have hs1 : w.heap.size < w1.heap.size := by have := hc1.size; simp at this; omega
  have HT := hid ht1
  have HT2 := hid hm1
  have HC := hid hc1
  have HO1 := hid ho1
  clear ht1 hm1 hc1 ho1 HDR
  go_wp2_with fail
  refine (HO'.out _ _ HT.out).mono ?_
  rintro e w2 ⟨rfl, hb2⟩
  have c0 := (hb2.cell (p := ⟨w.heap.size, 0, none⟩) hs1).trans b0
  have c3 := (hb2.cell (p := ⟨w.heap.size, 3, none⟩) hs1).trans b3
  have hs2 : w.heap.size < w2.heap.size := Nat.lt_of_lt_of_le hs1 hb2.size
  have HB2 := hid hb2
  clear hb2 HO' b0 b1 b2 b3
  go_wp2_with fail
  refine (th_load (HT.out.below HB2.out) (HT2.out.below HB2.out) a h0 h1).mono ?_
  rintro e w3 ⟨rfl, hb3⟩
  have d0' := (hb3.cell (p := ⟨w.heap.size, 0, none⟩) hs2).trans c0
  have d3' := (hb3.cell (p := ⟨w.heap.size, 3, none⟩) hs2).trans c3
  have hs3 : w.heap.size < w3.heap.size := Nat.lt_of_lt_of_le hs2 hb3.size
  have HB3 := hid (HB2.out.trans (hb3.mono HB2.out.size))
  clear hb3 HB2 c0 c3
  have hse : seenIn (List.reverse ([] : List (Int × Int))) a (m1 a.toNat) = m1 a.toNat := by simp [seenIn]
  simp only [hse]
  clear hse
  generalize hva : m1 a.toNat = va
  have HVA := hid hva
  clear hva
  go_wp2
  go_region_with (first
    | (go_at_call 340; refine (numOf_any _ _ _).mono ?_; rintro e w' ⟨rfl, rfl⟩)
    | (go_at_call 114; refine (th_setCell (HT.out.below HB3.out.drew) (HT2.out.below HB3.out.drew) a (IntKind.i64.wrap (va + v)) h0 h1).mono ?_; rintro e w4 ⟨rfl, ov4, ht4, hm4, hc4, ho4⟩; have f0 := xadd_kept HNE.out (own_past HO1.out) hc4 hs3 d0'; have HT4 := hid ht4; have HM4 := hid hm4; have HC4 := hid hc4; have HO4 := hid ho4; clear ht4 hm4 hc4 ho4))
  all_goals go_wp2_with (go_at_call 318; refine (regSet_any b d _ _ _ d0 d1 (HT4.out.regs _ (by omega)) (HT4.out.free _ (by omega))).mono ?_; rintro e w5 ⟨rfl, rfl⟩)
  all_goals go_end0
  all_goals
    refine ⟨rfl, ?_⟩
    rw [HVA.out, ← IntWalk.i64_left]
    exact (Eff.two ⟨HT.out, HT2.out, HC.out, HO1.out⟩ (Eff.two (ov1 := ov4) ((Eff.mk HT4.out HM4.out HC4.out HO4.out).base4 HB3.out.drew) (HT4.out.effReg HM4.out (by omega) va))).base (below_box _ _)
end
end Go.Proofs.YtfhkfnoajbbfdaaGreatDoor
