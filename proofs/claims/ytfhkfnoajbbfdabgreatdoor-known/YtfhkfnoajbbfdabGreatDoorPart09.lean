import Derived.Test.YtfhkfnoajbbfdabGreatDoorPart08
namespace Go.Proofs.YtfhkfnoajbbfdabGreatDoor
open Go.RowKit

attribute [local go_sem] mNumOf mRegOf mEnd mDrain mGive mLeap mSetRegister mStore mLoad mSetCell nGive nStore nSetCell

section
variable {w : World} {b bm : Nat} {iv ov : Value} {T : Th} {m : Nat → Int}

theorem encVl_iface' (x : Vl) : ∃ t u, encVl x = .iface t u := by unfold encVl; split <;> exact ⟨_, _, rfl⟩

structure Eff4 (w : World) (b bm : Nat) (iv ov ov' : Value) (T' : Th) (m' : Nat → Int) (w' : World) : Prop where
  t : ThAt w' b bm iv ov' T'
  m : MemAt w' bm m'
  c : Chg (foot b bm ov) w w'
  o : ov'.ownBlock = ov.ownBlock ∨ ∃ k, ov'.ownBlock = some k ∧ w.heap.size ≤ k
theorem Eff.mk {w w' : World} {ov' : Value} {T' : Th} {m' : Nat → Int} (h1 : ThAt w' b bm iv ov' T') (h2 : MemAt w' bm m') (h3 : Chg (foot b bm ov) w w') (h4 : ov'.ownBlock = ov.ownBlock ∨ ∃ k, ov'.ownBlock = some k ∧ w.heap.size ≤ k) : Eff4 w b bm iv ov ov' T' m' w' := ⟨h1, h2, h3, h4⟩
theorem Eff4.base4 {w W w' : World} {ov' : Value} {T' : Th} {m' : Nat → Int} (h : Eff4 W b bm iv ov ov' T' m' w') (hB : Below w.heap.size w W) : ThAt w' b bm iv ov' T' ∧ MemAt w' bm m' ∧ Chg (foot b bm ov) w w' ∧ (ov'.ownBlock = ov.ownBlock ∨ ∃ k, ov'.ownBlock = some k ∧ w.heap.size ≤ k) :=
  ⟨h.t, h.m, (Chg.of_below hB).trans h.c, h.o.imp id (fun ⟨k, e, hk⟩ => ⟨k, e, Nat.le_trans hB.size hk⟩)⟩

/-- Behind a drain and a wrong address. -/
theorem Eff.two {w w1 w2 : World} {T1 T2 : Th} {m1 m2 : Nat → Int} {ov1 : Value} (h1 : ThAt w1 b bm iv ov1 T1 ∧ MemAt w1 bm m1 ∧ Chg (foot b bm ov) w w1 ∧ (ov1.ownBlock = ov.ownBlock ∨ ∃ k, ov1.ownBlock = some k ∧ w.heap.size ≤ k)) (h2 : Eff w1 b bm iv ov1 T2 m2 w2) : Eff w b bm iv ov T2 m2 w2 :=
  let ⟨_, a, c, d, e⟩ := h2; Eff.then h1.2.2.1 h1.2.2.2 a c d e

theorem own_past {w : World} {o : Obj} {ov1 : Value} (h : ov1.ownBlock = ov.ownBlock ∨ ∃ k, ov1.ownBlock = some k ∧ (w.alloc o).heap.size ≤ k) : ov1.ownBlock = ov.ownBlock ∨ ∃ k, ov1.ownBlock = some k ∧ w.heap.size < k :=
  h.imp id (fun ⟨k, a, c⟩ => ⟨k, a, by simp at c; omega⟩)

/-- The instruction's own copy stays as it was. -/
theorem xadd_kept {w w3 w4 : World} {ov1 : Value} {i : Nat} {v : Option Value} (hne : ∀ i, ¬ foot b bm ov w.heap.size i) (ho : ov1.ownBlock = ov.ownBlock ∨ ∃ k, ov1.ownBlock = some k ∧ w.heap.size < k)
    (hc : Chg (foot b bm ov1) w3 w4) (hs : w.heap.size < w3.heap.size) (hv : w3.cell? ⟨w.heap.size, i, none⟩ = v) : w4.cell? ⟨w.heap.size, i, none⟩ = v := by
  refine (hc.cell _ i hs fun e => ?_).trans hv
  rcases e with e | e | e
  · exact hne i (.inl e)
  · exact hne i (.inr (.inl e))
  · rcases ho with ho | ⟨k, ho, hk⟩
    · exact hne i (.inr (.inr (ho ▸ e)))
    · rw [ho] at e; simp at e; omega

set_option maxRecDepth 100000 in
set_option maxHeartbeats 1000000 in
theorem do_xadd_out (h : ThAt w b bm iv ov T) (hm : MemAt w bm m) (x y : Vl) (hx : x.ok) (n d : Int) (h0 : ¬ (0 ≤ atOf x n T ∧ atOf x n T < 256)) :
    Calls Tryz.prog 309 #[.agg #[.int .i64 d, encVl x, .int .i64 n, encVl y], ifc b] w fun e w' => e = .returned (.tuple #[]) ∧ Eff w b bm iv ov { T with q := [], st := 9 } (drainM m T.q) w' := by
  have hon := fun (W : World) (ov' : Value) (h' : ThAt W b bm iv ov' { T with q := [] }) (hm' : MemAt W bm (drainM m T.q)) => cellOn_out h' hm' x hx n h0
  obtain ⟨t, u, hxe⟩ := encVl_iface' x
  obtain ⟨t', u', hye⟩ := encVl_iface' y
  rw [hxe] at hon ⊢
  rw [hye]
  have HO := hid hon
  have H := hid h
  have HM := hid hm
  have hb := h.lt
  clear hon hxe hx h hm hye
  go_enter Tryz.func309, Tryz.ntmps309
  go_wp2_with fail
  refine (th_drain (H.out.below (below_box _ _)) (HM.out.below (below_box _ _))).mono ?_
  rintro e w1 ⟨rfl, ov1, ht1, hm1, hc1, ho1⟩
  have hne : ∀ i, ¬ foot b bm ov w.heap.size i := fun i e => by
    rcases e with e | e | e
    · omega
    · have := HM.out.lt; omega
    · obtain ⟨c, hc⟩ := ownsRow_shape H.out.out _ e; have := lt_of_shape hc; omega
  have b1 := (hc1.cell w.heap.size 1 (by simp) (hne _)).trans (show _ = some (Value.iface t u) by simp [go_sem])
  have b2 := (hc1.cell w.heap.size 2 (by simp) (hne _)).trans (show _ = some (Value.int .i64 n) by simp [go_sem])
  have HT := hid ht1
  have HT2 := hid hm1
  have HC := hid hc1
  have HO1 := hid ho1
  clear ht1 hm1 hc1 ho1 hne
  go_wp2_with fail
  refine (HO.out _ _ HT.out HT2.out).mono ?_
  rintro e w2 ⟨rfl, h2⟩
  have H2 := hid h2
  clear h2 HO
  go_wp2
  refine bodyPost_ret (results_none rfl _ _ _) rfl ?_
  exact ⟨rfl, (Eff.two ⟨HT.out, HT2.out, HC.out, HO1.out⟩ H2.out).base (below_box _ _)⟩

end
end Go.Proofs.YtfhkfnoajbbfdabGreatDoor
