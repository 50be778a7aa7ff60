import Derived.Test.YtfhkfnoajbbfdabGreatDoorPart09
namespace Go.Proofs.YtfhkfnoajbbfdabGreatDoor
open Go.RowKit

attribute [local go_sem] mNumOf mRegOf mEnd mDrain mGive mLeap mSetRegister mStore mLoad mSetCell nGive nStore nSetCell

section
variable {w : World} {b bm : Nat} {iv ov : Value} {T : Th} {m : Nat → Int}

set_option maxRecDepth 100000 in
set_option maxHeartbeats 1000000 in
theorem do_cas_out (h : ThAt w b bm iv ov T) (hm : MemAt w bm m) (x y z : Vl) (hx : x.ok) (n d : Int) (h0 : ¬ (0 ≤ atOf x n T ∧ atOf x n T < 256)) :
    Calls Tryz.prog 308 #[.agg #[.int .i64 d, encVl x, .int .i64 n, encVl y, encVl z], ifc b] w fun e w' => e = .returned (.tuple #[]) ∧ Eff w b bm iv ov { T with q := [], st := 9 } (drainM m T.q) w' := by
  have hon := fun (W : World) (ov' : Value) (h' : ThAt W b bm iv ov' { T with q := [] }) (hm' : MemAt W bm (drainM m T.q)) => cellOn_out h' hm' x hx n h0
  obtain ⟨t, u, hxe⟩ := encVl_iface' x
  obtain ⟨t', u', hye⟩ := encVl_iface' y
  obtain ⟨t2, u2, hze⟩ := encVl_iface' z
  rw [hxe] at hon ⊢
  rw [hye, hze]
  have HO := hid hon
  have H := hid h
  have HM := hid hm
  have hb := h.lt
  clear hon hxe hx h hm hye hze
  go_enter Tryz.func308, Tryz.ntmps308
  go_wp2_with fail
  refine (th_drain (H.out.below (below_box _ _)) (HM.out.below (below_box _ _))).mono ?_
  rintro e w1 ⟨rfl, ov1, ht1, hm1, hc1, ho1⟩
  have hne : ∀ i, ¬ foot b bm ov w.heap.size i := fun i e => by
    rcases e with e | e | e
    · omega
    · have := HM.out.lt; omega
    · obtain ⟨c, hc⟩ := ownsRow_shape H.out.out _ e; have := lt_of_shape hc; omega
  have b1 := (hc1.cell w.heap.size 1 (by simp) (hne _)).trans (show _ = some (Value.iface t u) by simp [go_sem])
  have b2 := (hc1.cell w.heap.size 2 (by simp) (hne _)).trans (show _ = some (Value.int .i64 n) by simp [go_sem])
  have HT := hid ht1
  have HT2 := hid hm1
  have HC := hid hc1
  have HO1 := hid ho1
  clear ht1 hm1 hc1 ho1 hne
  go_wp2_with fail
  refine (HO.out _ _ HT.out HT2.out).mono ?_
  rintro e w2 ⟨rfl, h2⟩
  have H2 := hid h2
  clear h2 HO
  go_wp2
  refine bodyPost_ret (results_none rfl _ _ _) rfl ?_
  exact ⟨rfl, (Eff.two ⟨HT.out, HT2.out, HC.out, HO1.out⟩ H2.out).base (below_box _ _)⟩

end
end Go.Proofs.YtfhkfnoajbbfdabGreatDoor
