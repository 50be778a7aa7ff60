import Derived.Test.YtfhkfnoajbbfdaaGreatDoorPart23
import Derived.Test.YtfhkfnoajbbfdaaGreatDoorPart10
/- text.Read, whatever the text is. -/
namespace Go.Proofs.YtfhkfnoajbbfdaaGreatDoor
open Go.RowKit

set_option maxRecDepth 100000 in
set_option maxHeartbeats 1000000 in
theorem read1x_stop (p : Addr) (bf : Nat) (u : Value) (w : World) (hc : (w.alloc (.cells #[.pointer (some ⟨bf, 0, none⟩)] 252)).cell? p = some u) (hz : (w.alloc (.cells #[.pointer (some ⟨bf, 0, none⟩)] 252)).frozen? p = false) :
    CallsD Tryz.prog 134 #[.pointer (some p)] (.panicking (stopV bf)) w fun e u' w' => e = .returned (.tuple #[]) ∧ u' = .panicking [{ v := .iface 252 (.agg #[.pointer (some ⟨bf, 0, none⟩)]), recovered := true }] ∧ w' = ((w.alloc (.cells #[.pointer (some ⟨bf, 0, none⟩)] 252)).setCell p (.iface 144 (.pointer (some ⟨bf, 0, none⟩)))) := by
  have hta : ∀ x w, (Instr.typeAssert (.iface 252 x) 20 252 true).run Tryz.prog w = .ok (.tuple #[x, .bool true]) w := fun _ _ => by kernel_rfl
  refine callsD_of_wpS Tryz.func134 rfl fun c₀ cs hu => ?_
  apply wpS_seq
  apply wpS_region
  simp [wpOpsS, go_sem, recoverD, hu, Tryz.ntmps134, Exit.thenS]
  apply wpS_of_wp
  go_wp2
  cases c₀
  simp_all [bodyPostS, results, Tryz.results134]

set_option maxRecDepth 100000 in
set_option maxHeartbeats 4000000 in
theorem textRead_gen (W : World) (s : ByteArray) (most : Int) (tk bt : Nat) (Inv : List UInt8 → Nat → World → Prop) (Bad : Nat → World → Prop)
    (hs : (s.size : Int) ≤ most) (hs2 : s.size ≤ 1000000)
    (hent : ∀ args w, (callFunc tk args).run Tryz.prog w = .ok (.enter tk args) w)
    (h0 : Hid (Inv s.data.toList 0 (W.alloc (.cells #[.nilIface] 96))))
    (hcut : Hid (∀ (r : List UInt8) (j : Nat) (w : World), r.length ≤ s.size → Inv r j w → Calls Tryz.prog 135 #[.string ⟨r.toArray⟩, .string ⟨#[10]⟩] w fun e w' => e = .returned (.tuple #[.string ⟨(Lib.cut r [10]).1.toArray⟩, .string ⟨(Lib.cut r [10]).2.1.toArray⟩, .bool (Lib.cut r [10]).2.2]) ∧ ∃ n, w' = w.drewN n))
    (hsplit : Hid (∀ (r : List UInt8) (j : Nat) (w : World) (l : List UInt8) (n : Nat), Inv r j w → l.length ≤ s.size → Calls Tryz.prog 136 #[.string ⟨l.toArray⟩, .string ⟨#[32]⟩] (w.drewN n) fun e w' => e = .returned (.slice (some ⟨w.heap.size, 0, none⟩) (wordsOf l).length (wordsOf l).length) ∧ w' = (w.drewN n).alloc (.cells ((wordsOf l).map Value.string).toArray 9)))
    (hstep : Hid (∀ (r : List UInt8) (j : Nat) (w : World), Inv r j w → (r ≠ [] ∨ j = 0) → ∃ l r' b, Lib.cut r [10] = (l, r', b) ∧ l.length ≤ r.length ∧
      (b = true → r'.length < r.length ∧ ∀ n, Calls Tryz.prog tk #[ptr (w.heap.size + 1), ptr bt] (((w.drewN n).alloc (.cells ((wordsOf l).map Value.string).toArray 9)).alloc (.cells #[.int .i64 (j + 1), .slice (some ⟨w.heap.size, 0, none⟩) (wordsOf l).length (wordsOf l).length] 257)) fun e w2 => (e = .returned (.tuple #[]) ∧ Inv r' (j + 1) w2) ∨ ∃ bf, e = .panicked (stopV bf) ∧ Bad bf w2) ∧
      (b = false → ∀ n bf w2, Fails 2 (j + 1) (w.heap.size + 1) (((w.drewN n).alloc (.cells ((wordsOf l).map Value.string).toArray 9)).alloc (.cells #[.int .i64 (j + 1), .slice (some ⟨w.heap.size, 0, none⟩) (wordsOf l).length (wordsOf l).length] 257)) (.panicked (stopV bf)) w2 → Bad bf w2)))
    (herr : Hid (∀ r j w, Inv r j w → w.cell? ⟨W.heap.size, 0, none⟩ = some .nilIface ∧ w.frozen? ⟨W.heap.size, 0, none⟩ = false))
    (hbad : Hid (∀ bf w, Bad bf w → W.heap.size < w.heap.size ∧ w.cell? ⟨W.heap.size, 0, none⟩ = some .nilIface ∧ w.frozen? ⟨W.heap.size, 0, none⟩ = false)) :
    Calls Tryz.prog 105 #[.string s, .int .i64 most, .func (.func tk) #[] #[ptr bt]] W fun e w' => (e = .returned .nilIface ∧ ∃ j w1, j ≠ 0 ∧ Inv [] j w1 ∧ w' = w1.setCell ⟨W.heap.size, 0, none⟩ .nilIface) ∨
      ∃ bf w2, e = .returned (.iface 144 (ptr bf)) ∧ Bad bf w2 ∧ w' = (w2.alloc (.cells #[ptr bf] 252)).setCell ⟨W.heap.size, 0, none⟩ (.iface 144 (ptr bf)) := by
  have hs' : ¬ most < (s.size : Int) := by omega
  have hmf : ∀ (fn : Fn) (first cap : Array Value) (w : World), (Instr.makeFunc fn first cap).run Tryz.prog w = .ok (.func fn first cap) w := fun _ _ _ _ => rfl
  have hfall : ∀ (bf : Nat) (w2 : World) (tm : Array Value), Hid (tm[6]?.getD undef = .pointer (some ⟨W.heap.size, 0, none⟩)) → Bad bf w2 → bodyPostD Tryz.prog Tryz.f105 (fun e w' => (e = .returned .nilIface ∧ ∃ j w1, j ≠ 0 ∧ Inv [] j w1 ∧ w' = w1.setCell ⟨W.heap.size, 0, none⟩ .nilIface) ∨
      ∃ bf w2, e = .returned (.iface 144 (ptr bf)) ∧ Bad bf w2 ∧ w' = (w2.alloc (.cells #[ptr bf] 252)).setCell ⟨W.heap.size, 0, none⟩ (.iface 144 (ptr bf))) (.panic (stopV bf)) { tmps := tm, defers := [{ target := .fn (.func 134) #[.pointer (some ⟨W.heap.size, 0, none⟩)], args := #[] }] } w2 := by
    intro bf w2 tm htm hB
    obtain ⟨b1, b2, b3⟩ := hbad.out bf w2 hB
    have c2 : (w2.alloc (.cells #[.pointer (some ⟨bf, 0, none⟩)] 252)).cell? ⟨W.heap.size, 0, none⟩ = some .nilIface := (World.cell?_alloc_past _ _ _ b1).trans b2
    refine leaves_cons (f := 134) (args := #[.pointer (some ⟨W.heap.size, 0, none⟩)]) (by simp) (by simp [go_sem]) ?_
    refine (read1x_stop ⟨W.heap.size, 0, none⟩ bf .nilIface w2 c2 ((World.frozen?_alloc_past _ _ _ b1).trans b3)).mono ?_
    rintro e u' w'' ⟨rfl, rfl, rfl⟩
    refine ⟨.iface 144 (ptr bf), ?_, .inr ⟨bf, w2, rfl, hB, rfl⟩⟩
    have h6 := htm.out
    simp [results, Tryz.results105, go_sem, h6, World.cell?_setCell_same _ _ _ c2]
  have HF := hid hfall
  clear hfall
  go_enter_defers Tryz.func105, Tryz.ntmps105
  go_wp2
  go_loopw [0, 7] (fun v0 v7 wr => ∃ (r : List UInt8) (j : Nat), v0 = .string ⟨r.toArray⟩ ∧ v7 = .int .i64 (j + 1) ∧ Inv r j wr ∧ j + r.length ≤ s.size) (fun v0 _ _ => strSize v0)
  case atStart => exact ⟨s.data.toList, 0, by simp, rfl, h0.out, by simp⟩
  case round =>
    obtain ⟨r, j, rfl, rfl, hi, hjl⟩ := hrel
    have HI := hid hi
    clear hi
    by_cases hr : r = [] ∧ j ≠ 0
    · obtain ⟨rfl, hj0⟩ := hr
      have hj : ¬ (j : Int) + 1 = 1 := by omega
      have hee : (ByteArray.mk ([] : List UInt8).toArray).toList.isEmpty = true := by rw [ByteArray.toList_eq]; rfl
      obtain ⟨e1, e2⟩ := herr.out _ _ _ HI.out
      have hjb : (((j : Int) + 1) == 1) = false := by simpa using hj
      go_wp2
      refine leaves_cons (f := 134) (args := #[.pointer (some ⟨W.heap.size, 0, none⟩)]) (by simp) (by simp [go_sem]) ?_
      refine (read1x_idle ⟨W.heap.size, 0, none⟩ _).mono ?_
      rintro e u' w'' ⟨rfl, rfl, rfl⟩
      refine ⟨.nilIface, ?_, .inl ⟨rfl, j, wr, hj0, HI.out, rfl⟩⟩
      simp [results, Tryz.results105, go_sem, World.cell?_setCell_same wr _ _ e1]
    · have hr' : r ≠ [] ∨ j = 0 := by
        by_cases e : r = []
        · exact .inr (Decidable.byContradiction fun h => hr ⟨e, h⟩)
        · exact .inl e
      obtain ⟨l, r', b, hcu, hll, hgo, hno⟩ := hstep.out r j wr HI.out hr'
      have HG := hid hgo
      have HN := hid hno
      clear hgo hno
      have hj6 : j ≤ 1000000 := by omega
      have hwr : wrap64 ((j : Int) + 1 + 1) = (j : Int) + 1 + 1 := by
        unfold wrap64; omega
      have hL : LineAt (((wr.drewN 0).alloc (.cells ((wordsOf l).map Value.string).toArray 9)).alloc (.cells #[.int .i64 (j + 1), .slice (some ⟨wr.heap.size, 0, none⟩) (wordsOf l).length (wordsOf l).length] 257)) (wr.heap.size + 1) (j + 1) wr.heap.size (wordsOf l) := lineAt_new (w := wr.drewN 0)
      have hcase : ((((j : Int) + 1) == 1) = true) ∨ ((((j : Int) + 1) == 1) = false ∧ r.isEmpty = false) := by
        by_cases e : j = 0
        · left; subst e; rfl
        · right
          refine ⟨by simpa using (show ¬ (j : Int) + 1 = 1 by omega), ?_⟩
          rcases hr' with h | h
          · simpa using h
          · exact absurd h e
      clear hL
      rcases hcase with hjb | ⟨hjb, hie⟩
      all_goals
        go_wp2_with fail
        refine (hcut.out r j wr (by omega) HI.out).mono ?_
        rintro e w1 ⟨rfl, n, rfl⟩
        rw [hcu]
        go_wp2_with fail
        refine (hsplit.out r j wr l n HI.out (by omega)).mono ?_
        rintro e w1 ⟨rfl, rfl⟩
        cases b with
        | false =>
          have hL : LineAt (((wr.drewN n).alloc (.cells ((wordsOf l).map Value.string).toArray 9)).alloc (.cells #[.int .i64 (j + 1), .slice (some ⟨wr.heap.size, 0, none⟩) (wordsOf l).length (wordsOf l).length] 257)) (wr.heap.size + 1) (j + 1) wr.heap.size (wordsOf l) := lineAt_new (w := wr.drewN n)
          have HN2 := hid (HN.out rfl n)
          clear HN HG
          go_wp2_with fail
          refine (fail_any hL 2).mono ?_
          rintro e w2 ⟨bf, rfl, hf⟩
          exact HF.out bf w2 _ rfl (HN2.out bf w2 ⟨bf, rfl, hf⟩)
        | true =>
          obtain ⟨hlt, hcall⟩ := HG.out rfl
          have HC := hid (hcall n)
          clear hcall HG HN
          go_wp2_with fail
          refine HC.out.mono ?_
          rintro e w2 (⟨rfl, h2⟩ | ⟨bf, rfl, h2⟩)
          · have H2 := hid h2
            clear h2 HC HI
            go_wp2
            go_roundw
            case rel => exact ⟨r', j + 1, rfl, by go_num, H2.out, by omega⟩
            case measure => show r'.toArray.size < r.toArray.size; simpa using hlt
          · exact HF.out bf w2 _ rfl h2
end Go.Proofs.YtfhkfnoajbbfdaaGreatDoor
