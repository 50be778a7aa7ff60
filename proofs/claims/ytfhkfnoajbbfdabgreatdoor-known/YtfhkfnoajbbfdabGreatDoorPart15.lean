import Derived.Test.YtfhkfnoajbbfdabGreatDoorPart06
import Derived.Test.YtfhkfnoajbbfdabGreatDoorPart14
import Derived.Deep.RegionLaw
/- text.Read, whatever the text is. -/
namespace Go.Proofs.YtfhkfnoajbbfdabGreatDoor
open Go.RowKit

set_option maxRecDepth 100000 in
set_option maxHeartbeats 1000000 in
theorem read1x_stop (p : Addr) (bf : Nat) (u : Value) (w : World) (hc : (w.alloc (.cells #[.pointer (some ⟨bf, 0, none⟩)] 197)).cell? p = some u) (hz : (w.alloc (.cells #[.pointer (some ⟨bf, 0, none⟩)] 197)).frozen? p = false) :
    CallsD Tryz.prog 81 #[.pointer (some p)] (.panicking (stopV bf)) w fun e u' w' => e = .returned (.tuple #[]) ∧ u' = .panicking [{ v := .iface 197 (.agg #[.pointer (some ⟨bf, 0, none⟩)]), recovered := true }] ∧ w' = ((w.alloc (.cells #[.pointer (some ⟨bf, 0, none⟩)] 197)).setCell p (.iface 89 (.pointer (some ⟨bf, 0, none⟩)))) := by
  have hta : ∀ x w, (Instr.typeAssert (.iface 197 x) 20 197 true).run Tryz.prog w = .ok (.tuple #[x, .bool true]) w := fun _ _ => by kernel_rfl
  refine callsD_of_wpS Tryz.func81 rfl fun c₀ cs hu => ?_
  apply wpS_seq
  apply wpS_region
  simp [wpOpsS, go_sem, recoverD, hu, Tryz.ntmps81, Exit.thenS]
  apply wpS_of_wp
  go_wp2
  cases c₀
  simp_all [bodyPostS, results, Tryz.results81]

set_option maxRecDepth 100000 in
set_option maxHeartbeats 4000000 in
theorem textRead_gen (W : World) (s : ByteArray) (most : Int) (tk bt : Nat) (Inv : List UInt8 → Nat → World → Prop) (Bad : Nat → World → Prop)
    (hs : (s.size : Int) ≤ most) (hs2 : s.size ≤ 1000000)
    (hent : ∀ args w, (callFunc tk args).run Tryz.prog w = .ok (.enter tk args) w)
    (h0 : Hid (Inv s.data.toList 0 (W.alloc (.cells #[.nilIface] 59))))
    (hcut : Hid (∀ (r : List UInt8) (j : Nat) (w : World), r.length ≤ s.size → Inv r j w → Calls Tryz.prog 82 #[.string ⟨r.toArray⟩, .string ⟨#[10]⟩] w fun e w' => e = .returned (.tuple #[.string ⟨(Lib.cut r [10]).1.toArray⟩, .string ⟨(Lib.cut r [10]).2.1.toArray⟩, .bool (Lib.cut r [10]).2.2]) ∧ ∃ n, w' = w.drewN n))
    (hsplit : Hid (∀ (r : List UInt8) (j : Nat) (w : World) (l : List UInt8) (n : Nat), Inv r j w → l.length ≤ s.size → Calls Tryz.prog 83 #[.string ⟨l.toArray⟩, .string ⟨#[32]⟩] (w.drewN n) fun e w' => e = .returned (.slice (some ⟨w.heap.size, 0, none⟩) (wordsOf l).length (wordsOf l).length) ∧ w' = (w.drewN n).alloc (.cells ((wordsOf l).map Value.string).toArray 9)))
    (hstep : Hid (∀ (r : List UInt8) (j : Nat) (w : World), Inv r j w → (r ≠ [] ∨ j = 0) → ∃ l r' b, Lib.cut r [10] = (l, r', b) ∧ l.length ≤ r.length ∧
      (b = true → r'.length < r.length ∧ ∀ n, Calls Tryz.prog tk #[ptr (w.heap.size + 1), ptr bt] (((w.drewN n).alloc (.cells ((wordsOf l).map Value.string).toArray 9)).alloc (.cells #[.int .i64 (j + 1), .slice (some ⟨w.heap.size, 0, none⟩) (wordsOf l).length (wordsOf l).length] 202)) fun e w2 => (e = .returned (.tuple #[]) ∧ Inv r' (j + 1) w2) ∨ ∃ bf, e = .panicked (stopV bf) ∧ Bad bf w2) ∧
      (b = false → ∀ n bf w2, Fails 2 (j + 1) (w.heap.size + 1) (((w.drewN n).alloc (.cells ((wordsOf l).map Value.string).toArray 9)).alloc (.cells #[.int .i64 (j + 1), .slice (some ⟨w.heap.size, 0, none⟩) (wordsOf l).length (wordsOf l).length] 202)) (.panicked (stopV bf)) w2 → Bad bf w2)))
    (herr : Hid (∀ r j w, Inv r j w → w.cell? ⟨W.heap.size, 0, none⟩ = some .nilIface ∧ w.frozen? ⟨W.heap.size, 0, none⟩ = false))
    (hbad : Hid (∀ bf w, Bad bf w → W.heap.size < w.heap.size ∧ w.cell? ⟨W.heap.size, 0, none⟩ = some .nilIface ∧ w.frozen? ⟨W.heap.size, 0, none⟩ = false)) :
    Calls Tryz.prog 55 #[.string s, .int .i64 most, .func (.func tk) #[] #[ptr bt]] W fun e w' => (e = .returned .nilIface ∧ ∃ j w1, j ≠ 0 ∧ Inv [] j w1 ∧ w' = w1.setCell ⟨W.heap.size, 0, none⟩ .nilIface) ∨
      ∃ bf w2, e = .returned (.iface 89 (ptr bf)) ∧ Bad bf w2 ∧ w' = (w2.alloc (.cells #[ptr bf] 197)).setCell ⟨W.heap.size, 0, none⟩ (.iface 89 (ptr bf)) := by
  have hs' : ¬ most < (s.size : Int) := by omega
  have hmf : ∀ (fn : Fn) (first cap : Array Value) (w : World), (Instr.makeFunc fn first cap).run Tryz.prog w = .ok (.func fn first cap) w := fun _ _ _ _ => rfl
  have hfall : ∀ (bf : Nat) (w2 : World) (tm : Array Value), Hid (tm[6]?.getD undef = .pointer (some ⟨W.heap.size, 0, none⟩)) → Bad bf w2 → bodyPostD Tryz.prog Tryz.f55 (fun e w' => (e = .returned .nilIface ∧ ∃ j w1, j ≠ 0 ∧ Inv [] j w1 ∧ w' = w1.setCell ⟨W.heap.size, 0, none⟩ .nilIface) ∨
      ∃ bf w2, e = .returned (.iface 89 (ptr bf)) ∧ Bad bf w2 ∧ w' = (w2.alloc (.cells #[ptr bf] 197)).setCell ⟨W.heap.size, 0, none⟩ (.iface 89 (ptr bf))) (.panic (stopV bf)) { tmps := tm, defers := [{ target := .fn (.func 81) #[.pointer (some ⟨W.heap.size, 0, none⟩)], args := #[] }] } w2 := by
    intro bf w2 tm htm hB
    obtain ⟨b1, b2, b3⟩ := hbad.out bf w2 hB
    have c2 : (w2.alloc (.cells #[.pointer (some ⟨bf, 0, none⟩)] 197)).cell? ⟨W.heap.size, 0, none⟩ = some .nilIface := (World.cell?_alloc_past _ _ _ b1).trans b2
    refine leaves_cons (f := 81) (args := #[.pointer (some ⟨W.heap.size, 0, none⟩)]) (by simp) (by simp [go_sem]) ?_
    refine (read1x_stop ⟨W.heap.size, 0, none⟩ bf .nilIface w2 c2 ((World.frozen?_alloc_past _ _ _ b1).trans b3)).mono ?_
    rintro e u' w'' ⟨rfl, rfl, rfl⟩
    refine ⟨.iface 89 (ptr bf), ?_, .inr ⟨bf, w2, rfl, hB, rfl⟩⟩
    have h6 := htm.out
    simp [results, Tryz.results55, go_sem, h6, World.cell?_setCell_same _ _ _ c2]
  have HF := hid hfall
  clear hfall
  go_enter_defers Tryz.func55, Tryz.ntmps55
  go_wp2
  go_loopw [0, 7] (fun v0 v7 wr => ∃ (r : List UInt8) (j : Nat), v0 = .string ⟨r.toArray⟩ ∧ v7 = .int .i64 (j + 1) ∧ Inv r j wr ∧ j + r.length ≤ s.size) (fun v0 _ _ => strSize v0)
  case atStart => exact ⟨s.data.toList, 0, by simp, rfl, h0.out, by simp⟩
  case round =>
    obtain ⟨r, j, rfl, rfl, hi, hjl⟩ := hrel
    have HI := hid hi
    clear hi
    by_cases hr : r = [] ∧ j ≠ 0
    · obtain ⟨rfl, hj0⟩ := hr
      have hj : ¬ (j : Int) + 1 = 1 := by omega
      have hee : (ByteArray.mk ([] : List UInt8).toArray).toList.isEmpty = true := by rw [ByteArray.toList_eq]; rfl
      obtain ⟨e1, e2⟩ := herr.out _ _ _ HI.out
      have hjb : (((j : Int) + 1) == 1) = false := by simpa using hj
      go_wp2
      refine leaves_cons (f := 81) (args := #[.pointer (some ⟨W.heap.size, 0, none⟩)]) (by simp) (by simp [go_sem]) ?_
      refine (read1x_idle ⟨W.heap.size, 0, none⟩ _).mono ?_
      rintro e u' w'' ⟨rfl, rfl, rfl⟩
      refine ⟨.nilIface, ?_, .inl ⟨rfl, j, wr, hj0, HI.out, rfl⟩⟩
      simp [results, Tryz.results55, go_sem, World.cell?_setCell_same wr _ _ e1]
    · have hr' : r ≠ [] ∨ j = 0 := by
        by_cases e : r = []
        · exact .inr (Decidable.byContradiction fun h => hr ⟨e, h⟩)
        · exact .inl e
      obtain ⟨l, r', b, hcu, hll, hgo, hno⟩ := hstep.out r j wr HI.out hr'
      have HG := hid hgo
      have HN := hid hno
      clear hgo hno
      have hj6 : j ≤ 1000000 := by omega
      have hwr : wrap64 ((j : Int) + 1 + 1) = (j : Int) + 1 + 1 := by
        unfold wrap64; omega
      have hL : LineAt (((wr.drewN 0).alloc (.cells ((wordsOf l).map Value.string).toArray 9)).alloc (.cells #[.int .i64 (j + 1), .slice (some ⟨wr.heap.size, 0, none⟩) (wordsOf l).length (wordsOf l).length] 202)) (wr.heap.size + 1) (j + 1) wr.heap.size (wordsOf l) := lineAt_new (w := wr.drewN 0)
      have hcase : ((((j : Int) + 1) == 1) = true) ∨ ((((j : Int) + 1) == 1) = false ∧ r.isEmpty = false) := by
        by_cases e : j = 0
        · left; subst e; rfl
        · right
          refine ⟨by simpa using (show ¬ (j : Int) + 1 = 1 by omega), ?_⟩
          rcases hr' with h | h
          · simpa using h
          · exact absurd h e
      clear hL
      rcases hcase with hjb | ⟨hjb, hie⟩
      all_goals
        go_wp2_with fail
        refine (hcut.out r j wr (by omega) HI.out).mono ?_
        rintro e w1 ⟨rfl, n, rfl⟩
        rw [hcu]
        go_wp2_with fail
        refine (hsplit.out r j wr l n HI.out (by omega)).mono ?_
        rintro e w1 ⟨rfl, rfl⟩
        cases b with
        | false =>
          have hL : LineAt (((wr.drewN n).alloc (.cells ((wordsOf l).map Value.string).toArray 9)).alloc (.cells #[.int .i64 (j + 1), .slice (some ⟨wr.heap.size, 0, none⟩) (wordsOf l).length (wordsOf l).length] 202)) (wr.heap.size + 1) (j + 1) wr.heap.size (wordsOf l) := lineAt_new (w := wr.drewN n)
          have HN2 := hid (HN.out rfl n)
          clear HN HG
          go_wp2_with fail
          refine (fail_any hL 2).mono ?_
          rintro e w2 ⟨bf, rfl, hf⟩
          exact HF.out bf w2 _ rfl (HN2.out bf w2 ⟨bf, rfl, hf⟩)
        | true =>
          obtain ⟨hlt, hcall⟩ := HG.out rfl
          have HC := hid (hcall n)
          clear hcall HG HN
          go_wp2_with fail
          refine HC.out.mono ?_
          rintro e w2 (⟨rfl, h2⟩ | ⟨bf, rfl, h2⟩)
          · have H2 := hid h2
            clear h2 HC HI
            go_wp2
            go_roundw
            case rel => exact ⟨r', j + 1, rfl, by go_num, H2.out, by omega⟩
            case measure => show r'.toArray.size < r.toArray.size; simpa using hlt
          · exact HF.out bf w2 _ rfl h2
end Go.Proofs.YtfhkfnoajbbfdabGreatDoor

/- codes.Read and commits.Load, walked. -/
namespace Go.Proofs.YtfhkfnoajbbfdabGreatDoor
open Go.RowKit

set_option maxRecDepth 100000 in
set_option maxHeartbeats 1000000 in
theorem codesRead_walk (W : World) (s : ByteArray) (Post : World → Prop)
    (hread : Hid (Calls Tryz.prog 55 #[.string s, .int .i64 131072, .func (.func 56) #[] #[ptr W.heap.size]] (W.alloc (.cells #[.slice none 0 0] 83)) fun e w' => e = .returned .nilIface ∧ Post w' ∧ ∃ a k c, w'.cell? ⟨W.heap.size, 0, none⟩ = some (.slice a k c))) :
    Calls Tryz.prog 38 #[.string s] W fun e w' => ∃ a k c, e = .returned (.tuple #[.slice a k c, .nilIface]) ∧ w'.cell? ⟨W.heap.size, 0, none⟩ = some (.slice a k c) ∧ Post w' := by
  have hmf : ∀ (fn : Fn) (first cap : Array Value) (w : World), (Instr.makeFunc fn first cap).run Tryz.prog w = .ok (.func fn first cap) w := fun _ _ _ _ => rfl
  go_enter Tryz.func38, Tryz.ntmps38
  go_wp2_with fail
  refine hread.out.mono ?_
  rintro e w1 ⟨rfl, hp, a, k, c, hc⟩
  have HP := hid hp
  clear hp hread
  go_wp2
  go_ret2
  exact ⟨a, k, c, rfl, hc, HP.out⟩


theorem step_app1 {P : Program} {w : World} {ops : Array Oper} {o : Oper} {a : Act} {K : Act → World → Prop} {Q : Exit → Act → World → Prop} {E : Prop} (hgd : o.guard = none) (s x : Operand) (t : TypeId)
    (ho : o.op = .call { callee := .builtin .append, args := #[s, x], argTypes := #[t, t] })
    (e : TypeId) (i : TypeInfo) (z : Value) (bytes : Nat) (ht : P.underlying t = some (.slice e)) (hi : P.info? e = some i) (hz : i.zero = some z) (hsize : i.size = 1) (hby : i.bytes = bytes) (hzs : z.cells.size = 1)
    (v : Value) (n : Nat) (xs : List Value) (hs : a.eval s = v) (hown : w.ownsRow 0 e 1 v n xs) (ad : Addr) (u : Value) (hx : a.eval x = .slice (some ad) 1 1) (hu : ∀ j u', [u][j]? = some u' → w.cell? (ad.add j) = some u') (hu1 : u.oneCell' = true) (h63 : n + 1 ≤ maxLen) (hbytes : (n + 1) * bytes ≤ 140737488355328)
    (h : ∀ g cap w', w'.ownsRow 0 e 1 (.slice (some ⟨g, 0, none⟩) (n + 1) cap) (n + 1) (xs ++ [u]) → Chg (fun k _ => v.ownBlock = some k) w w' → (v.ownBlock = some g ∨ g = w.heap.size) → K (a.put o.dst (.slice (some ⟨g, 0, none⟩) (n + 1) cap)) w') :
    if Region.wanted o (yielded ops a.tmps) = true then Oper.wp P o a w K Q else E := by
  have hw : Region.wanted o (yielded ops a.tmps) = true := by simp [Region.wanted, hgd]
  rw [if_pos hw]
  obtain ⟨g, cap, w', hr, h2, h3, h4⟩ := run_app1 (P := P) w t o.type e i z bytes ht hi hz hsize hby hzs v n xs hown ad u hu hu1 h63 hbytes
  unfold Oper.wp execOp
  simp only [ho, resolve, invoke, builtin, Sem.run_bind, Sem.run_pure, Result.andThen_ok, List.map_toArray, List.map_cons, List.map_nil, hs, hx, hr]
  exact h g cap w' h2 h3 h4

theorem ld_cell {wr w3 : World} {o1 o2 : Obj} {tv u : Value} {bm : Nat} (hc : Chg (fun j _ => tv.ownBlock = some j) ((wr.drew.alloc o1).alloc o2) w3) (h5 : tv.ownBlock ≠ some bm) (hlt : bm < wr.heap.size) (h : wr.cell? ⟨bm, 256, none⟩ = some u) : w3.cell? ⟨bm, 256, none⟩ = some u :=
  (hc.cell bm 256 (by simp; omega) h5).trans ((World.cell?_alloc_past _ _ _ (by simp; omega)).trans ((World.cell?_alloc_past (w := wr.drew) _ _ _ hlt).trans h))
theorem ld_free {wr w3 : World} {o1 o2 : Obj} {tv : Value} {bm : Nat} (hc : Chg (fun j _ => tv.ownBlock = some j) ((wr.drew.alloc o1).alloc o2) w3) (hlt : bm < wr.heap.size) (h : wr.frozen? ⟨bm, 256, none⟩ = false) : w3.frozen? ⟨bm, 256, none⟩ = false :=
  (hc.frozen bm 256 (by simp; omega)).trans ((World.frozen?_alloc_past _ _ _ (by simp; omega)).trans ((World.frozen?_alloc_past (w := wr.drew) _ _ _ hlt).trans h))

theorem infoPT : (Tryz.prog.info? 75).map (fun i => (i.zero, i.size, i.bytes)) = some (some (.pointer none), 1, 8) := by kernel_rfl

set_option maxRecDepth 100000 in
set_option maxHeartbeats 2000000 in
theorem load_walk (W : World) (s : ByteArray) (n : Nat) (hn : n < 100000) (Start : Nat → World → Prop) (Inv : Nat → Nat → Nat → World → Prop)
    (hread : Hid (Calls Tryz.prog 38 #[.string s] W fun e w' => ∃ g cap, e = .returned (.tuple #[.slice (some ⟨g, 0, none⟩) n cap, .nilIface]) ∧ n ≤ cap ∧ Start g w'))
    (h0 : Hid (∀ g w, Start g w → Inv g w.heap.size 0 (w.alloc (.cells Tryz.zeroCells80 80))))
    (hk : Hid (∀ g bm k w, Inv g bm k w → k < n → ∃ a m c tv xs, w.cell? ⟨g, k, none⟩ = some (.slice a m c) ∧ w.cell? ⟨bm, 256, none⟩ = some tv ∧ w.frozen? ⟨bm, 256, none⟩ = false ∧ w.ownsRow 0 75 1 tv k xs ∧ tv.ownBlock ≠ some bm ∧ bm < w.heap.size ∧
       ∀ q cp w3, w3.ownsRow 0 75 1 (.slice (some ⟨q, 0, none⟩) (k + 1) cp) (k + 1) (xs ++ [ptr w.heap.size]) → Chg (fun j _ => tv.ownBlock = some j) ((w.drew.alloc (.cells (newCells bm (.slice a m c)) 120)).alloc (.cells #[ptr w.heap.size] 75)) w3 → (tv.ownBlock = some q ∨ q = w.heap.size + 2) → Inv g bm (k + 1) (w3.setCell ⟨bm, 256, none⟩ (.slice (some ⟨q, 0, none⟩) (k + 1) cp)))) :
    Calls Tryz.prog 28 #[.string s] W fun e w' => ∃ g bm, e = .returned (.tuple #[ptr bm, .nilIface]) ∧ Inv g bm n w' := by
  obtain ⟨i0, hi, hz0, hz1, hz2⟩ := info_parts infoPT
  go_enter Tryz.func28, Tryz.ntmps28
  go_wp2_with fail
  refine hread.out.mono ?_
  rintro e w1 ⟨g, cap, rfl, hnc, hp⟩
  have HP := hid (h0.out g w1 hp)
  clear hp hread h0
  go_wp2
  go_loopw [21] (fun v wr => ∃ k : Nat, k ≤ n ∧ v = .int .i64 k ∧ Inv g w1.heap.size k wr) (fun v _ => n - (intOf v).toNat)
  case atStart => exact ⟨0, by omega, rfl, HP.out⟩
  case round =>
    obtain ⟨k, hkn, rfl, hI⟩ := hrel
    have HI := hid hI
    clear hI HP
    by_cases hlt : k < n
    · have hlt' : (k : Int) < n := by omega
      obtain ⟨a, m, c, tv, xs, q1, q2, q3, q4, q5, q6, q7⟩ := hk.out _ _ _ _ HI.out hlt
      have Q4 := hid q4
      have Q7 := hid q7
      have Q5 := hid q5
      have hl1 : k + 1 ≤ maxLen := by unfold maxLen; omega
      have hl2 : (k + 1) * 8 ≤ 140737488355328 := by omega
      have O1 : Hid (((wr.drew.alloc (.cells (newCells w1.heap.size (.slice a m c)) 120)).alloc (.cells #[ptr wr.heap.size] 75)).ownsRow 0 75 1 tv k xs) := (World.ownsRow.alloc (World.ownsRow.alloc (w := wr.drew) q4 _) _)
      have C1 : Hid (∀ j u', [ptr wr.heap.size][j]? = some u' → ((wr.drew.alloc (.cells (newCells w1.heap.size (.slice a m c)) 120)).alloc (.cells #[ptr wr.heap.size] 75)).cell? ((⟨wr.heap.size + 1, 0, none⟩ : Addr).add j) = some u') := by
        have := cell_one_new (wr.drew.alloc (.cells (newCells w1.heap.size (.slice a m c)) 120)) (ptr wr.heap.size) 75
        have hs : (wr.drew.alloc (.cells (newCells w1.heap.size (.slice a m c)) 120)).heap.size = wr.heap.size + 1 := by simp
        rw [hs] at this
        exact this
      clear q4 q7 q5 HI hk
      go_wp2_with fail
      go_region_law (first
        | (go_simp; go_at_call 39; refine (newThread_ok _ _ _ _ _).mono ?_; rintro e w' ⟨rfl, rfl⟩)
        | (refine step_app1 rfl (.tmp 29) (.tmp 35) 78 rfl 75 i0 (.pointer none) 8 Tryz.underlying78 hi hz0 hz1 hz2 rfl tv k xs rfl O1.out ⟨wr.heap.size + 1, 0, none⟩ (ptr wr.heap.size) rfl C1.out rfl hl1 hl2 ?_; intro q cp w3 ho hc hg; have hcb := ld_cell hc Q5.out q6 q2; have hfb := ld_free hc q6 q3; have HO := hid ho; have HC := hid hc; have HG := hid hg; clear ho hc hg))
      all_goals
        go_wp2
        go_roundw
        case rel => exact ⟨k + 1, by omega, by go_num, Q7.out q cp w3 HO.out HC.out (HG.out.imp id (fun e => e.trans (by simp)))⟩
        case measure => simp [intOf]; omega
    · have hlt' : ¬ (k : Int) < n := by omega
      obtain rfl : k = n := by omega
      go_wp2
      go_ret2
      exact ⟨_, _, rfl, HI.out⟩
end Go.Proofs.YtfhkfnoajbbfdabGreatDoor

/- A text without fault: what codes.Read and commits.Load make of it. -/
namespace Go.Proofs.YtfhkfnoajbbfdabGreatDoor
open Go.RowKit

theorem shape_new (w : World) (cs : Array Value) (t : TypeId) : (w.alloc (.cells cs t)).shape? w.heap.size = some (t, cs.size) := by
  have e : (w.alloc (.cells cs t)).heap[w.heap.size]? = some (.cells cs t) := by show (w.heap.push _)[w.heap.size]? = _; exact Array.getElem?_push_size
  unfold World.shape?
  rw [e]

section
variable {W : World} {wd : Nat → ByteArray} {cs : List (List Ic)} {r : List UInt8} {j : Nat} {w : World}

end

theorem callsRead1 : ∀ args w, (callFunc 56 args).run Tryz.prog w = .ok (.enter 56 args) w := fun _ _ => by kernel_rfl

end Go.Proofs.YtfhkfnoajbbfdabGreatDoor

/- A text without fault: its machine. -/
namespace Go.Proofs.YtfhkfnoajbbfdabGreatDoor
open Go.RowKit

theorem zeroMach : Tryz.zeroCells80 = (Array.replicate 256 (.int .i64 0)).push (.slice none 0 0) := by kernel_rfl

theorem newMem (w : World) : MemAt (w.alloc (.cells Tryz.zeroCells80 80)) w.heap.size (fun _ => 0) ∧ (w.alloc (.cells Tryz.zeroCells80 80)).cell? ⟨w.heap.size, 256, none⟩ = some (.slice none 0 0) := by
  refine ⟨⟨?_, ?_, fun j _ => by simp⟩, ?_⟩
  · rw [shape_new, zeroMach]; simp
  · intro j hj
    rw [World.cell?_alloc_new, zeroMach, Array.getElem?_push_lt (by simpa using hj)]
    simp
  · rw [World.cell?_alloc_new, zeroMach, Array.getElem?_push]; simp

section
variable (W : World) (cs : List (List Ic))

def LInv (g bm k : Nat) (w : World) : Prop := ∃ (cap : Nat) (xs : List Value) (bs : List Nat) (tv : Value), RowsAt W.heap.size w (.slice (some ⟨g, 0, none⟩) cs.length cap) cs xs ∧ Below W.heap.size W w ∧ W.heap.size ≤ bm ∧ MemAt w bm (fun _ => 0) ∧ w.cell? ⟨bm, 256, none⟩ = some tv ∧ w.ownsRow 0 75 1 tv k (bs.map ptr) ∧
  (∀ q, tv.ownBlock = some q → W.heap.size ≤ q) ∧ (∀ (j b : Nat), bs[j]? = some b → W.heap.size ≤ b ∧ ∃ iv, xs[j]? = some iv ∧ ThAt w b bm iv (.slice none 0 0) Th.init) ∧ bs.Nodup

variable {W cs}

theorem linv_start {g cap : Nat} {xs : List Value} {w : World} (h : RowsAt W.heap.size w (.slice (some ⟨g, 0, none⟩) cs.length cap) cs xs) (hb : Below W.heap.size W w) : LInv W cs g w.heap.size 0 (w.alloc (.cells Tryz.zeroCells80 80)) := by
  have hc : Chg (fun _ _ => False) w (w.alloc (.cells Tryz.zeroCells80 80)) := (Chg.refl _ w).alloc _
  exact ⟨cap, xs, [], .slice none 0 0, h.keep hc (fun _ _ _ e => e), hb.alloc hb.size _, hb.size, (newMem w).1, (newMem w).2, nilRow _ _, fun q hq => by simp [Value.ownBlock] at hq, fun j b hj => by simp at hj, List.nodup_nil⟩

theorem linv_step {g bm k : Nat} {w : World} (h : LInv W cs g bm k w) (hk : k < cs.length) : ∃ a m c tv xs, w.cell? ⟨g, k, none⟩ = some (.slice a m c) ∧ w.cell? ⟨bm, 256, none⟩ = some tv ∧ w.frozen? ⟨bm, 256, none⟩ = false ∧ w.ownsRow 0 75 1 tv k xs ∧ tv.ownBlock ≠ some bm ∧ bm < w.heap.size ∧
    ∀ q cp w3, w3.ownsRow 0 75 1 (.slice (some ⟨q, 0, none⟩) (k + 1) cp) (k + 1) (xs ++ [ptr w.heap.size]) → Chg (fun j _ => tv.ownBlock = some j) ((w.drew.alloc (.cells (newCells bm (.slice a m c)) 120)).alloc (.cells #[ptr w.heap.size] 75)) w3 → (tv.ownBlock = some q ∨ q = w.heap.size + 2) → LInv W cs g bm (k + 1) (w3.setCell ⟨bm, 256, none⟩ (.slice (some ⟨q, 0, none⟩) (k + 1) cp)) := by
  obtain ⟨cap, xs, bs, tv, h1, h2, h3, h4, h5, h6, h7, h8, h9⟩ := h
  have hlen := h1.len
  obtain ⟨iv, hiv⟩ : ∃ iv, xs[k]? = some iv := ⟨_, List.getElem?_eq_getElem (by omega)⟩
  obtain ⟨co, hco, hrow⟩ := h1.row k iv hiv
  obtain ⟨a, m, c, rfl⟩ : ∃ a m c, iv = .slice a m c := by
    rcases hrow.2 with ⟨e1, _⟩ | ⟨g', cap', cur, e1, _⟩
    · exact ⟨_, _, _, e1⟩
    · exact ⟨_, _, _, e1⟩
  have hbl : bs.length = k := by have := h6.1; simp at this; omega
  have htm : tv.ownBlock ≠ some bm := fun e => by
    obtain ⟨n, hs⟩ := ownsRow_shape h6 bm e
    rw [h4.sh] at hs
    simp at hs
  have hgc := (ownsRow_cell h1.own k hk).1.trans hiv
  refine ⟨a, m, c, tv, bs.map ptr, hgc, h5, h4.free 256 (by omega), h6, htm, h4.lt, ?_⟩
  intro q cp w3 ho hc hq
  have d1 : Chg (fun j (_ : Nat) => tv.ownBlock = some j) w ((w.drew.alloc (.cells (newCells bm (.slice a m c)) 120)).alloc (.cells #[ptr w.heap.size] 75)) := (((Chg.refl _ w).drew).alloc _).alloc _
  have d2 : Chg (fun j (_ : Nat) => tv.ownBlock = some j) w w3 := d1.trans hc
  have d3 : Chg (fun j i => j = bm ∧ i = 256) w3 (w3.setCell ⟨bm, 256, none⟩ (.slice (some ⟨q, 0, none⟩) (k + 1) cp)) := (Chg.refl _ w3).setCell (fun _ => ⟨rfl, rfl⟩) _
  have d4 : Chg (fun j i => tv.ownBlock = some j ∨ (j = bm ∧ i = 256)) w (w3.setCell ⟨bm, 256, none⟩ (.slice (some ⟨q, 0, none⟩) (k + 1) cp)) := (d2.mono (fun _ _ _ e => .inl e)).trans (d3.mono (fun _ _ _ e => .inr e))
  have hbm3 : bm < w3.heap.size := Nat.lt_of_lt_of_le h4.lt d2.size
  have hsq : ∃ n, w3.shape? q = some (75, n) := ownsRow_shape ho q rfl
  have hqb : q ≠ bm := fun e => by
    obtain ⟨n, hs⟩ := hsq
    rw [e, d2.shape bm h4.lt, h4.sh] at hs
    simp at hs
  have hwq : W.heap.size ≤ q := by
    rcases hq with e | e
    · exact h7 q e
    · have := h2.size; omega
  have hrowy : ∀ j i, rowy w j → ¬ (tv.ownBlock = some j ∨ (j = bm ∧ i = 256)) := by
    rintro j i hr (e | e)
    · obtain ⟨n, hs⟩ := ownsRow_shape h6 j e
      exact not_rowy_of hs (by decide) (by decide) hr
    · exact not_rowy_of (e.1 ▸ h4.sh) (by decide) (by decide) hr
  have hcell256 : w3.cell? ⟨bm, 256, none⟩ = some tv := (d2.cell bm 256 h4.lt htm).trans h5
  refine ⟨cap, xs, bs ++ [w.heap.size], .slice (some ⟨q, 0, none⟩) (k + 1) cp, h1.keep d4 hrowy, h2.trans (d4.below h2.size ?_), h3, h4.keep d4 ?_, cell_set_eq hcell256 rfl, ?_, ?_, ?_, ?_⟩
  · rintro j i (e | e)
    · exact h7 j e
    · omega
  · rintro i hi (e | e)
    · exact htm e
    · omega
  · refine ownsRow_chg ?_ d3 (fun g' hg' i e => ?_)
    · simpa using ho
    · simp [Value.ownBlock] at hg'
      exact hqb (hg'.trans e.1)
  · intro q' hq'
    simp [Value.ownBlock] at hq'
    omega
  · intro j b hj
    rw [List.getElem?_append] at hj
    split at hj
    · obtain ⟨e1, iv', e2, e3⟩ := h8 j b hj
      refine ⟨e1, iv', e2, e3.keep d4 ?_ (fun g' hg' => by simp [Value.ownBlock] at hg')⟩
      rintro i (e | e)
      · obtain ⟨n, hs⟩ := ownsRow_shape h6 b e
        rw [e3.sh] at hs
        simp at hs
      · exact e3.ne h4 e.1
    · rename_i hlt
      have hjk : j = k := by
        have := (List.getElem?_eq_some_iff.1 hj).1
        simp at this
        omega
      subst hjk
      simp [hbl] at hj
      subst hj
      refine ⟨h2.size, _, hiv, ?_⟩
      have t0 : ThAt (w.drew.alloc (.cells (newCells bm (.slice a m c)) 120)) w.heap.size bm (.slice a m c) (.slice none 0 0) Th.init := newTh_at w.drew bm (.slice a m c)
      have t1 := t0.below (w' := (w.drew.alloc (.cells (newCells bm (.slice a m c)) 120)).alloc (.cells #[ptr w.heap.size] 75)) ((Below.refl _ _).alloc (Nat.le_refl _) _)
      have t2 := t1.keep hc (fun i e => by
        obtain ⟨n, hs⟩ := ownsRow_shape h6 w.heap.size e
        have := lt_of_shape hs
        omega) (fun g' hg' => by simp [Value.ownBlock] at hg')
      exact t2.keep d3 (fun i e => by have := h4.lt; omega) (fun g' hg' => by simp [Value.ownBlock] at hg')
  · refine List.nodup_append.2 ⟨h9, by simp, ?_⟩
    intro x hx y hy
    simp at hy
    subst hy
    obtain ⟨j, hj, rfl⟩ := List.mem_iff_getElem.1 hx
    obtain ⟨_, iv', _, e3⟩ := h8 j bs[j] (List.getElem?_eq_getElem hj)
    have := e3.lt
    omega

theorem linv_end {g bm : Nat} {w : World} (h : LInv W cs g bm cs.length w) (hne : 0 < cs.length) : MRep (fun k => W.heap.size ≤ k) w bm (cs.map fun c => (Th.init, c)) (fun _ => 0) ∧ Below W.heap.size W w := by
  obtain ⟨cap, xs, bs, tv, h1, h2, h3, h4, h5, h6, h7, h8, h9⟩ := h
  have hlen := h1.len
  have hbl : bs.length = cs.length := by have := h6.1; simp at this; omega
  have hts : ∀ i (hi : i < (bs.zip (xs.zip cs)).length), i < bs.length ∧ i < xs.length ∧ i < cs.length := by
    intro i hi; simp at hi; omega
  refine ⟨⟨(bs.zip (xs.zip cs)).map fun p => { b := p.1, iv := p.2.1, ov := .slice none 0 0, T := Th.init, code := p.2.2 }, ?_, ?_⟩, h2⟩
  · have hl : ((bs.zip (xs.zip cs)).map fun p => ({ b := p.1, iv := p.2.1, ov := .slice none 0 0, T := Th.init, code := p.2.2 } : Tr)).length = cs.length := by simp; omega
    have hget : ∀ i (hi : i < ((bs.zip (xs.zip cs)).map fun p => ({ b := p.1, iv := p.2.1, ov := .slice none 0 0, T := Th.init, code := p.2.2 } : Tr)).length), ((bs.zip (xs.zip cs)).map fun p => ({ b := p.1, iv := p.2.1, ov := .slice none 0 0, T := Th.init, code := p.2.2 } : Tr))[i] = { b := bs[i]'(by omega), iv := xs[i]'(by omega), ov := .slice none 0 0, T := Th.init, code := cs[i]'(by omega) } := by
      intro i hi; simp
    refine ⟨h4, ?_, ?_, ?_, ?_, h3, ?_, ?_⟩
    · rcases h6.2 with ⟨_, e⟩ | ⟨bt, cp, cur, e1, _, e3, _⟩
      · omega
      · subst e1
        obtain ⟨n, hs⟩ := ownsRow_shape h6 bt rfl
        refine ⟨bt, cp, n, by rw [h5, hl], ⟨hs, h7 bt rfl⟩, ?_⟩
        intro i hi
        have hi' : i < bs.length := by omega
        rw [(ownsRow_cell h6 i (by omega)).1, hget i hi]
        simp [hi']
    · intro i hi
      rw [hget i hi]
      obtain ⟨_, iv, e1, e2⟩ := h8 i (bs[i]'(by omega)) (List.getElem?_eq_getElem (by omega))
      rw [List.getElem?_eq_getElem (by omega)] at e1
      cases e1
      exact e2
    · intro i hi
      rw [hget i hi]
      have hxi := List.getElem?_eq_getElem (l := xs) (i := i) (by omega)
      obtain ⟨co, e1, e2⟩ := h1.row i _ hxi
      rw [List.getElem?_eq_getElem (by omega)] at e1
      cases e1
      show CodeAt _ _ (xs[i]'(by omega)) (cs[i]'(by omega))
      have hlow := h1.lowr i _ hxi
      generalize (xs[i]'(by omega)) = iv at e2 hlow
      rcases e2.2 with ⟨q1, q2⟩ | ⟨bi, cp, cur, q1, _⟩
      · exact .inl ⟨q1, List.length_eq_zero_iff.1 q2⟩
      · subst q1
        obtain ⟨n, hs⟩ := ownsRow_shape e2 bi rfl
        refine .inr ⟨bi, cp, n, rfl, ⟨hs, hlow bi rfl⟩, ?_⟩
        intro j hj
        rw [(ownsRow_cell e2 j hj).1]
        simp [hj]
    · intro i j hi hj hij
      rw [hget i hi, hget j hj]
      refine ⟨fun e => ?_, fun k hk => by simp [Value.ownBlock] at hk⟩
      rcases Nat.lt_or_gt_of_ne hij with hlt | hlt
      · exact (List.pairwise_iff_getElem.1 h9) i j (by omega) (by omega) hlt e
      · exact (List.pairwise_iff_getElem.1 h9) j i (by omega) (by omega) hlt e.symm
    · intro i hi
      rw [hget i hi]
      exact (h8 i (bs[i]'(by omega)) (List.getElem?_eq_getElem (by omega))).1
    · intro i hi k hk
      rw [hget i hi] at hk
      simp [Value.ownBlock] at hk
  · apply List.ext_getElem
    · simp; omega
    · intro i h1 h2
      simp
end

end Go.Proofs.YtfhkfnoajbbfdabGreatDoor
