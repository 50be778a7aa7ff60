import Derived.Test.YtfhkfnoajbbfdabGreatDoorPart12
import Derived.BigQuiet
import Derived.Deep.QuietTactic
import Derived.Test.YtfhkfnoajbbfdabGreatDoorPart10
import Derived.Test.YtfhkfnoajbbfdabGreatDoorPart11
import Derived.Test.YtfhkfnoajbbfdabGreatDoorPart13
import Derived.RangeFuncLeaves
import Derived.Deep.OwnRows
import Derived.Laws.IdiomCopy
import Derived.Test.YtfhkfnoajbbfdabGreatDoorPart06
import Derived.Test.YtfhkfnoajbbfdabGreatDoorPart07
import Derived.Defers
import Derived.Recover
namespace Go.Proofs.YtfhkfnoajbbfdabGreatDoor
open Go.RowKit

attribute [local go_sem] mSetRegister mLeap mEnd

section
variable {w : World} {b bm : Nat} {iv ov : Value} {T : Th} {m : Nat → Int}

theorem below_boxN (w : World) (o : Obj) (n : Nat) : Below w.heap.size w ((w.alloc o).drewN n) := ⟨(below_box w o).os, (below_box w o).tape, (below_box w o).output, (below_box w o).size, (below_box w o).block⟩

set_option maxRecDepth 100000 in
set_option maxHeartbeats 2000000 in
theorem do_operate_ok (h : ThAt w b bm iv ov T) (hm : MemAt w bm m) (x y : Vl) (hx : x.ok) (hy : y.ok) (op d v : Int) (d0 : 0 ≤ d) (d1 : d < 8)
    (hop : ∀ W, Calls Tryz.prog 299 #[.int .i64 op, .int .i64 (x.of T), .int .i64 (y.of T)] W fun e w' => e = .returned (.tuple #[.int .i64 v, .bool true]) ∧ w' = W) :
    Calls Tryz.prog 298 #[.agg #[.int .i64 op, .int .i64 d, encVl x, encVl y], ifc b] w fun e w' => e = .returned (.tuple #[]) ∧ Eff w b bm iv ov (T.setR d.toNat v) m w' := by
  obtain ⟨t, u, F, he, hme, hen, hv⟩ := vl_call x hx
  obtain ⟨t2, u2, F2, he2, hme2, hen2, hv2⟩ := vl_call y hy
  rw [he, he2]
  have H := hid h
  have HM := hid hm
  have HX := hid (fun W hB => hv W b bm iv ov T (h.below (w' := W) hB))
  have HY := hid (fun W hB => hv2 W b bm iv ov T (h.below (w' := W) hB))
  have HO := hid hop
  generalize x.of T = p at HX HO
  generalize y.of T = q at HY HO
  clear h hm hv hv2 he he2 hx hy hop
  go_enter Tryz.func298, Tryz.ntmps298
  go_wp2_with fail
  go_quiet ((first
    | (go_at_call 299; exact Calls.quiet_of_same (HO.out _))
    | (with_reducible exact Calls.quiet_of_same (HX.out _ (below_boxN _ _ _)))
    | (with_reducible exact Calls.quiet_of_same (HY.out _ (below_boxN _ _ _)))))
  go_wp2_with (go_at_call 300; refine (regSet_any b d _ _ _ d0 d1 ((H.out.below (below_boxN _ _ _)).regs _ (by omega)) ((H.out.below (below_boxN _ _ _)).free _ (by omega))).mono ?_; rintro e w3 ⟨rfl, rfl⟩)
  go_end0
  exact ⟨rfl, ((H.out.below (below_boxN _ _ _)).effReg (HM.out.below (below_boxN _ _ _)) (by omega) _).base (below_boxN _ _ _)⟩

set_option maxRecDepth 100000 in
set_option maxHeartbeats 2000000 in
theorem do_operate_trap (h : ThAt w b bm iv ov T) (hm : MemAt w bm m) (x y : Vl) (hx : x.ok) (hy : y.ok) (op d v : Int)
    (hop : ∀ W, Calls Tryz.prog 299 #[.int .i64 op, .int .i64 (x.of T), .int .i64 (y.of T)] W fun e w' => e = .returned (.tuple #[.int .i64 v, .bool false]) ∧ w' = W) :
    Calls Tryz.prog 298 #[.agg #[.int .i64 op, .int .i64 d, encVl x, encVl y], ifc b] w fun e w' => e = .returned (.tuple #[]) ∧ Eff w b bm iv ov { T with st := 1 } m w' := by
  obtain ⟨t, u, F, he, hme, hen, hv⟩ := vl_call x hx
  obtain ⟨t2, u2, F2, he2, hme2, hen2, hv2⟩ := vl_call y hy
  rw [he, he2]
  have H := hid h
  have HM := hid hm
  have HX := hid (fun W hB => hv W b bm iv ov T (h.below (w' := W) hB))
  have HY := hid (fun W hB => hv2 W b bm iv ov T (h.below (w' := W) hB))
  have HO := hid hop
  generalize x.of T = p at HX HO
  generalize y.of T = q at HY HO
  clear h hm hv hv2 he he2 hx hy hop
  go_enter Tryz.func298, Tryz.ntmps298
  go_wp2_with fail
  go_quiet ((first
    | (go_at_call 299; exact Calls.quiet_of_same (HO.out _))
    | (with_reducible exact Calls.quiet_of_same (HX.out _ (below_boxN _ _ _)))
    | (with_reducible exact Calls.quiet_of_same (HY.out _ (below_boxN _ _ _)))))
  go_wp2_with (go_at_call 328; refine (end_any b 1 _ _ (H.out.below (below_boxN _ _ _)).state ((H.out.below (below_boxN _ _ _)).free 22 (by omega))).mono ?_; rintro e w1 ⟨rfl, rfl⟩)
  refine bodyPost_ret (results_none rfl _ _ _) rfl ?_
  exact ⟨rfl, ((H.out.below (below_boxN _ _ _)).effState (HM.out.below (below_boxN _ _ _)) 1).base (below_boxN _ _ _)⟩
end
end Go.Proofs.YtfhkfnoajbbfdabGreatDoor

namespace Go.Proofs.YtfhkfnoajbbfdabGreatDoor
open Go.RowKit

/-- An instruction, and what its parts keep to. -/
def okI (i : Ic) : Prop := i.d < 8 ∧ i.a.ok ∧ i.b.ok ∧ i.c.ok ∧ (i.k = 2 ∨ i.k = 3 ∨ i.k = 4 ∨ i.k = 5 ∨ i.k = 6 ∨ i.k = 7 ∨ i.k = 8 ∨ i.k = 10 ∨ i.k = 0 ∨ (i.k = 1 ∧ i.op < 12) ∨ i.k = 9)

theorem encVl_num {x : Vl} (h : x.reg = false) : encVl x = .iface 359 (.int .i64 x.v) := by simp [encVl, h]
theorem encVl_reg {x : Vl} (h : x.reg = true) : encVl x = .iface 264 (.int .i64 x.v) := by simp [encVl, h]
theorem Vl.of_num {x : Vl} (h : x.reg = false) (T : Th) : x.of T = x.v := by simp [Vl.of, h]
theorem Vl.of_reg {x : Vl} (h : x.reg = true) (T : Th) : x.of T = T.r x.v.toNat := by simp [Vl.of, h]

section
variable {w : World} {b bm : Nat} {iv ov : Value} {T : Th} {m : Nat → Int}

theorem th_do (h : ThAt w b bm iv ov T) (hm : MemAt w bm m) (i : Ic) (hok : okI i) (hl : T.out.length < 1099511627776) :
    Calls Tryz.prog (insF i) #[insV i, ifc b] w fun e w' => e = .returned (.tuple #[]) ∧ Eff w b bm iv ov (doI i T m).1 (doI i T m).2 w' := by
  obtain ⟨k, op, d, xa, xb, xc, n⟩ := i
  obtain ⟨hd, ha, hb, hc, hk⟩ := hok
  simp only at hd ha hb hc hk
  have d0 : (0 : Int) ≤ (d : Int) := by omega
  have d1 : (d : Int) < 8 := by omega
  have hk' := hk
  rcases hk with rfl | rfl | rfl | rfl | rfl | rfl | rfl | rfl | rfl | ⟨rfl, hop⟩ | rfl
  · simp only [insF, insV, doI, if_true]
    by_cases hin : 0 ≤ atOf xa n T ∧ atOf xa n T < 256
    · rw [if_pos hin]
      have := do_load_in h hm xa ha n d d0 d1 hin.1 hin.2
      rwa [Int.toNat_natCast] at this
    · rw [if_neg hin]
      exact do_load_out h hm xa ha n d hin
  · simp only [insF, insV, doI, if_true, Nat.reduceEqDiff, if_false]
    by_cases hin : 0 ≤ atOf xa n T ∧ atOf xa n T < 256
    · rw [if_pos hin]
      cases hr : xb.reg
      · rw [encVl_num hr, Vl.of_num hr]; exact do_store_num h hm xa ha n xb.v hin.1 hin.2
      · have hv := hb hr
        rw [encVl_reg hr, Vl.of_reg hr]; exact do_store_reg h hm xa ha n xb.v hv.1 hv.2 hin.1 hin.2
    · rw [if_neg hin]
      exact do_store_out h hm xa xb ha n hin
  · simp only [insF, insV, doI, if_true, Nat.reduceEqDiff, if_false]
    by_cases hin : 0 ≤ atOf xa n T ∧ atOf xa n T < 256
    · rw [if_pos hin]
      by_cases he : drainM m T.q (atOf xa n T).toNat = xb.of T
      · have := do_cas_eq_any h hm xa xb xc ha hb hc n d d0 d1 hin.1 hin.2 he
        rw [Int.toNat_natCast] at this
        rw [if_pos he]; exact this
      · have := do_cas_ne_any h hm xa xb xc ha hb hc n d d0 d1 hin.1 hin.2 he
        rw [Int.toNat_natCast] at this
        rw [if_neg he]; exact this
    · rw [if_neg hin]
      exact do_cas_out h hm xa xb xc ha n d hin
  · simp only [insF, insV, doI, if_true, Nat.reduceEqDiff, if_false]
    by_cases hin : 0 ≤ atOf xa n T ∧ atOf xa n T < 256
    · rw [if_pos hin]
      have := do_xadd_any h hm xa xb ha hb n d d0 d1 hin.1 hin.2
      rwa [Int.toNat_natCast] at this
    · rw [if_neg hin]
      exact do_xadd_out h hm xa xb ha n d hin
  · simp only [insF, insV, doI, if_true, Nat.reduceEqDiff, if_false]
    exact do_fence h hm
  · simp only [insF, insV, doI, if_true, Nat.reduceEqDiff, if_false]
    exact do_give h hm xa ha hl
  · simp only [insF, insV, doI, if_true, Nat.reduceEqDiff, if_false]
    exact do_leap h hm n
  · simp only [insF, insV, doI, Nat.reduceEqDiff, if_false]
    exact do_end h hm n
  · simp only [insF, insV, doI, if_true, Nat.reduceEqDiff, if_false]
    have := do_move h hm xa ha d d0 d1
    rwa [Int.toNat_natCast] at this
  · simp only [insF, insV, doI, if_true, Nat.reduceEqDiff, if_false]
    cases hv : opV op (xa.of T) (xb.of T) with
    | some v =>
      have := do_operate_ok h hm xa xb ha hb op d v d0 d1 (fun W => by
        have := opOf_any (xa.of T) (xb.of T) W op hop
        rw [hv] at this
        exact this)
      rw [Int.toNat_natCast] at this
      exact this
    | none =>
      exact do_operate_trap h hm xa xb ha hb op d 0 (fun W => by
        have := opOf_any (xa.of T) (xb.of T) W op hop
        rw [hv] at this
        exact this)
  · simp only [insF, insV, doI, if_true, Nat.reduceEqDiff, if_false]
    by_cases hz : xa.of T = 0
    · rw [if_pos hz]; exact do_leapIf_zero h hm xa ha n hz
    · rw [if_neg hz]; exact do_leapIf_not h hm xa ha n hz

theorem ins_method (i : Ic) (hok : okI i) (W : World) : (method 578 (insT i) (insV i) "Do").run Tryz.prog W = .ok (insF i, insV i) W := by
  obtain ⟨k, op, d, xa, xb, xc, n⟩ := i
  obtain ⟨hd, ha, hb, hc, hk⟩ := hok
  simp only at hk
  rcases hk with rfl | rfl | rfl | rfl | rfl | rfl | rfl | rfl | rfl | ⟨rfl, hop⟩ | rfl
  · exact mDoload _ W
  · exact mDostore _ W
  · exact mDocas _ W
  · exact mDoxadd _ W
  · exact mDofence _ W
  · exact mDogive _ W
  · exact mDoleap _ W
  · exact mDoend _ W
  · exact mDomove _ W
  · exact mDooperate _ W
  · exact mDoleapIf _ W

theorem ins_enters (i : Ic) (hok : okI i) : ∀ args W, (callFunc (insF i) args).run Tryz.prog W = .ok (.enter (insF i) args) W := by
  obtain ⟨k, op, d, xa, xb, xc, n⟩ := i
  obtain ⟨hd, ha, hb, hc, hk⟩ := hok
  simp only at hk
  rcases hk with rfl | rfl | rfl | rfl | rfl | rfl | rfl | rfl | rfl | ⟨rfl, hop⟩ | rfl
  · exact enters_of Tryz.func306 (by kernel_rfl) rfl
  · exact enters_of Tryz.func307 (by kernel_rfl) rfl
  · exact enters_of Tryz.func308 (by kernel_rfl) rfl
  · exact enters_of Tryz.func309 (by kernel_rfl) rfl
  · exact enters_of Tryz.func310 (by kernel_rfl) rfl
  · exact enters_of Tryz.func311 (by kernel_rfl) rfl
  · exact enters_of Tryz.func312 (by kernel_rfl) rfl
  · exact enters_of Tryz.func314 (by kernel_rfl) rfl
  · exact enters_of Tryz.func304 (by kernel_rfl) rfl
  · exact enters_of Tryz.func298 (by kernel_rfl) rfl
  · exact enters_of Tryz.func313 (by kernel_rfl) rfl

/-- A thread's step, whatever stands at its place. -/
theorem th_step (h : ThAt w b bm iv ov T) (hm : MemAt w bm m) {D : Nat → Prop} (c : List Ic) (hc : CodeAt D w iv c) (hok : ∀ i ∈ c, okI i) (hlen : c.length ≤ 4000) (hpl : 0 ≤ T.pl) (hl : T.out.length < 1099511627776) :
    Calls Tryz.prog 54 #[ptr b] w fun e w' => e = .returned (.tuple #[]) ∧ Eff w b bm iv ov (stepT T m c).1 (stepT T m c).2 w' := by
  by_cases hst : T.st = 0
  · obtain ⟨p, hp⟩ := Int.eq_ofNat_of_zero_le hpl
    by_cases hlt : p < c.length
    · rcases hc with ⟨_, hnil⟩ | ⟨bi, cap, n, hiv, _, hcell⟩
      · subst hnil; simp at hlt
      · have hi := hok c[p] (List.getElem_mem hlt)
        have := th_step_do h hm hst bi c.length cap hiv p hp hlt (insT c[p]) (insV c[p]) (hcell p hlt) (by omega) (insF c[p]) _ _ (ins_method _ hi) (ins_enters _ hi) (fun W h' hm' => th_do h' hm' c[p] hi hl)
        simpa only [stepT, hst, if_true, hp, Int.toNat_natCast, List.getElem?_eq_getElem hlt] using this
    · have hge : (c.length : Int) ≤ T.pl := by omega
      have hs : stepT T m c = ({ T with st := 10 }, m) := by
        simp only [stepT, hst, if_true, hp, Int.toNat_natCast, List.getElem?_eq_none (Nat.le_of_not_lt hlt)]
      rw [hs]
      rcases hc with ⟨hiv, hnil⟩ | ⟨bi, cap, n, hiv, _⟩
      · subst hnil; exact th_step_end h hm hst none 0 0 hiv hge
      · exact th_step_end h hm hst _ c.length cap hiv hge
  · have hs : stepT T m c = (T, m) := by simp only [stepT, hst, if_false]
    rw [hs]
    refine (th_step_still h hst).mono ?_
    rintro e w' ⟨rfl, rfl⟩
    exact ⟨rfl, ov, h, hm, Chg.refl _ _, .inl rfl⟩

theorem th_flush (h : ThAt w b bm iv ov T) (hm : MemAt w bm m) :
    ∃ v, Calls Tryz.prog 53 #[ptr b] w fun e w' => e = .returned (.bool v) ∧ Eff w b bm iv ov (flushT T m).1 (flushT T m).2 w' := by
  cases hq : T.q with
  | nil => exact ⟨false, by simpa only [flushT, hq] using th_flush_nil h hm hq⟩
  | cons p q => exact ⟨true, by simpa only [flushT, hq] using th_flush_cons h hm p q hq⟩
end

/-- A machine as plain data lies in memory. -/
def MRep (D : Nat → Prop) (w : World) (bm : Nat) (A : List (Th × List Ic)) (m : Nat → Int) : Prop := ∃ ts, MAt D w bm m ts ∧ ts.map (fun t => (t.T, t.code)) = A

def stepA (A : List (Th × List Ic)) (m : Nat → Int) (i : Nat) : List (Th × List Ic) × (Nat → Int) := match A[i]? with
  | none => (A, m)
  | some p => (A.set i ((stepT p.1 m p.2).1, p.2), (stepT p.1 m p.2).2)
def flushA (A : List (Th × List Ic)) (m : Nat → Int) (i : Nat) : List (Th × List Ic) × (Nat → Int) := match A[i]? with
  | none => (A, m)
  | some p => (A.set i ((flushT p.1 m).1, p.2), (flushT p.1 m).2)
def okA (A : List (Th × List Ic)) : Prop := ∀ p ∈ A, 0 ≤ p.1.pl ∧ p.2.length ≤ 4000 ∧ (∀ i ∈ p.2, okI i) ∧ p.1.out.length < 1099511627776

section
variable {D : Nat → Prop} {w : World} {bm : Nat} {A : List (Th × List Ic)} {m : Nat → Int}

theorem m_step (h : MRep D w bm A m) (hD : ∀ k, w.heap.size ≤ k → D k) (hok : okA A) (i : Nat) (hi : i < A.length) :
    Calls Tryz.prog 34 #[ptr bm, .int .i64 i] w fun e w' => e = .returned (.tuple #[]) ∧ (MRep D w' bm (stepA A m i).1 (stepA A m i).2 ∧ Chg (fun k _ => D k) w w') := by
  obtain ⟨ts, h, rfl⟩ := h
  have hi' : i < ts.length := by simpa using hi
  have hp := hok (ts[i].T, ts[i].code) (List.mem_map.2 ⟨ts[i], List.getElem_mem hi', rfl⟩)
  have hs : stepA (ts.map fun t => (t.T, t.code)) m i = ((ts.map fun t => (t.T, t.code)).set i ((stepT ts[i].T m ts[i].code).1, ts[i].code), (stepT ts[i].T m ts[i].code).2) := by
    simp only [stepA, List.getElem?_map, List.getElem?_eq_getElem hi', Option.map_some]
  rw [hs]
  refine m_step_yes h i hi' _ ((th_step (h.th i hi') h.mem ts[i].code (h.code i hi') hp.2.2.1 hp.2.1 hp.1 hp.2.2.2).mono ?_)
  rintro e w' ⟨rfl, he⟩
  obtain ⟨ov', h1, h2⟩ := h.frame hi' hD he
  exact ⟨rfl, ⟨_, h1, by rw [List.map_set]⟩, h2⟩

theorem m_flush (h : MRep D w bm A m) (hD : ∀ k, w.heap.size ≤ k → D k) (i : Nat) (hi : i < A.length) :
    Calls Tryz.prog 33 #[ptr bm, .int .i64 i] w fun e w' => e = .returned (.tuple #[]) ∧ (MRep D w' bm (flushA A m i).1 (flushA A m i).2 ∧ Chg (fun k _ => D k) w w') := by
  obtain ⟨ts, h, rfl⟩ := h
  have hi' : i < ts.length := by simpa using hi
  have hs : flushA (ts.map fun t => (t.T, t.code)) m i = ((ts.map fun t => (t.T, t.code)).set i ((flushT ts[i].T m).1, ts[i].code), (flushT ts[i].T m).2) := by
    simp only [flushA, List.getElem?_map, List.getElem?_eq_getElem hi', Option.map_some]
  rw [hs]
  obtain ⟨v, hv⟩ := th_flush (h.th i hi') h.mem
  refine m_flush_yes h i hi' v _ (hv.mono ?_)
  rintro e w' ⟨rfl, he⟩
  obtain ⟨ov', h1, h2⟩ := h.frame hi' hD he
  exact ⟨rfl, ⟨_, h1, by rw [List.map_set]⟩, h2⟩
end
end Go.Proofs.YtfhkfnoajbbfdabGreatDoor

namespace Go.Proofs.YtfhkfnoajbbfdabGreatDoor
open Go.RowKit

section
variable {w : World} {b bm : Nat} {iv ov : Value} {T : Th} {m : Nat → Int}

theorem below_setCells {w0 : World} {B : Nat} (g : Nat) (hg : B ≤ g) : ∀ (vs : List Value) (o : Nat) (w : World), Below B w0 w → Below B w0 (w.setCells g o vs)
  | [], _, _, h => h
  | v :: r, o, _, h => below_setCells g hg r (o + 1) _ (h.setCell (p := ⟨g, o, none⟩) hg v)

theorem size_setCells (g : Nat) : ∀ (vs : List Value) (o : Nat) (w : World), (w.setCells g o vs).heap.size = w.heap.size
  | [], _, _ => rfl
  | v :: r, o, w => (size_setCells g r (o + 1) _).trans (size_set w _ v)

theorem run_copy_out (w : World) (ov : Value) (xs : List Int) (hown : w.ownsRow 0 2 1 ov xs.length (xs.map (Value.int .i64))) (ty : TypeId) :
    ∃ k, (Builtin.copy_ #[31, 31] ty #[.slice (some ⟨w.heap.size, 0, none⟩) xs.length xs.length, ov]).run Tryz.prog (w.alloc (.cells (madeCells #[.int .i64 0] xs.length) 2)) = .ok (goInt k) ((w.alloc (.cells (madeCells #[.int .i64 0] xs.length) 2)).setCells w.heap.size 0 (xs.map (Value.int .i64))) := by
  have hs : (Tryz.prog.info? 2).map (·.size) = some 1 := by kernel_rfl
  rcases hown.2 with ⟨rfl, h0⟩ | ⟨g, cap, cur, rfl, _, hg, hn, _, hcs, htake⟩
  · have hx : xs = [] := List.eq_nil_of_length_eq_zero h0
    subst hx
    exact ⟨0, run_copy_none (P := Tryz.prog) _ _ _ ty 2 _ _ _ _ _ _ Tryz.underlying31 hs (by simp)⟩
  · refine ⟨_, run_copy_cells (P := Tryz.prog) _ 31 31 ty 2 w.heap.size 0 _ _ ⟨g, 0, none⟩ _ cap (xs.map (Value.int .i64)) Tryz.underlying31 hs (by simp) ?_ ?_ ?_ ?_⟩
    · intro j v hv
      have := hown.cells (g := g) rfl j v hv
      rw [← this]
      have hlt : g < w.heap.size := (Array.getElem?_eq_some_iff.1 hg).1
      exact World.cell?_alloc_lt w _ _ (by unfold Addr.add; split <;> exact hlt)
    · intro j hj
      rw [World.cell?_alloc_at _ _ _ _ rfl]
      simp at hj ⊢
      simp [madeCells, hj]
    · intro j hj
      exact World.frozen?_alloc_at _ _ _ _ rfl
    · intro v hv
      obtain ⟨z, _, rfl⟩ := List.mem_map.1 hv
      rfl

set_option maxRecDepth 100000 in
set_option maxHeartbeats 1000000 in
theorem th_out (h : ThAt w b bm iv ov T) (hl : T.out.length < 1099511627776) :
    Calls Tryz.prog 36 #[ptr b] w fun e w' => e = .returned (.slice (some ⟨w.heap.size, 0, none⟩) T.out.length T.out.length) ∧ Below w.heap.size w w' ∧ w.heap.size < w'.heap.size ∧ ∀ j (hj : j < T.out.length), w'.cell? ⟨w.heap.size, j, none⟩ = some (.int .i64 T.out[j]) := by
  have hmk := fun W => run_make_row' (P := Tryz.prog) 31 2 (.int .i64 0) 8 Tryz.underlying31 infoInt64 rfl .i64 .i64 T.out.length (by omega) (by omega) W
  have ho := h.outc
  have hb := h.lt
  have hsl : (∃ a n c, ov = .slice a n c) ∧ ov = .slice (match ov with | .slice a _ _ => a | _ => none) T.out.length (match ov with | .slice _ _ c => c | _ => 0) := by
    rcases h.out.2 with ⟨e, h0⟩ | ⟨g, cap, cur, e, _⟩
    · subst e; rw [h0]; exact ⟨⟨_, _, _, rfl⟩, rfl⟩
    · subst e; exact ⟨⟨_, _, _, rfl⟩, rfl⟩
  obtain ⟨⟨a, n, c, rfl⟩, he⟩ := hsl
  simp only [Value.slice.injEq, true_and, and_true] at he
  subst he
  have hcp := fun ty => run_copy_out w _ T.out h.out ty
  have hc0 : ∀ o, (w.alloc o).cell? ⟨b, 21, none⟩ = some (.slice a T.out.length c) := fun o => (World.cell?_alloc_past _ _ _ hb).trans ho
  obtain ⟨k, hk⟩ := hcp 3
  clear hcp h
  go_enter Tryz.func36, Tryz.ntmps36
  go_wp2
  go_ret
  refine ⟨rfl, below_setCells _ (Nat.le_refl _) _ _ _ (below_box _ _), by rw [size_setCells]; simp, fun j hj => ?_⟩
  have := World.cell?_setCells_in w.heap.size (T.out.map (Value.int .i64)) 0 (w.alloc (.cells (madeCells #[.int .i64 0] T.out.length) 2)) (fun j hj => by rw [World.cell?_alloc_at _ _ _ _ rfl]; simp at hj ⊢; simp [madeCells, hj]) j (by simpa using hj)
  simpa using this
end
end Go.Proofs.YtfhkfnoajbbfdabGreatDoor

namespace Go.Proofs.YtfhkfnoajbbfdabGreatDoor
open Go.RowKit

section
variable {D : Nat → Prop} {w : World} {bm : Nat} {m : Nat → Int} {ts : List Tr}

set_option maxRecDepth 100000 in
set_option maxHeartbeats 1000000 in
theorem m_out_yes (h : MAt D w bm m ts) (i : Nat) (hi : i < ts.length) (hl : ts[i].T.out.length < 1099511627776) :
    Calls Tryz.prog 26 #[ptr bm, .int .i64 i] w fun e w' => e = .returned (.slice (some ⟨w.heap.size, 0, none⟩) ts[i].T.out.length ts[i].T.out.length) ∧ Below w.heap.size w w' ∧ w.heap.size < w'.heap.size ∧ ∀ j (hj : j < ts[i].T.out.length), w'.cell? ⟨w.heap.size, j, none⟩ = some (.int .i64 ts[i].T.out[j]) := by
  obtain ⟨bt, cap, h1, h3⟩ := h.slot
  have hx : w.cell? ⟨bt, i, none⟩ = some (.pointer (some ⟨ts[i].b, 0, none⟩)) := h3 i hi
  have hi' : (i : Int) < (ts.length : Int) := by omega
  have HS := hid (th_out (h.th i hi) hl)
  clear h h3
  go_enter Tryz.func26, Tryz.ntmps26
  go_wp2_with fail
  refine (has_yes bm bt _ cap i h1 hi).mono ?_
  rintro e w' ⟨rfl, rfl⟩
  go_wp2_with fail
  refine HS.out.mono ?_
  rintro e w1 ⟨rfl, hr⟩
  have HR := hid hr
  clear hr HS
  go_wp2
  go_ret
  exact ⟨rfl, HR.out⟩

set_option maxRecDepth 100000 in
set_option maxHeartbeats 1000000 in
theorem p_out (h : MAt D w bm m ts) (i : Nat) (hi : i < ts.length) (hl : ts[i].T.out.length < 1099511627776) :
    Calls Tryz.prog 14 #[ptr bm, .int .i64 i] w fun e w' => e = .returned (.slice (some ⟨w.heap.size, 0, none⟩) ts[i].T.out.length ts[i].T.out.length) ∧ Below w.heap.size w w' ∧ w.heap.size < w'.heap.size ∧ ∀ j (hj : j < ts[i].T.out.length), w'.cell? ⟨w.heap.size, j, none⟩ = some (.int .i64 ts[i].T.out[j]) := by
  have HS := hid (m_out_yes h i hi hl)
  clear h
  go_enter Tryz.func14, Tryz.ntmps14
  go_wp2_with fail
  refine HS.out.mono ?_
  rintro e w1 ⟨rfl, hr⟩
  have HR := hid hr
  clear hr HS
  go_wp2
  go_ret
  exact ⟨rfl, HR.out⟩
end
end Go.Proofs.YtfhkfnoajbbfdabGreatDoor

namespace Go.Proofs.YtfhkfnoajbbfdabGreatDoor
open Go.RowKit

/-- k steps of thread i. -/
def stepsA (A : List (Th × List Ic)) (m : Nat → Int) (i : Nat) : Nat → List (Th × List Ic) × (Nat → Int)
  | 0 => (A, m)
  | k + 1 => stepA (stepsA A m i k).1 (stepsA A m i k).2 i

section
variable {D : Nat → Prop} {w : World} {bm : Nat} {A : List (Th × List Ic)} {m : Nat → Int} {I : List (Th × List Ic) → (Nat → Int) → Prop}

end
end Go.Proofs.YtfhkfnoajbbfdabGreatDoor

namespace Go.Proofs.YtfhkfnoajbbfdabGreatDoor
open Go.RowKit

section
variable {D : Nat → Prop} {w : World} {bm : Nat} {A : List (Th × List Ic)} {m : Nat → Int} {I : List (Th × List Ic) → (Nat → Int) → Prop}

theorem wrap_neg_bound (c : Int) (h0 : -9223372036854775808 ≤ c) (h1 : c < 0) : 0 ≤ wrap64 (-wrap64 (c + 1)) := by unfold wrap64; omega

end
end Go.Proofs.YtfhkfnoajbbfdabGreatDoor

namespace Go.Proofs.YtfhkfnoajbbfdabGreatDoor
open Go.RowKit

def stOf (A : List (Th × List Ic)) (i : Nat) : Int := ((A[i]?).map (·.1.st)).getD 10

section
variable {D : Nat → Prop} {w : World} {bm : Nat} {A : List (Th × List Ic)} {m : Nat → Int} {I : List (Th × List Ic) → (Nat → Int) → Prop}

end
end Go.Proofs.YtfhkfnoajbbfdabGreatDoor

/- Two threads that store and then load, with something locked between: what steps and flushes keep. Plain. -/
namespace Go.Proofs.YtfhkfnoajbbfdabGreatDoor
open Go.RowKit

def nm (n : Int) : Vl := ⟨false, n⟩
def iStore1 (x : Nat) : Ic := { k := 3, op := 0, d := 0, a := nm x, b := nm 1, c := nm 0, n := 0 }
def iLoad0 (y : Nat) : Ic := { k := 2, op := 0, d := 0, a := nm y, b := nm 0, c := nm 0, n := 0 }
def iOut0 : Ic := { k := 7, op := 0, d := 0, a := ⟨true, 0⟩, b := nm 0, c := nm 0, n := 0 }
def iHalt : Ic := { k := 10, op := 0, d := 0, a := nm 0, b := nm 0, c := nm 0, n := 10 }
def iFence : Ic := { k := 6, op := 0, d := 0, a := nm 0, b := nm 0, c := nm 0, n := 0 }
end Go.Proofs.YtfhkfnoajbbfdabGreatDoor

/- commitskeep.Litmus, out of what Load makes of its four codes. -/
namespace Go.Proofs.YtfhkfnoajbbfdabGreatDoor
open Go.RowKit

def Th.init : Th := ⟨fun _ => 0, 0, [], [], 0⟩

section
variable {D : Nat → Prop} {w : World} {bm : Nat} {A : List (Th × List Ic)} {m : Nat → Int}

theorem MRep.keep {M : Nat → Nat → Prop} {w' : World} (h : MRep D w bm A m) (hc : Chg M w w') (hM : ∀ k, D k → k < w.heap.size → ∀ i, ¬ M k i) : MRep D w' bm A m :=
  let ⟨ts, h1, h2⟩ := h; ⟨ts, h1.keep hc hM, h2⟩
theorem MRep.below {w' : World} (h : MRep D w bm A m) (hc : Below w.heap.size w w') : MRep D w' bm A m := h.keep (M := fun _ _ => False) (Chg.of_below hc) (fun _ _ _ _ h => h)

/-- What a thread has given out, asked of the plain machine. -/
theorem p_outR (h : MRep D w bm A m) (i : Nat) (p : Th × List Ic) (hp : A[i]? = some p) (hl : p.1.out.length < 1099511627776) :
    Calls Tryz.prog 14 #[ptr bm, .int .i64 i] w fun e w' => e = .returned (.slice (some ⟨w.heap.size, 0, none⟩) p.1.out.length p.1.out.length) ∧ Below w.heap.size w w' ∧ w.heap.size < w'.heap.size ∧ ∀ j (hj : j < p.1.out.length), w'.cell? ⟨w.heap.size, j, none⟩ = some (.int .i64 p.1.out[j]) := by
  obtain ⟨ts, h, rfl⟩ := h
  have hi : i < ts.length := by have := (List.getElem?_eq_some_iff.1 hp).1; simpa using this
  have e : (ts[i].T, ts[i].code) = p := by rw [List.getElem?_map, List.getElem?_eq_getElem hi] at hp; simpa using hp
  subst e
  exact p_out h i hi hl
end

/-- The plain code: nothing stands between. -/
def litPlain (x y : Nat) : List Ic := [iStore1 x, iLoad0 y, iOut0, iHalt]
def A0 : List (Th × List Ic) := [(Th.init, litPlain 1 2), (Th.init, litPlain 2 1)]
def T4 (x : Nat) : Th := ⟨fun _ => 0, 4, [((x : Int), 1)], [0], 10⟩

end Go.Proofs.YtfhkfnoajbbfdabGreatDoor

namespace Go.Proofs.YtfhkfnoajbbfdabGreatDoor
open Go.RowKit

section
variable {D : Nat → Prop} {w : World} {bm : Nat} {A : List (Th × List Ic)} {m : Nat → Int}
end

end Go.Proofs.YtfhkfnoajbbfdabGreatDoor

namespace Go.Proofs.YtfhkfnoajbbfdabGreatDoor
open Go.RowKit

set_option maxRecDepth 100000 in
set_option maxHeartbeats 1000000 in
/-- No error is told as none. -/
theorem tell_nil (w : World) :
    Calls Tryz.prog 29 #[.nilIface] w fun e w' => e = .returned (.tuple #[.int .i64 0, .int .i64 0]) ∧ Below w.heap.size w w' := by
  go_enter Tryz.func29, Tryz.ntmps29
  go_wp2
  go_ret2
  exact ⟨rfl, ((Below.refl _ w).alloc (Nat.le_refl _) _).alloc (by simp) _⟩

/-- A new thread's cells. -/
def newCells (bm : Nat) (iv : Value) : Array Value := #[ptr bm, iv, .int .i64 0, .int .i64 0, .int .i64 0, .int .i64 0, .int .i64 0, .int .i64 0, .int .i64 0, .int .i64 0, .int .i64 0, .int .i64 0, .int .i64 0, .int .i64 0, .int .i64 0, .int .i64 0, .int .i64 0, .int .i64 0, .int .i64 0, .int .i64 0, .int .i64 0, .slice none 0 0, .int .i64 0]

set_option maxRecDepth 100000 in
set_option maxHeartbeats 1000000 in
theorem newThread_ok (w : World) (bm : Nat) (a : Option Addr) (k c : Nat) :
    Calls Tryz.prog 39 #[.slice a k c, ptr bm] w fun e w' => e = .returned (ptr w.heap.size) ∧ w' = w.alloc (.cells (newCells bm (.slice a k c)) 120) := by
  go_enter Tryz.func39, Tryz.ntmps39
  go_wp2
  go_ret
  exact ⟨rfl, rfl⟩

theorem newTh_at (w : World) (bm : Nat) (iv : Value) : ThAt (w.alloc (.cells (newCells bm iv) 120)) w.heap.size bm iv (.slice none 0 0) Th.init := by
  have hc : ∀ i v, (newCells bm iv)[i]? = some v → (w.alloc (.cells (newCells bm iv) 120)).cell? ⟨w.heap.size, i, none⟩ = some v := fun i v h => (World.cell?_alloc_new w _ _ i).trans h
  have hf : ∀ i, (w.alloc (.cells (newCells bm iv) 120)).frozen? ⟨w.heap.size, i, none⟩ = false := fun i => by simp
  have hz : ∀ i, 2 ≤ i → i < 21 → (newCells bm iv)[i]? = some (.int .i64 0) := by
    intro i h1 h2
    have : i = 2 ∨ i = 3 ∨ i = 4 ∨ i = 5 ∨ i = 6 ∨ i = 7 ∨ i = 8 ∨ i = 9 ∨ i = 10 ∨ i = 11 ∨ i = 12 ∨ i = 13 ∨ i = 14 ∨ i = 15 ∨ i = 16 ∨ i = 17 ∨ i = 18 ∨ i = 19 ∨ i = 20 := by omega
    rcases this with rfl | rfl | rfl | rfl | rfl | rfl | rfl | rfl | rfl | rfl | rfl | rfl | rfl | rfl | rfl | rfl | rfl | rfl | rfl <;> rfl
  refine ⟨?_, hc _ _ rfl, hc _ _ rfl, fun j hj => hc _ _ (hz _ (by omega) (by omega)), hc _ _ rfl, ?_, hc _ _ rfl, ⟨rfl, .inl ⟨rfl, rfl⟩⟩, hc _ _ rfl, fun j _ => hf j, fun p hp => by cases hp⟩
  · have e : (w.alloc (.cells (newCells bm iv) 120)).heap[w.heap.size]? = some (.cells (newCells bm iv) 120) := by show (w.heap.push _)[w.heap.size]? = _; exact Array.getElem?_push_size
    unfold World.shape?
    rw [e]
    rfl
  · refine ⟨fun _ => 0, fun _ => 0, 0, ⟨by simp, by omega, by decide, fun j hj => hc _ _ (hz _ (by omega) (by omega)), fun j hj => hc _ _ (hz _ (by omega) (by omega)), hc _ _ rfl, hc _ _ rfl, fun j _ => hf _⟩, ?_⟩
    exact fun i h => absurd h (Nat.not_lt_zero i)

end Go.Proofs.YtfhkfnoajbbfdabGreatDoor

/- The rows that have been read so far, and what a line makes of them. -/
namespace Go.Proofs.YtfhkfnoajbbfdabGreatDoor
open Go.RowKit

/-- The threads read so far: rows of one's own within a row of one's own, none below B, no two in one block. -/
structure RowsAt (B : Nat) (w : World) (v : Value) (acc : List (List Ic)) (xs : List Value) : Prop where
  own : w.ownsRow 0 86 1 v acc.length xs
  row : ∀ (i : Nat) (iv : Value), xs[i]? = some iv → ∃ c : List Ic, acc[i]? = some c ∧ w.ownsRow 0 194 1 iv c.length (c.map encIns)
  dis : ∀ (i j : Nat) (iv jv : Value), i ≠ j → xs[i]? = some iv → xs[j]? = some jv → ∀ g, iv.ownBlock = some g → jv.ownBlock ≠ some g
  low : ∀ (g : Nat), v.ownBlock = some g → B ≤ g
  lowr : ∀ (i : Nat) (iv : Value), xs[i]? = some iv → ∀ g, iv.ownBlock = some g → B ≤ g

abbrev rowy (w : World) (k : Nat) : Prop := ∃ t n, w.shape? k = some (t, n) ∧ (t = 86 ∨ t = 194)

theorem RowsAt.keep {B : Nat} {w w' : World} {v : Value} {acc : List (List Ic)} {xs : List Value} {M : Nat → Nat → Prop} (h : RowsAt B w v acc xs) (hc : Chg M w w') (hM : ∀ k i, rowy w k → ¬ M k i) : RowsAt B w' v acc xs := {
  own := ownsRow_chg h.own hc (fun g hg i => by obtain ⟨n, hs⟩ := ownsRow_shape h.own g hg; exact hM g i ⟨_, n, hs, .inl rfl⟩)
  row := fun i iv hi => by
    obtain ⟨c, hc1, hc2⟩ := h.row i iv hi
    exact ⟨c, hc1, ownsRow_chg hc2 hc (fun g hg i => by obtain ⟨n, hs⟩ := ownsRow_shape hc2 g hg; exact hM g i ⟨_, n, hs, .inr rfl⟩)⟩
  dis := h.dis
  low := h.low
  lowr := h.lowr }

theorem RowsAt.len {B : Nat} {w : World} {v : Value} {acc : List (List Ic)} {xs : List Value} (h : RowsAt B w v acc xs) : xs.length = acc.length := by have := h.own.1; omega

/-- A line's words that are an instruction. -/
def ReadsTo (wd : Nat → ByteArray) (ws : List ByteArray) (ic : Ic) : Prop := ∃ u us T p, ws = u :: us ∧ us.length < 1000000 ∧ u ≠ wThread ∧ encIns ic = .iface T p ∧
  ∀ (W : World) (bl : Nat) (n : Int) (bw : Nat), LineAt W bl n bw us → WordsAt W wd → Calls Tryz.prog 87 #[.string u, ptr bl] W fun e w' => e = .returned (.iface T p) ∧ LineAt w' bl n bw [] ∧ Chg (lineM bl) W w'

/-- What a line makes of the threads read so far. -/
def LineTo (wd : Nat → ByteArray) (ws : List ByteArray) (acc acc' : List (List Ic)) : Prop :=
  (ws = [wThread] ∧ acc.length < 3 ∧ acc' = acc ++ [[]]) ∨ ∃ acc0 c ic, acc = acc0 ++ [c] ∧ acc0.length < 3 ∧ c.length < 4000 ∧ acc' = acc0 ++ [c ++ [ic]] ∧ ReadsTo wd ws ic

theorem nilRow (w : World) (t : TypeId) : w.ownsRow 0 t 1 (.slice none 0 0) 0 [] := ⟨rfl, .inl ⟨rfl, rfl⟩⟩

section
variable {B bl bw bt : Nat} {n : Int} {W : World} {v : Value} {acc acc' : List (List Ic)} {xs : List Value} {wd : Nat → ByteArray} {ws : List ByteArray}

/-- What a line may turn. -/
abbrev takeM (W : World) (B bl bt : Nat) : Nat → Nat → Prop := fun q _ => q = bl ∨ q = bt ∨ (B ≤ q ∧ rowy W q)

theorem not_rowy_of {k t n : Nat} {w : World} (h : w.shape? k = some (t, n)) (h1 : t ≠ 86) (h2 : t ≠ 194) : ¬ rowy w k := by
  rintro ⟨t', n', e, h3⟩
  rw [h] at e
  simp at e
  rcases h3 with h3 | h3
  · exact h1 (e.1.trans h3)
  · exact h2 (e.1.trans h3)

theorem rowsAt_head {w' : World} {g cap : Nat} (hB : B ≤ W.heap.size) (hL : LineAt W bl n bw ws) (h : RowsAt B W v acc xs)
    (ho : w'.ownsRow 0 86 1 (.slice (some ⟨g, 0, none⟩) (acc.length + 1) cap) (acc.length + 1) (xs ++ [.slice none 0 0])) (hg : v.ownBlock = some g ∨ W.heap.size ≤ g)
    (hc : Chg (fun q i => lineM bl q i ∨ v.ownBlock = some q) W w') : RowsAt B w' (.slice (some ⟨g, 0, none⟩) (acc.length + 1) cap) (acc ++ [[]]) (xs ++ [.slice none 0 0]) := by
  have hx : ∀ i iv, (xs ++ [.slice none 0 0])[i]? = some iv → xs[i]? = some iv ∨ (i = acc.length ∧ iv = .slice none 0 0) := by
    intro i iv hi
    rw [List.getElem?_append] at hi
    split at hi
    · exact .inl hi
    · rename_i hlt
      right
      have hl := h.len
      obtain ⟨h1, h2⟩ := List.getElem?_eq_some_iff.1 hi
      simp at h1
      have : i - xs.length = 0 := by omega
      simp [this] at hi
      exact ⟨by omega, hi.symm⟩
  refine ⟨by simpa using ho, ?_, ?_, ?_, ?_⟩
  · intro i iv hi
    rcases hx i iv hi with h1 | ⟨rfl, rfl⟩
    · obtain ⟨c, hc1, hc2⟩ := h.row i iv h1
      refine ⟨c, by rw [List.getElem?_append_left (List.getElem?_eq_some_iff.1 hc1).1]; exact hc1, ownsRow_chg hc2 hc ?_⟩
      rintro g' hg' j (e | e)
      · obtain ⟨n', hs⟩ := ownsRow_shape hc2 g' hg'
        rw [e.1, hL.sh] at hs
        simp at hs
      · obtain ⟨n', hs⟩ := ownsRow_shape hc2 g' hg'
        obtain ⟨n2, hs2⟩ := ownsRow_shape h.own g' e
        rw [hs] at hs2
        simp at hs2
    · exact ⟨[], by simp, nilRow _ _⟩
  · intro i j iv jv hij hi hj g' hg'
    rcases hx i iv hi with h1 | ⟨rfl, rfl⟩
    · rcases hx j jv hj with h2 | ⟨rfl, rfl⟩
      · exact h.dis i j iv jv hij h1 h2 g' hg'
      · simp [Value.ownBlock]
    · simp [Value.ownBlock] at hg'
  · intro g' hg'
    simp [Value.ownBlock] at hg'
    subst hg'
    rcases hg with e | e
    · exact h.low _ e
    · omega
  · intro i iv hi g' hg'
    rcases hx i iv hi with h1 | ⟨rfl, rfl⟩
    · exact h.lowr i iv h1 g' hg'
    · simp [Value.ownBlock] at hg'

theorem rowsAt_ins {w' : World} {acc0 : List (List Ic)} {c : List Ic} {ic : Ic} {iv : Value} {g cap b cap2 : Nat} (hB : B ≤ W.heap.size) (hL : LineAt W bl n bw ws) (h : RowsAt B W (.slice (some ⟨g, 0, none⟩) (acc0.length + 1) cap) (acc0 ++ [c]) xs)
    (hx : xs[acc0.length]? = some iv)
    (hi : w'.ownsRow 0 194 1 (.slice (some ⟨b, 0, none⟩) (c.length + 1) cap2) (c.length + 1) (c.map encIns ++ [encIns ic]))
    (ho : w'.ownsRow 0 86 1 (.slice (some ⟨g, 0, none⟩) (acc0.length + 1) cap) (acc0.length + 1) (xs.set acc0.length (.slice (some ⟨b, 0, none⟩) (c.length + 1) cap2))) (hb : iv.ownBlock = some b ∨ W.heap.size ≤ b)
    (hc : Chg (fun q i => lineM bl q i ∨ iv.ownBlock = some q ∨ (q = g ∧ i = acc0.length)) W w') :
    RowsAt B w' (.slice (some ⟨g, 0, none⟩) (acc0.length + 1) cap) (acc0 ++ [c ++ [ic]]) (xs.set acc0.length (.slice (some ⟨b, 0, none⟩) (c.length + 1) cap2)) := by
  have hl := h.len
  simp at hl
  have hx' : ∀ i jv, (xs.set acc0.length (.slice (some ⟨b, 0, none⟩) (c.length + 1) cap2))[i]? = some jv → (i ≠ acc0.length ∧ xs[i]? = some jv) ∨ (i = acc0.length ∧ jv = .slice (some ⟨b, 0, none⟩) (c.length + 1) cap2) := by
    intro i jv hi
    rw [List.getElem?_set] at hi
    split at hi
    · rename_i e
      simp [hl] at hi
      exact .inr ⟨e.symm, hi.symm⟩
    · rename_i e
      exact .inl ⟨fun e' => e e'.symm, hi⟩
  have hbn : ∀ j jv, j ≠ acc0.length → xs[j]? = some jv → jv.ownBlock ≠ some b := by
    intro j jv hj hjx e
    rcases hb with e2 | e2
    · exact h.dis _ _ _ _ hj hjx hx b e e2
    · obtain ⟨c', hc1, hc2⟩ := h.row j jv hjx
      obtain ⟨n', hs⟩ := ownsRow_shape hc2 b e
      have := lt_of_shape hs
      omega
  refine ⟨by simpa using ho, ?_, ?_, h.low, ?_⟩
  · intro i jv hi'
    rcases hx' i jv hi' with ⟨h0, h1⟩ | ⟨rfl, rfl⟩
    · obtain ⟨c', hc1, hc2⟩ := h.row i jv h1
      have hlt : i < acc0.length := by
        have := (List.getElem?_eq_some_iff.1 h1).1
        omega
      rw [List.getElem?_append_left hlt] at hc1
      refine ⟨c', by rw [List.getElem?_append_left hlt]; exact hc1, ownsRow_chg hc2 hc ?_⟩
      rintro g' hg' j (e | e | e)
      · obtain ⟨n', hs⟩ := ownsRow_shape hc2 g' hg'
        rw [e.1, hL.sh] at hs
        simp at hs
      · exact h.dis _ _ _ _ h0 h1 hx g' hg' e
      · obtain ⟨n', hs⟩ := ownsRow_shape hc2 g' hg'
        obtain ⟨n2, hs2⟩ := ownsRow_shape h.own g' (by simp [Value.ownBlock, e.1])
        rw [hs] at hs2
        simp at hs2
    · exact ⟨c ++ [ic], by simp, by simpa using hi⟩
  · intro i j iv' jv hij hi' hj g' hg'
    rcases hx' i iv' hi' with ⟨h0, h1⟩ | ⟨rfl, rfl⟩
    · rcases hx' j jv hj with ⟨h2, h3⟩ | ⟨rfl, rfl⟩
      · exact h.dis i j iv' jv hij h1 h3 g' hg'
      · intro e
        simp [Value.ownBlock] at e
        exact hbn i iv' h0 h1 (e ▸ hg')
    · rcases hx' j jv hj with ⟨h2, h3⟩ | ⟨rfl, rfl⟩
      · simp [Value.ownBlock] at hg'
        exact hg' ▸ hbn j jv h2 h3
      · exact absurd rfl hij
  · intro i jv hi' g' hg'
    rcases hx' i jv hi' with ⟨h0, h1⟩ | ⟨rfl, rfl⟩
    · exact h.lowr i jv h1 g' hg'
    · simp [Value.ownBlock] at hg'
      subst hg'
      rcases hb with e | e
      · exact h.lowr _ _ hx _ e
      · omega

/-- A line taken: the box holds the rows with what it says. -/
theorem take_ok (hB : B ≤ W.heap.size) (hB3 : 3 ≤ B) (hL : LineAt W bl n bw ws) (hbl : B ≤ bl) (hws : W.shape? bw = some (9, ws.length)) (hbt : W.cell? ⟨bt, 0, none⟩ = some v) (hst : W.shape? bt = some (83, 1)) (hft : W.frozen? ⟨bt, 0, none⟩ = false)
    (h : RowsAt B W v acc xs) (hw : WordsAt W wd) (ht : LineTo wd ws acc acc') :
    Calls Tryz.prog 56 #[ptr bl, ptr bt] W fun e W' => e = .returned (.tuple #[]) ∧ ∃ v' xs', W'.cell? ⟨bt, 0, none⟩ = some v' ∧ RowsAt B W' v' acc' xs' ∧ Chg (takeM W B bl bt) W W' := by
  have nbl : ∀ g, v.ownBlock = some g → g ≠ bl ∧ g ≠ bw ∧ g ≠ bt := by
    intro g hg
    obtain ⟨c, hs⟩ := ownsRow_shape h.own g hg
    refine ⟨fun e => ?_, fun e => ?_, fun e => ?_⟩
    · rw [e, hL.sh] at hs; simp at hs
    · rw [e, hws] at hs; simp at hs
    · rw [e, hst] at hs; simp at hs
  have hlt : bt < W.heap.size := lt_of_shape hst
  have nbt : bt ≠ bl := fun e => by rw [e, hL.sh] at hst; simp at hst
  have fin : ∀ (w1 : World) (v1 : Value) (acc1 : List (List Ic)) (xs1 : List Value) (M : Nat → Nat → Prop), RowsAt B w1 v1 acc1 xs1 → w1.cell? ⟨bt, 0, none⟩ = some v → w1.shape? bt = some (83, 1) → Chg M W w1 → (∀ q i, q < W.heap.size → M q i → takeM W B bl bt q i) →
      (w1.setCell ⟨bt, 0, none⟩ v1).cell? ⟨bt, 0, none⟩ = some v1 ∧ RowsAt B (w1.setCell ⟨bt, 0, none⟩ v1) v1 acc1 xs1 ∧ Chg (takeM W B bl bt) W (w1.setCell ⟨bt, 0, none⟩ v1) := by
    intro w1 v1 acc1 xs1 M h1 h2 h2s h3 h4
    have hset : Chg (fun q i => q = bt ∧ i = 0) w1 (w1.setCell ⟨bt, 0, none⟩ v1) := (Chg.refl _ w1).setCell (fun _ => ⟨rfl, rfl⟩) _
    refine ⟨cell_set_eq h2 rfl, h1.keep hset ?_, (h3.mono h4).setCell (fun _ => .inr (.inl rfl)) _⟩
    rintro k i hk ⟨rfl, rfl⟩
    exact not_rowy_of h2s (by decide) (by decide) hk
  rcases ht with ⟨rfl, hl3, rfl⟩ | ⟨acc0, c, ic, rfl, hl3, hcl, rfl, u, us, T, p, rfl, hul, hut, hic, hread⟩
  · obtain ⟨a, cp, rfl⟩ : ∃ a cp, v = .slice a acc.length cp := by
      rcases h.own.2 with ⟨e1, e2⟩ | ⟨g', cap', cur, e1, _⟩
      · exact ⟨none, 0, by rw [e1, e2]⟩
      · exact ⟨_, _, e1⟩
    have k1 := withLine_thread hL hl3 rfl h.own (fun e => (nbl _ e).1 rfl) (fun e => (nbl _ e).2.1 rfl)
    refine (read1_ok (R := fun a1 kk c1 w1 => ∃ g, a1 = some ⟨g, 0, none⟩ ∧ RowsAt B w1 (.slice a1 kk c1) (acc ++ [[]]) (xs ++ [.slice none 0 0]) ∧ w1.shape? bt = some (83, 1) ∧ Chg (fun q i => lineM bl q i ∨ (Value.slice a acc.length cp).ownBlock = some q) W w1) hbt (k1.mono ?_)).mono ?_
    · rintro e w1 ⟨g, cap, rfl, h1, h2, h3, h4⟩
      refine ⟨_, _, _, rfl, ⟨g, rfl, rowsAt_head hB hL h h1 h2 h4, (h4.shape bt hlt).trans hst, h4⟩, (h4.cell bt 0 hlt ?_).trans hbt, (h4.frozen bt 0 hlt).trans hft⟩
      rintro (e | e)
      · exact nbt e.1
      · exact (nbl _ e).2.2 rfl
    · rintro e W' ⟨rfl, a1, kk, c1, w1, ⟨g, rfl, h1, hs, h2⟩, h3, rfl⟩
      refine ⟨rfl, _, _, fin w1 _ _ _ _ h1 h3 hs h2 ?_⟩
      rintro q i hq (e | e)
      · exact .inl e.1
      · obtain ⟨c, hs⟩ := ownsRow_shape h.own q e
        exact .inr (.inr ⟨h.low q e, _, c, hs, .inl rfl⟩)
  · obtain ⟨g, cp, rfl⟩ : ∃ g cp, v = .slice (some ⟨g, 0, none⟩) (acc0.length + 1) cp := by
      rcases h.own.2 with ⟨e1, e2⟩ | ⟨g', cap', cur, e1, _⟩
      · simp at e2
      · exact ⟨g', cap', by simpa using e1⟩
    have hlen := h.len
    simp at hlen
    obtain ⟨iv, hiv⟩ : ∃ iv, xs[acc0.length]? = some iv := ⟨_, List.getElem?_eq_getElem (by omega)⟩
    obtain ⟨c', hc1, hc2⟩ := h.row _ _ hiv
    simp at hc1
    subst hc1
    have nib : ∀ g', iv.ownBlock = some g' → g' ≠ bl ∧ g' ≠ bw ∧ g' ≠ bt := by
      intro g' hg'
      obtain ⟨c', hs⟩ := ownsRow_shape hc2 g' hg'
      refine ⟨fun e => ?_, fun e => ?_, fun e => ?_⟩
      · rw [e, hL.sh] at hs; simp at hs
      · rw [e, hws] at hs; simp at hs
      · rw [e, hst] at hs; simp at hs
    have hown : W.ownsRow 0 86 1 (.slice (some ⟨g, 0, none⟩) (acc0.length + 1) cp) (acc0.length + 1) xs := by simpa using h.own
    have k1 := withLine_ins (T := T) (p := p) hL hul hut hl3 (fun W1 hL1 hC1 => hread W1 bl n bw hL1 (fun j hj => (hC1.cell 2 j (by omega) (fun e => by omega)).trans (hw j hj))) hown (fun e => (nbl g rfl).1 e) (fun e => (nbl g rfl).2.1 e) hiv hc2 hcl (fun e => (nib _ e).1 rfl) (fun e => (nib _ e).2.1 rfl)
    refine (read1_ok (R := fun a1 kk c1 w1 => ∃ xs1, RowsAt B w1 (.slice a1 kk c1) (acc0 ++ [c ++ [ic]]) xs1 ∧ w1.shape? bt = some (83, 1) ∧ Chg (fun q i => lineM bl q i ∨ iv.ownBlock = some q ∨ (q = g ∧ i = acc0.length)) W w1) hbt (k1.mono ?_)).mono ?_
    · rintro e w1 ⟨rfl, b, cap, h1, h2, h3, h4, h5⟩
      rw [← hic] at h1
      refine ⟨_, _, _, rfl, ⟨_, rowsAt_ins hB hL h hiv h1 h2 h3 h5, (h5.shape bt hlt).trans hst, h5⟩, (h5.cell bt 0 hlt ?_).trans hbt, (h5.frozen bt 0 hlt).trans hft⟩
      rintro (e | e | e)
      · exact nbt e.1
      · exact (nib _ e).2.2 rfl
      · exact (nbl g rfl).2.2 e.1.symm
    · rintro e W' ⟨rfl, a1, kk, c1, w1, ⟨xs1, h1, hs, h2⟩, h3, rfl⟩
      refine ⟨rfl, _, _, fin w1 _ _ _ _ h1 h3 hs h2 ?_⟩
      rintro q i hq (e | e | e)
      · exact .inl e.1
      · obtain ⟨c', hs⟩ := ownsRow_shape hc2 q e
        exact .inr (.inr ⟨h.lowr _ _ hiv q e, _, c', hs, .inr rfl⟩)
      · obtain ⟨c', hs⟩ := ownsRow_shape h.own q (by simp [Value.ownBlock, e.1])
        exact .inr (.inr ⟨h.low q (by simp [Value.ownBlock, e.1]), _, c', hs, .inl rfl⟩)
end
end Go.Proofs.YtfhkfnoajbbfdabGreatDoor

/- What a line makes of the threads read so far, whatever it holds. -/
namespace Go.Proofs.YtfhkfnoajbbfdabGreatDoor
open Go.RowKit

/-- What a line makes of the threads read so far; or its fault. -/
def gLine (ws : List ByteArray) (acc : List (List Ic)) : Except Int (List (List Ic)) :=
  match ws with
  | [] => .error 2
  | u :: us =>
    if u = wThread then (match us with
      | [] => if acc.length = 3 then .error 5 else .ok (acc ++ [[]])
      | _ :: _ => .error 2)
    else match gIns u us with
      | none => .error 2
      | some (_, _ :: _) => .error 2
      | some (ic, []) => match acc.getLast? with
        | none => .error 3
        | some c => if c.length = 4000 then .error 5 else .ok (acc.dropLast ++ [c ++ [ic]])

section
variable {B bl bw bt : Nat} {n : Int} {W : World} {v : Value} {acc : List (List Ic)} {xs : List Value} {ws : List ByteArray}

set_option maxRecDepth 100000 in
set_option maxHeartbeats 1000000 in
theorem read1_fail {er : Int} (hc : W.cell? ⟨bt, 0, none⟩ = some v) (hcall : Hid (Calls Tryz.prog 57 #[v, ptr bl] W fun e w' => Fails er n bl W e w')) :
    Calls Tryz.prog 56 #[ptr bl, ptr bt] W fun e w' => Fails er n bl W e w' := by
  go_enter Tryz.func56, Tryz.ntmps56
  go_wp2_with fail
  refine hcall.out.mono ?_
  intro e Wf hf
  obtain ⟨bf, rfl, hf'⟩ := hf.thru (Chg.refl _ W)
  exact ⟨rfl, hf'⟩

set_option maxRecDepth 100000 in
set_option maxHeartbeats 1000000 in
theorem wl_nil {a : Option Addr} {k c : Nat} (h : LineAt W bl n bw []) :
    Calls Tryz.prog 57 #[.slice a k c, ptr bl] W fun e w' => Fails 2 n bl W e w' := by
  have H0 := hid h
  clear h
  go_enter Tryz.func57, Tryz.ntmps57
  go_wp2_with fail
  refine (word_none H0.out).mono ?_
  intro e Wf hf
  obtain ⟨bf, rfl, hf'⟩ := hf.thru (Chg.refl _ W)
  exact ⟨rfl, hf'⟩

/-- An instruction taken: out of readIns's contract in the worlds behind the line's first word. -/
theorem take_ins {acc0 : List (List Ic)} {c : List Ic} {ic : Ic} {u : ByteArray} {us : List ByteArray} (hB : B ≤ W.heap.size) (hL : LineAt W bl n bw (u :: us)) (hws : W.shape? bw = some (9, (u :: us).length)) (hbt : W.cell? ⟨bt, 0, none⟩ = some v) (hst : W.shape? bt = some (83, 1)) (hft : W.frozen? ⟨bt, 0, none⟩ = false)
    (h : RowsAt B W v (acc0 ++ [c]) xs) (hul : us.length < 1000000) (hut : u ≠ wThread) (hl3 : acc0.length < 3) (hcl : c.length < 4000)
    (hread : ∀ W1, LineAt W1 bl n bw us → Chg (lineM bl) W W1 → Calls Tryz.prog 87 #[.string u, ptr bl] W1 fun e w' => e = .returned (.iface (insT ic) (insV ic)) ∧ LineAt w' bl n bw [] ∧ Chg (lineM bl) W1 w') :
    Calls Tryz.prog 56 #[ptr bl, ptr bt] W fun e W' => e = .returned (.tuple #[]) ∧ ∃ v' xs', W'.cell? ⟨bt, 0, none⟩ = some v' ∧ RowsAt B W' v' (acc0 ++ [c ++ [ic]]) xs' ∧ Chg (takeM W B bl bt) W W' := by
  have nbl : ∀ g, v.ownBlock = some g → g ≠ bl ∧ g ≠ bw ∧ g ≠ bt := by
    intro g hg
    obtain ⟨c, hs⟩ := ownsRow_shape h.own g hg
    refine ⟨fun e => ?_, fun e => ?_, fun e => ?_⟩
    · rw [e, hL.sh] at hs; simp at hs
    · rw [e, hws] at hs; simp at hs
    · rw [e, hst] at hs; simp at hs
  have hlt : bt < W.heap.size := lt_of_shape hst
  have nbt : bt ≠ bl := fun e => by rw [e, hL.sh] at hst; simp at hst
  obtain ⟨g, cp, rfl⟩ : ∃ g cp, v = .slice (some ⟨g, 0, none⟩) (acc0.length + 1) cp := by
    rcases h.own.2 with ⟨e1, e2⟩ | ⟨g', cap', cur, e1, _⟩
    · simp at e2
    · exact ⟨g', cap', by simpa using e1⟩
  have hlen := h.len
  simp at hlen
  obtain ⟨iv, hiv⟩ : ∃ iv, xs[acc0.length]? = some iv := ⟨_, List.getElem?_eq_getElem (by omega)⟩
  obtain ⟨c', hc1, hc2⟩ := h.row _ _ hiv
  simp at hc1
  subst hc1
  have nib : ∀ g', iv.ownBlock = some g' → g' ≠ bl ∧ g' ≠ bw ∧ g' ≠ bt := by
    intro g' hg'
    obtain ⟨c', hs⟩ := ownsRow_shape hc2 g' hg'
    refine ⟨fun e => ?_, fun e => ?_, fun e => ?_⟩
    · rw [e, hL.sh] at hs; simp at hs
    · rw [e, hws] at hs; simp at hs
    · rw [e, hst] at hs; simp at hs
  have hown : W.ownsRow 0 86 1 (.slice (some ⟨g, 0, none⟩) (acc0.length + 1) cp) (acc0.length + 1) xs := by simpa using h.own
  have k1 := withLine_ins (T := insT ic) (p := insV ic) hL hul hut hl3 hread hown (fun e => (nbl g rfl).1 e) (fun e => (nbl g rfl).2.1 e) hiv hc2 hcl (fun e => (nib _ e).1 rfl) (fun e => (nib _ e).2.1 rfl)
  refine (read1_ok (R := fun a1 kk c1 w1 => ∃ xs1, RowsAt B w1 (.slice a1 kk c1) (acc0 ++ [c ++ [ic]]) xs1 ∧ w1.shape? bt = some (83, 1) ∧ Chg (fun q i => lineM bl q i ∨ iv.ownBlock = some q ∨ (q = g ∧ i = acc0.length)) W w1) hbt (k1.mono ?_)).mono ?_
  · rintro e w1 ⟨rfl, b, cap, h1, h2, h3, h4, h5⟩
    refine ⟨_, _, _, rfl, ⟨_, rowsAt_ins hB hL h hiv h1 h2 h3 h5, (h5.shape bt hlt).trans hst, h5⟩, (h5.cell bt 0 hlt ?_).trans hbt, (h5.frozen bt 0 hlt).trans hft⟩
    rintro (e | e | e)
    · exact nbt e.1
    · exact (nib _ e).2.2 rfl
    · exact (nbl g rfl).2.2 e.1.symm
  · rintro e W' ⟨rfl, a1, kk, c1, w1, ⟨xs1, h1, hs, h2⟩, h3, rfl⟩
    have hset : Chg (fun q i => q = bt ∧ i = 0) w1 (w1.setCell ⟨bt, 0, none⟩ (.slice a1 kk c1)) := (Chg.refl _ w1).setCell (fun _ => ⟨rfl, rfl⟩) _
    refine ⟨rfl, _, _, cell_set_eq h3 rfl, h1.keep hset ?_, (h2.mono ?_).setCell (fun _ => .inr (.inl rfl)) _⟩
    · rintro k i hk ⟨rfl, rfl⟩
      exact not_rowy_of hs (by decide) (by decide) hk
    · rintro q i hq (e | e | e)
      · exact .inl e.1
      · obtain ⟨c', hs⟩ := ownsRow_shape hc2 q e
        exact .inr (.inr ⟨h.lowr _ _ hiv q e, _, c', hs, .inr rfl⟩)
      · obtain ⟨c', hs⟩ := ownsRow_shape h.own q (by simp [Value.ownBlock, e.1])
        exact .inr (.inr ⟨h.low q (by simp [Value.ownBlock, e.1]), _, c', hs, .inl rfl⟩)

/-- A line taken, whatever it holds. -/
theorem take_tot (hB : B ≤ W.heap.size) (hG : 10 ≤ B) (hL : LineAt W bl n bw ws) (hbl : B ≤ bl) (hws : W.shape? bw = some (9, ws.length)) (hbt : W.cell? ⟨bt, 0, none⟩ = some v) (hst : W.shape? bt = some (83, 1)) (hft : W.frozen? ⟨bt, 0, none⟩ = false)
    (h : RowsAt B W v acc xs) (h3 : acc.length ≤ 3) (h4 : ∀ c ∈ acc, c.length ≤ 4000) (hE : Env W) (hz : SzOk ws) :
    Calls Tryz.prog 56 #[ptr bl, ptr bt] W fun e W' => match gLine ws acc with
      | .ok acc' => e = .returned (.tuple #[]) ∧ ∃ v' xs', W'.cell? ⟨bt, 0, none⟩ = some v' ∧ RowsAt B W' v' acc' xs' ∧ Chg (takeM W B bl bt) W W'
      | .error er => Fails er n bl W e W' := by
  obtain ⟨a, cp, hv⟩ : ∃ a cp, v = .slice a acc.length cp := by
    rcases h.own.2 with ⟨e1, e2⟩ | ⟨g', cap', cur, e1, _⟩
    · exact ⟨none, 0, by rw [e1, e2]⟩
    · exact ⟨_, _, e1⟩
  have hG' : 10 ≤ bl := Nat.le_trans hG hbl
  cases ws with
  | nil => exact read1_fail hbt (hv ▸ wl_nil hL)
  | cons u us =>
    by_cases hu : u = wThread
    · subst hu
      cases us with
      | cons u2 us => simp only [gLine, if_true]; exact read1_fail hbt (hv ▸ wl_head_more hL hz.tail)
      | nil =>
        by_cases hl : acc.length = 3
        · simp only [gLine, if_true, hl]
          rw [hl] at hv
          exact read1_fail hbt (hv ▸ wl_head_full hL)
        · simp only [gLine, if_true, if_neg hl]
          exact take_ok (wd := opWords) hB (by omega) hL hbl hws hbt hst hft h hE.words (.inl ⟨rfl, by omega, rfl⟩)
    · cases hi : gIns u us with
      | none => simp only [gLine, if_neg hu, hi]; exact read1_fail hbt (hv ▸ wl_ins_bad hL hE hG' hz hu hi)
      | some q =>
        obtain ⟨ic, us2⟩ := q
        cases us2 with
        | cons u2 us2 => simp only [gLine, if_neg hu, hi]; exact read1_fail hbt (hv ▸ wl_ins_more hL hE hG' hz hu hi)
        | nil =>
          rcases List.eq_nil_or_concat acc with rfl | ⟨acc0, c, rfl⟩
          · simp only [gLine, if_neg hu, hi, List.getLast?_nil]
            exact read1_fail hbt (hv ▸ wl_ins_place hL hE hG' hz hu hi)
          · simp only [List.concat_eq_append] at h h3 h4 hv ⊢
            have hl0 : acc0.length < 3 := by simp at h3; omega
            by_cases hf : c.length = 4000
            · simp only [gLine, if_neg hu, hi, List.getLast?_concat, hf, if_true]
              obtain ⟨g, cp', rfl⟩ : ∃ g cp', v = .slice (some ⟨g, 0, none⟩) (acc0.length + 1) cp' := by
                rcases h.own.2 with ⟨e1, e2⟩ | ⟨g', cap', cur, e1, _⟩
                · simp at e2
                · exact ⟨g', cap', by simpa using e1⟩
              have hlen := h.len
              simp at hlen
              obtain ⟨iv, hiv⟩ : ∃ iv, xs[acc0.length]? = some iv := ⟨_, List.getElem?_eq_getElem (by omega)⟩
              obtain ⟨c', hc1, hc2⟩ := h.row _ _ hiv
              simp at hc1
              subst hc1
              rw [hf] at hc2
              obtain ⟨ia, icp, rfl⟩ : ∃ ia icp, iv = .slice ia 4000 icp := by
                rcases hc2.2 with ⟨e1, e2⟩ | ⟨g', cap', cur, e1, _⟩
                · simp at e2
                · exact ⟨_, _, e1⟩
              have hown : W.ownsRow 0 86 1 (.slice (some ⟨g, 0, none⟩) (acc0.length + 1) cp') (acc0.length + 1) xs := by simpa using h.own
              obtain ⟨q1, _, q3⟩ := ownsRow_cell hown acc0.length (by omega)
              refine read1_fail hbt (wl_ins_full hL hE hG' hz hu hi hl0 (fun e => ?_) q3 (q1.trans hiv))
              obtain ⟨nn, hs⟩ := ownsRow_shape hown g rfl
              rw [e, hL.sh] at hs
              simp at hs
            · simp only [gLine, if_neg hu, hi, List.getLast?_concat, if_neg hf, List.dropLast_concat]
              have hc4 := h4 c (by simp)
              exact take_ins hB hL hws hbt hst hft h hz.len hu hl0 (by omega) (fun W1 hL1 hC1 => ri_ok hL1 (hE.line hC1 hG') hG' hz.tail hi rfl)
end
end Go.Proofs.YtfhkfnoajbbfdabGreatDoor

/- text.Read on a text without fault. -/
namespace Go.Proofs.YtfhkfnoajbbfdabGreatDoor
open Go.RowKit

/-- A line's words. -/
def wordsOf (l : List UInt8) : List ByteArray := Lib.splitB ⟨#[32]⟩ 0 (Lib.countB ⟨l.toArray⟩ ⟨#[32]⟩) ⟨l.toArray⟩

theorem wordsOf_len (l : List UInt8) : (wordsOf l).length = Lib.countB ⟨l.toArray⟩ ⟨#[32]⟩ + 1 := Lib.splitB_all ⟨#[32]⟩ (by decide) 0 _ _ rfl

theorem cut_lt {r l r' : List UInt8} {sep : UInt8} (h : Lib.cut r [sep] = (l, r', true)) (h0 : r ≠ []) : r'.length < r.length ∧ l.length ≤ r.length := by
  unfold Lib.cut at h
  have hl : 0 < r.length := List.length_pos_iff.2 h0
  split at h
  · simp only [Prod.mk.injEq, and_true] at h
    obtain ⟨rfl, rfl⟩ := h
    constructor
    · simp only [List.length_drop, List.length_cons, List.length_nil]; omega
    · simp only [List.length_take]; omega
  · simp at h

theorem below_drewN (B : Nat) (w : World) (n : Nat) : Below B w (w.drewN n) := ⟨rfl, rfl, rfl, Nat.le_refl _, fun _ _ => rfl⟩

theorem lineAt_new {w : World} {l : List UInt8} {n : Int} :
    LineAt ((w.alloc (.cells ((wordsOf l).map Value.string).toArray 9)).alloc (.cells #[.int .i64 n, .slice (some ⟨w.heap.size, 0, none⟩) (wordsOf l).length (wordsOf l).length] 202)) (w.heap.size + 1) n w.heap.size (wordsOf l) := by
  have hs : (w.alloc (.cells ((wordsOf l).map Value.string).toArray 9)).heap.size = w.heap.size + 1 := by simp
  refine ⟨?_, ?_, ⟨0, (wordsOf l).length, Nat.le_refl _, ?_, ?_⟩, ?_, by omega, by simp; omega⟩
  · have e : ((w.alloc (.cells ((wordsOf l).map Value.string).toArray 9)).alloc (.cells #[.int .i64 n, .slice (some ⟨w.heap.size, 0, none⟩) (wordsOf l).length (wordsOf l).length] 202)).heap[w.heap.size + 1]? = some (.cells #[.int .i64 n, .slice (some ⟨w.heap.size, 0, none⟩) (wordsOf l).length (wordsOf l).length] 202) := by
      rw [← hs]; show (Array.push _ _)[_]? = _; exact Array.getElem?_push_size
    unfold World.shape?
    rw [e]
    rfl
  · rw [← hs]; exact (World.cell?_alloc_new _ _ _ 0).trans rfl
  · rw [← hs]; exact (World.cell?_alloc_new _ _ _ 1).trans rfl
  · intro j hj
    rw [World.cell?_alloc_past _ _ _ (by simp), World.cell?_alloc_new]
    simp [hj]
  · rw [← hs]; simp

set_option maxRecDepth 100000 in
set_option maxHeartbeats 1000000 in
theorem read1x_idle (p : Addr) (w : World) :
    CallsD Tryz.prog 81 #[.pointer (some p)] .returning w fun e u' w' => e = .returned (.tuple #[]) ∧ u' = .returning ∧ w' = w := by
  refine callsD_of_wpS Tryz.func81 rfl fun c₀ cs hu => ?_
  apply wpS_seq
  apply wpS_region
  simp [wpOpsS, go_sem, recoverD, hu, Tryz.ntmps81, Exit.thenS]
  apply wpS_of_wp
  go_wp2
  cases c₀
  simp_all [bodyPostS, results, Tryz.results81]

def strSize : Value → Nat | .string b => b.size | _ => 0

end Go.Proofs.YtfhkfnoajbbfdabGreatDoor
