import Derived.Test.YtjdcnmkmobmnlaaGreatDoorPart30
import Derived.Test.YtjdcnmkmobmnlaaGreatDoorPart29
import Derived.ShutString
import Derived.ChangeOld
import Derived.ChangeMaps5
import Derived.Below
import Derived.SizedLaws
/- What the readers ask of the package-level variables, out of a row's first world. -/
namespace Go.Proofs.YtjdcnmkmobmnlaaGreatDoor
open Go.ChangeShapes Go.WideShapes Go.ChangeAt Go.WideMaps Go.WideElems Go.RowKit

theorem gEs : Tryz.prog.globalNamed "strconv.ErrSyntax" = some 6 := by kernel_rfl
theorem gEr : Tryz.prog.globalNamed "strconv.ErrRange" = some 7 := by kernel_rfl
theorem gEt : Tryz.prog.globalNamed "errors.errorType" = some 0 := by kernel_rfl
theorem tEs : (Tryz.prog.globals[6]?).map (·.type) = some 96 := by kernel_rfl
theorem tEr : (Tryz.prog.globals[7]?).map (·.type) = some 96 := by kernel_rfl
theorem rtRow : (Tryz.prog.cutTypes.find? (·.1 == "internal/reflectlite.rtype")).map (·.2) = some 262 := by kernel_rfl
theorem oneRow : ((List.range 478).filter fun t => Tryz.prog.rowNamed t [101, 114, 114, 111, 114]) = [96] := by kernel_rfl
theorem typesSize : Tryz.prog.types.size = 478 := by kernel_rfl

theorem trod_ifc {H : Type} {enc : TypeId × Value → H} {P : Program} {w : World} {base fuel : Nat} {sp : Nat → Bool} {held : Bool} {t : TypeId} {cs : List Value} {x : DataW H × List MemPlace} {ms : Array (String × TypeId)} (ht : P.underlying t = some (.interface ms)) (h : DataW.trod enc P w base sp held fuel t cs = some x) :
    cs = [.nilIface] ∨ ∃ te pe, cs = [.iface te pe] := by
  cases fuel with
  | zero => simp [DataW.trod] at h
  | succ n =>
    unfold DataW.trod at h
    rw [ht] at h
    match cs, h with
    | [], h => simp at h
    | [v], h =>
      cases v with
      | nilIface => exact .inl rfl
      | iface te pe => exact .inr ⟨te, pe, rfl⟩
      | _ => simp at h
    | _ :: _ :: _, h => simp at h

/-- A listed variable of an interface's type holds an interface's value. -/
theorem ifc_of {W : World} {n : String} {d : DataW Unit} {g : Nat} (hg : Tryz.prog.globalNamed n = some g) (ht : (Tryz.prog.globals[g]?).map (·.type) = some 96) (h : laidMet Tryz.prog [(n, d)] W) : ∃ ev, W.cell? ⟨g, 0, none⟩ = some ev ∧ (ev = .nilIface ∨ ∃ te pe, ev = .iface te pe) := by
  obtain ⟨ps, ⟨g0, t0, cs0, f0, p0, q0, hg0, ht0, hv0, hd0, _, _⟩, _, _⟩ := h
  obtain rfl := Option.some.inj (hg.symm.trans hg0)
  obtain rfl := Option.some.inj (ht.symm.trans ht0)
  have hc := World.var?_cell hg0 hv0 0
  rcases trod_ifc Tryz.underlying96 hd0 with e | ⟨te, pe, e⟩
  · rw [Array.eq_one_of_toList e] at hc
    exact ⟨_, by simpa using hc, .inl rfl⟩
  · rw [Array.eq_one_of_toList e] at hc
    exact ⟨_, by simpa using hc, .inr ⟨te, pe, rfl⟩⟩

theorem handle_of {W : World} {l : List (String × DataW Unit)} (hf : l.filter (fun x => x.1 == "errors.errorType") = [("errors.errorType", Rows.laid_errors_errorType)]) (h : laidMetH Tryz.prog l W) : W.cell? ⟨0, 0, none⟩ = some (.iface 262 (.agg #[.pointer (some ⟨10, 96, none⟩)])) := by
  have h1 := h.filter (fun x => x.1 == "errors.errorType")
  rw [hf] at h1
  have h' : laidMet Tryz.prog [] W ∧ handlesMet Tryz.prog [("errors.errorType", Rows.laid_errors_errorType)] W := h1
  obtain ⟨name, u, ty, e1, e2, e3, e4, e5⟩ := h'.2 _ (List.mem_singleton.2 rfl)
  have en : name = [101, 114, 114, 111, 114] := (Option.some.inj e1).symm
  subst en
  obtain rfl := Option.some.inj (rtRow.symm.trans e2)
  have hm : ty ∈ (List.range 478).filter fun t => Tryz.prog.rowNamed t [101, 114, 114, 111, 114] := List.mem_filter.2 ⟨List.mem_range.2 (by rw [← typesSize]; exact e3), e4⟩
  rw [oneRow] at hm
  obtain rfl := List.mem_singleton.1 hm
  have hh : typeHandle Tryz.prog 96 = .pointer (some ⟨10, 96, none⟩) := by kernel_rfl
  rw [hh] at e5
  simpa using World.var?_cell gEt e5 0

theorem env_of {W : World} {l : List (String × DataW Unit)} (hS : W.ShapedOpen Tryz.prog) (hL : laidMetH Tryz.prog l W)
    (f1 : l.filter (fun x => x.1 == "commits/ops.words") = [("commits/ops.words", Rows.laid_commits_ops_words)]) (f2 : l.filter (fun x => x.1 == "errors.errorType") = [("errors.errorType", Rows.laid_errors_errorType)])
    (f3 : l.filter (fun x => x.1 == "strconv.ErrSyntax") = [("strconv.ErrSyntax", Rows.laid_strconv_ErrSyntax)]) (f4 : l.filter (fun x => x.1 == "strconv.ErrRange") = [("strconv.ErrRange", Rows.laid_strconv_ErrRange)]) : Env W := by
  have h3 := hL.filter (fun x => x.1 == "strconv.ErrSyntax")
  rw [f3, MakeChecks.laidMetH_plain _ _ _ (by kernel_rfl)] at h3
  have h4 := hL.filter (fun x => x.1 == "strconv.ErrRange")
  rw [f4, MakeChecks.laidMetH_plain _ _ _ (by kernel_rfl)] at h4
  have hlast : 9 < W.heap.size := by
    have hsome : (((begin Tryz.prog (fun _ _ => 0) default).world.heap[9]?).bind Obj.row?).isSome = true := by kernel_rfl
    obtain ⟨⟨zero, t⟩, h0⟩ := Option.isSome_iff_exists.1 hsome
    obtain ⟨cs, hh, _⟩ := hS.1 9 zero t (of_decide_eq_true (by kernel_rfl)) h0
    exact (Array.getElem?_eq_some_iff.1 hh).1
  exact ⟨by omega, maxLen_of hS, laid_words f1 hL, ifc_of gEs tEs h3, ifc_of gEr tEr h4, handle_of f2 hL⟩
end Go.Proofs.YtjdcnmkmobmnlaaGreatDoor

/- Twice: the row's frame. -/
namespace Go.Proofs.YtjdcnmkmobmnlaaGreatDoor
open Go.ChangeShapes Go.WideShapes Go.ChangeAt Go.WideMaps Go.WideElems Go.RowKit
open Go.ChangeMaps (open_string shut_string)

/-- A slice of ints that came in. -/
def IsRowT (w : World) (a : Option Addr) (len cap : Nat) (zs : List Int) : Prop :=
  (a = none ∧ len = 0 ∧ cap = 0 ∧ zs = []) ∨
  ∃ x, a = some x ∧ len ≤ cap ∧ cap ≤ maxLen ∧ zs.length = cap ∧ (∀ i, i < zs.length → w.cell? (x.add i) = some (.int .i64 (zs.getD i 0))) ∧ ∀ n ∈ zs, (Lit.int .i64 n).wf = true

theorem wf_lowT {n : Int} (h : (Lit.int .i64 n).wf = true) : -9223372036854775808 ≤ n := by
  have hmin : IntKind.i64.min = -9223372036854775808 := rfl
  simp only [Lit.wf, Bool.and_eq_true, decide_eq_true_eq] at h
  omega

theorem twice_walk (s : ByteArray) (pa : Option Addr) (len cap : Nat) (zs : List Int) (w : World) (hs : s.size ≤ 140737488351232) (hlen : len ≤ 140737488351232) (h0 : IsRowT w pa len cap zs) (hE : Env w) :
    Calls Tryz.prog 6 #[.string s, .slice pa len cap] w fun e w' => e = .returned (.bool true) ∧ Below w.heap.size w w' := by
  by_cases hl : 4096 < s.size + len
  · exact (twice_long w s pa len cap hl (by omega) (by omega)).mono fun e w' h => ⟨h.1, h.2 ▸ Below.refl _ _⟩
  · cases hR : gCode s with
    | error q =>
      obtain ⟨er, ln⟩ := q
      exact twice_err w s pa len cap (by omega) hE hR
    | ok cs =>
      refine twice_main w s pa len cap zs (by omega) hE hR ?_ ?_
      · rcases h0 with ⟨_, rfl, _⟩ | ⟨x, _, h2, _⟩
        · exact Nat.zero_le _
        · exact h2
      · intro hpos
        rcases h0 with ⟨_, rfl, _⟩ | ⟨x, rfl, h2, _, h4, h5, h6⟩
        · exact absurd hpos (Nat.lt_irrefl _)
        · refine ⟨x, rfl, by omega, fun j hj => ?_, fun z hz => wf_lowT (h6 z hz)⟩
          rw [h5 j hj, List.getD_eq_getElem?_getD, List.getElem?_eq_getElem hj]
          rfl

set_option maxRecDepth 100000 in
theorem door_metT (os : Os) (args : Array Value) : laidMetH Tryz.prog Rows.twiceRow.laid ((((World.doorLaid Tryz.prog 200 os).layVars Tryz.prog [("unicode/utf8.first", Rows.laid_unicode_utf8_first)]).forCall (fun _ _ => 0) ⟨#[], args, []⟩).memory) :=
  laidMetH_of_parts3 (fuel := 8) (laidMet_of_run' 8 (by kernel_rfl) (by kernel_rfl)) (by kernel_rfl) (by kernel_rfl)

set_option maxRecDepth 100000 in
theorem twice_lifted (os : Os) (started : os.Started) (H : Type) (enc : TypeId × Value → H) :
    ReturnsInHanded {} Tryz.checked os 6 .any (fun w args => (Rows.twiceSpec.pre enc Tryz.prog Tryz.f6 Rows.twiceRow.domain false w args ∧ laidMetH Tryz.prog Rows.twiceRow.laid w) ∧ sizedMet enc Tryz.prog Tryz.f6 (OpenSpec.ofChange Rows.twiceSpec) false w args)
      (Rows.twiceSpec.post enc Tryz.prog Tryz.f6 false true false false) := by
  refine returns_shaped (C := Tryz.checked) (X := fun w _ => laidMetH Tryz.prog Rows.twiceRow.laid w) (fun _ _ _ hh h => h.of_heap hh) own started (by kernel_rfl) Tryz.func6
    (ChangeSpec.witness_shaped (enc := enc) (C := Tryz.checked) (os := os) (X := fun w _ => laidMetH Tryz.prog Rows.twiceRow.laid w) false ((World.doorLaid Tryz.prog 200 os).layVars Tryz.prog [("unicode/utf8.first", Rows.laid_unicode_utf8_first)]) #[.string ByteArray.empty, .slice none 0 0] 8 rfl (World.shaped_of_RefB (by kernel_rfl) (by kernel_rfl)) (by kernel_rfl) (by kernel_rfl) (by kernel_rfl) (door_metT os _)) ?_
  intro W base args ds gs before hval0 hW hsz0 hL hS
  have hval : ∀ (j : Nat) t v, Tryz.f6.params[j]? = some t → args[j]? = some v → Value.okWide Tryz.prog W .any base t v := hval0
  have hW' := hW
  obtain ⟨p, q, hA0, hV, rfl, hfz, hnd⟩ := hW
  have hA : DataW.TrodAll enc Tryz.prog W 0 (fun _ => true) true Tryz.f6.params.toList args.toList ds p := hA0
  rw [Tryz.params6] at hA hval
  obtain ⟨v0, vs0, d0, ds0, p0, q0, hargs, rfl, rfl, h0, r0⟩ := trodAll_cons hA
  obtain ⟨v1, vs1, d1, ds1, p1, q1, rfl, rfl, rfl, h1, r1⟩ := trodAll_cons r0
  obtain ⟨rfl, rfl, rfl⟩ := trodAll_nil r1
  obtain rfl : args = #[v0, v1] := by cases args; simp_all
  obtain ⟨rfl, rfl⟩ := trodVars_none hV
  obtain ⟨s0, rfl, rfl, rfl, hs0⟩ := open_string Tryz.underlying9 (hval 0 9 v0 rfl rfl) h0
  obtain ⟨a0, len0, cap0, rfl⟩ := okWide_slice Tryz.underlying29 (hval 1 29 v1 rfl rfl)
  have k1 := h1
  have lt1 : ∀ x ∈ p1, x.block < W.heap.size := by obtain ⟨m, hm⟩ := k1; exact DataW.trod_lt m _ _ _ hm
  have hp : Tryz.f6.params.toList = [9, 29] := by rw [Tryz.params6]
  have hsz : (DataW.weightsEach Tryz.prog (Tryz.f6.params.toList ++ Rows.twiceSpec.plain.varTypes Tryz.prog) ([.lit (.string s0.data.toList), d1] ++ [])).all (· ≤ reachBytes) = true := hsz0
  rw [hp] at hsz
  have hs1 : s0.size ≤ 140737488351232 := by
    have := sized_string hsz (j := 0) (t := 9) (bytes := s0.data.toList) rfl rfl
    rw [Array.length_toList] at this
    exact this
  obtain ⟨z0, w0, hl0⟩ : ∃ zs, IsRowT W a0 len0 cap0 zs ∧ len0 ≤ 140737488351232 := by
    obtain ⟨fuel, hf⟩ := h1
    rcases open_ints Tryz.underlying29 Tryz.underlying3 (by kernel_rfl) hf with ⟨hcs, _⟩ | ⟨x, l, c, zs, hcs, _, hl, hm, hz, hx, hcell, hwz⟩
    · simp [Value.cells] at hcs
      obtain ⟨rfl, rfl, rfl⟩ := hcs
      exact ⟨[], .inl ⟨rfl, rfl, rfl, rfl⟩, by omega⟩
    · simp [Value.cells] at hcs
      obtain ⟨rfl, rfl, rfl⟩ := hcs
      simp only [Prod.mk.injEq] at hx
      have hz' : zs.length = cap0 := by simpa using hz
      refine ⟨zs, .inr ⟨_, rfl, hl, hm, hz', hcell, hwz⟩, ?_⟩
      have := sized_slice hsz (j := 1) (t := 29) (e := 3) rfl (by show some d1 = _; rw [hx.1]) Tryz.underlying29
      rw [show Tryz.prog.bytesOf 3 = 8 from by kernel_rfl] at this
      simp only [lits, List.length_map, List.length_take, List.length_drop, reachBytes] at this
      omega
  clear hA0 hval0
  refine (twice_walk s0 a0 len0 cap0 z0 W hs1 hl0 w0 (env_of hS hL (by kernel_rfl) (by kernel_rfl) (by kernel_rfl) (by kernel_rfl))).mono fun e W' ⟨he, bel⟩ => ?_
  subst he
  exact ⟨_, rfl, _, _, _, [], _, [], hW', trodAll_mk1 (shut_bool Tryz.underlying4 _), (trodAll_cons_mk (shut_string Tryz.underlying9 hs0) (trodAll_cons_mk (Below.trod laidOut (by kernel_rfl) (of_decide_eq_true (by kernel_rfl)) k1 bel lt1) trodAll_mk0)), rfl, bel.frame _, fun h => by cases h⟩

end Go.Proofs.YtjdcnmkmobmnlaaGreatDoor
