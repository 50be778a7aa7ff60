import Derived.Test.YtfhkfnoajbbfdaaGreatDoorPart30
import Derived.Test.YtfhkfnoajbbfdaaGreatDoorPart29
/- What the readers ask of the package-level variables, out of a row's first world. -/
namespace Go.Proofs.YtfhkfnoajbbfdaaGreatDoor
open Go.ChangeShapes Go.WideShapes Go.ChangeAt Go.WideMaps Go.WideElems Go.RowKit

theorem gEs : Tryz.prog.globalNamed "strconv.ErrSyntax" = some 6 := by kernel_rfl
theorem gEr : Tryz.prog.globalNamed "strconv.ErrRange" = some 7 := by kernel_rfl
theorem gEt : Tryz.prog.globalNamed "errors.errorType" = some 0 := by kernel_rfl
theorem tEs : (Tryz.prog.globals[6]?).map (·.type) = some 96 := by kernel_rfl
theorem tEr : (Tryz.prog.globals[7]?).map (·.type) = some 96 := by kernel_rfl
theorem rtRow : (Tryz.prog.cutTypes.find? (·.1 == "internal/reflectlite.rtype")).map (·.2) = some 262 := by kernel_rfl
theorem oneRow : ((List.range 484).filter fun t => Tryz.prog.rowNamed t [101, 114, 114, 111, 114]) = [96] := by kernel_rfl
theorem typesSize : Tryz.prog.types.size = 484 := by kernel_rfl

theorem trod_ifc {H : Type} {enc : TypeId × Value → H} {P : Program} {w : World} {base fuel : Nat} {sp : Nat → Bool} {held : Bool} {t : TypeId} {cs : List Value} {x : DataW H × List MemPlace} {ms : Array (String × TypeId)} (ht : P.underlying t = some (.interface ms)) (h : DataW.trod enc P w base sp held fuel t cs = some x) :
    cs = [.nilIface] ∨ ∃ te pe, cs = [.iface te pe] := by
  cases fuel with
  | zero => simp [DataW.trod] at h
  | succ n =>
    unfold DataW.trod at h
    rw [ht] at h
    match cs, h with
    | [], h => simp at h
    | [v], h =>
      cases v with
      | nilIface => exact .inl rfl
      | iface te pe => exact .inr ⟨te, pe, rfl⟩
      | _ => simp at h
    | _ :: _ :: _, h => simp at h

/-- A listed variable of an interface's type holds an interface's value. -/
theorem ifc_of {W : World} {n : String} {d : DataW Unit} {g : Nat} (hg : Tryz.prog.globalNamed n = some g) (ht : (Tryz.prog.globals[g]?).map (·.type) = some 96) (h : laidMet Tryz.prog [(n, d)] W) : ∃ ev, W.cell? ⟨g, 0, none⟩ = some ev ∧ (ev = .nilIface ∨ ∃ te pe, ev = .iface te pe) := by
  obtain ⟨ps, ⟨g0, t0, cs0, f0, p0, q0, hg0, ht0, hv0, hd0, _, _⟩, _, _⟩ := h
  obtain rfl := Option.some.inj (hg.symm.trans hg0)
  obtain rfl := Option.some.inj (ht.symm.trans ht0)
  have hc := World.var?_cell hg0 hv0 0
  rcases trod_ifc Tryz.underlying96 hd0 with e | ⟨te, pe, e⟩
  · rw [Array.eq_one_of_toList e] at hc
    exact ⟨_, by simpa using hc, .inl rfl⟩
  · rw [Array.eq_one_of_toList e] at hc
    exact ⟨_, by simpa using hc, .inr ⟨te, pe, rfl⟩⟩

theorem handle_of {W : World} {l : List (String × DataW Unit)} (hf : l.filter (fun x => x.1 == "errors.errorType") = [("errors.errorType", Rows.laid_errors_errorType)]) (h : laidMetH Tryz.prog l W) : W.cell? ⟨0, 0, none⟩ = some (.iface 262 (.agg #[.pointer (some ⟨10, 96, none⟩)])) := by
  have h1 := h.filter (fun x => x.1 == "errors.errorType")
  rw [hf] at h1
  have h' : laidMet Tryz.prog [] W ∧ handlesMet Tryz.prog [("errors.errorType", Rows.laid_errors_errorType)] W := h1
  obtain ⟨name, u, ty, e1, e2, e3, e4, e5⟩ := h'.2 _ (List.mem_singleton.2 rfl)
  have en : name = [101, 114, 114, 111, 114] := (Option.some.inj e1).symm
  subst en
  obtain rfl := Option.some.inj (rtRow.symm.trans e2)
  have hm : ty ∈ (List.range 484).filter fun t => Tryz.prog.rowNamed t [101, 114, 114, 111, 114] := List.mem_filter.2 ⟨List.mem_range.2 (by rw [← typesSize]; exact e3), e4⟩
  rw [oneRow] at hm
  obtain rfl := List.mem_singleton.1 hm
  have hh : typeHandle Tryz.prog 96 = .pointer (some ⟨10, 96, none⟩) := by kernel_rfl
  rw [hh] at e5
  simpa using World.var?_cell gEt e5 0

theorem env_of {W : World} {l : List (String × DataW Unit)} (hS : W.ShapedOpen Tryz.prog) (hL : laidMetH Tryz.prog l W)
    (f1 : l.filter (fun x => x.1 == "commits/ops.words") = [("commits/ops.words", Rows.laid_commits_ops_words)]) (f2 : l.filter (fun x => x.1 == "errors.errorType") = [("errors.errorType", Rows.laid_errors_errorType)])
    (f3 : l.filter (fun x => x.1 == "strconv.ErrSyntax") = [("strconv.ErrSyntax", Rows.laid_strconv_ErrSyntax)]) (f4 : l.filter (fun x => x.1 == "strconv.ErrRange") = [("strconv.ErrRange", Rows.laid_strconv_ErrRange)]) : Env W := by
  have h3 := hL.filter (fun x => x.1 == "strconv.ErrSyntax")
  rw [f3, MakeChecks.laidMetH_plain _ _ _ (by kernel_rfl)] at h3
  have h4 := hL.filter (fun x => x.1 == "strconv.ErrRange")
  rw [f4, MakeChecks.laidMetH_plain _ _ _ (by kernel_rfl)] at h4
  have hlast : 9 < W.heap.size := by
    have hsome : (((begin Tryz.prog (fun _ _ => 0) default).world.heap[9]?).bind Obj.row?).isSome = true := by kernel_rfl
    obtain ⟨⟨zero, t⟩, h0⟩ := Option.isSome_iff_exists.1 hsome
    obtain ⟨cs, hh, _⟩ := hS.1 9 zero t (of_decide_eq_true (by kernel_rfl)) h0
    exact (Array.getElem?_eq_some_iff.1 hh).1
  exact ⟨by omega, maxLen_of hS, laid_words f1 hL, ifc_of gEs tEs h3, ifc_of gEr tEr h4, handle_of f2 hL⟩
end Go.Proofs.YtfhkfnoajbbfdaaGreatDoor
