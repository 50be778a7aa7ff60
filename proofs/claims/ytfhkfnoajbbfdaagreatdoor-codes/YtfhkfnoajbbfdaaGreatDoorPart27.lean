import Derived.Test.YtfhkfnoajbbfdaaGreatDoorRows
import Derived.Test.YtfhkfnoajbbfdaaGreatDoorPart02
import Derived.ProofKit
import Derived.LaidMore
import Derived.LaidSub
import Derived.OpenShut
import Derived.Lay
import Derived.Handed
import Derived.Stop.Joined
import Derived.Shelf.Vars
import Derived.Test.YtfhkfnoajbbfdaaGreatDoorPart25
/- What a row's first world gives: the words of the operations, the search's bound. -/
namespace Go.Proofs.YtfhkfnoajbbfdaaGreatDoor
open Go.ChangeShapes Go.WideShapes Go.ChangeAt Go.WideMaps Go.WideElems Go.RowKit

theorem own : ownKnob Tryz.prog.godebug = none := by kernel_rfl
theorem laidOut : laidOutB Tryz.prog = true := by kernel_rfl
theorem gWords : Tryz.prog.globalNamed "commits/ops.words" = some 2 := by kernel_rfl
theorem tWords : (Tryz.prog.globals[2]?).map (·.type) = some 375 := by kernel_rfl

theorem maxLen_of {W : World} (h : W.ShapedOpen Tryz.prog) : ∃ m, W.cell? ⟨1, 0, none⟩ = some (.int .i64 m) :=
  cell_of_shapedOpen_int (zero := #[.int .i64 0]) (t := 3) h (of_decide_eq_true (by kernel_rfl)) (by kernel_rfl) rfl (by kernel_rfl) (by kernel_rfl) Tryz.underlying3

theorem words_of {W : World} (h : laidMet Tryz.prog [("commits/ops.words", Rows.laid_commits_ops_words)] W) : WordsAt W opWords := by
  obtain ⟨ps, ⟨g0, t0, cs0, f0, p0, q0, hg0, ht0, hv0, hd0, _, _⟩, _, _⟩ := h
  obtain rfl := Option.some.inj (gWords.symm.trans hg0)
  obtain rfl := Option.some.inj (tWords.symm.trans ht0)
  obtain ⟨xs, m1, rfl, hx1, hlen, hn3, hel⟩ := DataW.trod_array Tryz.underlying375 hd0
  simp only [Prod.mk.injEq] at hx1
  have hD : (DataW.agg (xs.map (·.1)) : DataW Unit) = DataW.agg ((List.range 12).map fun j => .lit (.string (opWords j).data.toList)) := hx1.1.symm.trans (by kernel_rfl)
  have hD' : xs.map (·.1) = (List.range 12).map fun j => DataW.lit (.string (opWords j).data.toList) := by injection hD
  have c9 : Tryz.prog.cellsOf 9 = 1 := by kernel_rfl
  intro j hj
  have h0 := hel j hj
  rw [c9] at h0
  obtain ⟨x, hx⟩ : ∃ x, xs[j]? = some x := ⟨_, List.getElem?_eq_getElem (by omega)⟩
  rw [hx] at h0
  obtain ⟨s, e1, e2, _⟩ := DataW.trod_string Tryz.underlying9 h0
  have e3 : (xs.map (·.1))[j]? = some x.1 := by simp [hx]
  rw [hD', e2] at e3
  simp [hj] at e3
  have e4 : opWords j = s := Go.WideShapes.bytes_inj (by simpa using e3)
  have e5 : (List.take 1 (List.drop (j * 1) cs0.toList))[0]? = some (.string s) := by rw [e1]; rfl
  simp at e5
  rw [e4]
  exact (World.var?_cell hg0 hv0 j).trans e5

theorem laid_words {W : World} {l : List (String × DataW Unit)} (hf : l.filter (fun x => x.1 == "commits/ops.words") = [("commits/ops.words", Rows.laid_commits_ops_words)]) (h : laidMetH Tryz.prog l W) : WordsAt W opWords := by
  have h1 := h.filter (fun x => x.1 == "commits/ops.words")
  rw [hf, MakeChecks.laidMetH_plain _ _ _ (by kernel_rfl)] at h1
  exact words_of h1

theorem three_le {W : World} {m : Int} (h1 : W.cell? ⟨1, 0, none⟩ = some (.int .i64 m)) (h2 : WordsAt W opWords) : 3 ≤ W.heap.size := by
  have a1 : 1 < W.heap.size := World.block_lt_of_cell? _ _ h1
  have a2 : 2 < W.heap.size := World.block_lt_of_cell? _ _ (h2 0 (by omega))
  omega

/-- A row's frame, its contract told besides that the world is well formed. -/
theorem returns_shaped {H : Type} {enc : TypeId × Value → H} {a : Assume} {C : Checked} {os : Os} {f : FuncId} {fn : Func} {s : ChangeSpec} {conds : List PathCond} {apart fresh handsOn again : Bool} {X : World → Array Value → Prop}
    (hX : ∀ (w w' : World) (args : Array Value), w.heap = w'.heap → X w args → X w' args)
    (own : ownKnob C.prog.godebug = none) (started : os.Started) (noInit : C.prog.inits.idxOf? f = none) (hfn : C.prog.funcs[f]? = some fn)
    (witness : ∃ (w : World) (tape : Tape) (i : Input), w.os = os ∧ (w.forCall tape i).Shaped C.prog ∧ i.vars = [] ∧ Input.okWide C.prog (w.forCall tape i) .any w.heap.size f i ∧
      ((s.pre enc C.prog fn conds apart (w.forCall tape i).memory i.args ∧ X (w.forCall tape i).memory i.args) ∧ sizedMet enc C.prog fn (OpenSpec.ofChange s) apart (w.forCall tape i).memory i.args) ∧ a.holds C.prog (lone (Frame.enter C.prog f i.args .normal) [] (w.forCall tape i)))
    (contract : ∀ (W : World) (base : Nat) (args : Array Value) (ds gs : List (DataW H)) (before : List MemPlace),
      (∀ (j : Nat) t v, fn.params[j]? = some t → args[j]? = some v → Value.okWide C.prog W .any base t v) →
      DataW.Whole enc C.prog fn.params.toList s.vars apart W args.toList ds gs before →
      (DataW.weightsEach C.prog (fn.params.toList ++ s.plain.varTypes C.prog) (ds ++ gs)).all (· ≤ reachBytes) = true → X W args → W.ShapedOpen C.prog →
      Calls C.prog f args W fun e W' => ∃ v, e = .returned v ∧ s.post enc C.prog fn apart fresh handsOn again W args v W') :
    ReturnsInHanded a C os f .any (fun w args => (s.pre enc C.prog fn conds apart w args ∧ X w args) ∧ sizedMet enc C.prog fn (OpenSpec.ofChange s) apart w args) (s.post enc C.prog fn apart fresh handsOn again) := by
  refine returnsInHanded_of_calls own started noInit witness ?_
  intro w tape i _ hsh _ hok hpre hholds
  obtain ⟨_, _, _, fn', hfn', _, _, _, _, hval⟩ := hok
  have e : fn' = fn := Option.some.inj (hfn'.symm.trans hfn)
  subst e
  obtain ⟨⟨⟨ds, gs, before, hw, hc⟩, hx⟩, hz⟩ := hpre
  have hw' := DataW.Whole.of_heap (w' := w.forCall tape i) (by rfl) hw
  refine (contract (w.forCall tape i) w.heap.size i.args ds gs before hval hw' (hz.weights hw) (hX _ _ _ (by rfl) hx) hsh).mono fun e W' ⟨v, he, hp⟩ => ?_
  subst he
  exact ChangeSpec.post_blind hp
end Go.Proofs.YtfhkfnoajbbfdaaGreatDoor

/- What the readers ask of the package-level variables, out of a row's first world. -/
namespace Go.Proofs.YtfhkfnoajbbfdaaGreatDoor
open Go.ChangeShapes Go.WideShapes Go.ChangeAt Go.WideMaps Go.WideElems Go.RowKit

theorem gEs : Tryz.prog.globalNamed "strconv.ErrSyntax" = some 6 := by kernel_rfl
theorem gEr : Tryz.prog.globalNamed "strconv.ErrRange" = some 7 := by kernel_rfl
theorem gEt : Tryz.prog.globalNamed "errors.errorType" = some 0 := by kernel_rfl
theorem tEs : (Tryz.prog.globals[6]?).map (·.type) = some 96 := by kernel_rfl
theorem tEr : (Tryz.prog.globals[7]?).map (·.type) = some 96 := by kernel_rfl
theorem rtRow : (Tryz.prog.cutTypes.find? (·.1 == "internal/reflectlite.rtype")).map (·.2) = some 262 := by kernel_rfl
theorem oneRow : ((List.range 484).filter fun t => Tryz.prog.rowNamed t [101, 114, 114, 111, 114]) = [96] := by kernel_rfl
theorem typesSize : Tryz.prog.types.size = 484 := by kernel_rfl

theorem trod_ifc {H : Type} {enc : TypeId × Value → H} {P : Program} {w : World} {base fuel : Nat} {sp : Nat → Bool} {held : Bool} {t : TypeId} {cs : List Value} {x : DataW H × List MemPlace} {ms : Array (String × TypeId)} (ht : P.underlying t = some (.interface ms)) (h : DataW.trod enc P w base sp held fuel t cs = some x) :
    cs = [.nilIface] ∨ ∃ te pe, cs = [.iface te pe] := by
  cases fuel with
  | zero => simp [DataW.trod] at h
  | succ n =>
    unfold DataW.trod at h
    rw [ht] at h
    match cs, h with
    | [], h => simp at h
    | [v], h =>
      cases v with
      | nilIface => exact .inl rfl
      | iface te pe => exact .inr ⟨te, pe, rfl⟩
      | _ => simp at h
    | _ :: _ :: _, h => simp at h

/-- A listed variable of an interface's type holds an interface's value. -/
theorem ifc_of {W : World} {n : String} {d : DataW Unit} {g : Nat} (hg : Tryz.prog.globalNamed n = some g) (ht : (Tryz.prog.globals[g]?).map (·.type) = some 96) (h : laidMet Tryz.prog [(n, d)] W) : ∃ ev, W.cell? ⟨g, 0, none⟩ = some ev ∧ (ev = .nilIface ∨ ∃ te pe, ev = .iface te pe) := by
  obtain ⟨ps, ⟨g0, t0, cs0, f0, p0, q0, hg0, ht0, hv0, hd0, _, _⟩, _, _⟩ := h
  obtain rfl := Option.some.inj (hg.symm.trans hg0)
  obtain rfl := Option.some.inj (ht.symm.trans ht0)
  have hc := World.var?_cell hg0 hv0 0
  rcases trod_ifc Tryz.underlying96 hd0 with e | ⟨te, pe, e⟩
  · rw [Array.eq_one_of_toList e] at hc
    exact ⟨_, by simpa using hc, .inl rfl⟩
  · rw [Array.eq_one_of_toList e] at hc
    exact ⟨_, by simpa using hc, .inr ⟨te, pe, rfl⟩⟩

theorem handle_of {W : World} {l : List (String × DataW Unit)} (hf : l.filter (fun x => x.1 == "errors.errorType") = [("errors.errorType", Rows.laid_errors_errorType)]) (h : laidMetH Tryz.prog l W) : W.cell? ⟨0, 0, none⟩ = some (.iface 262 (.agg #[.pointer (some ⟨10, 96, none⟩)])) := by
  have h1 := h.filter (fun x => x.1 == "errors.errorType")
  rw [hf] at h1
  have h' : laidMet Tryz.prog [] W ∧ handlesMet Tryz.prog [("errors.errorType", Rows.laid_errors_errorType)] W := h1
  obtain ⟨name, u, ty, e1, e2, e3, e4, e5⟩ := h'.2 _ (List.mem_singleton.2 rfl)
  have en : name = [101, 114, 114, 111, 114] := (Option.some.inj e1).symm
  subst en
  obtain rfl := Option.some.inj (rtRow.symm.trans e2)
  have hm : ty ∈ (List.range 484).filter fun t => Tryz.prog.rowNamed t [101, 114, 114, 111, 114] := List.mem_filter.2 ⟨List.mem_range.2 (by rw [← typesSize]; exact e3), e4⟩
  rw [oneRow] at hm
  obtain rfl := List.mem_singleton.1 hm
  have hh : typeHandle Tryz.prog 96 = .pointer (some ⟨10, 96, none⟩) := by kernel_rfl
  rw [hh] at e5
  simpa using World.var?_cell gEt e5 0

theorem env_of {W : World} {l : List (String × DataW Unit)} (hS : W.ShapedOpen Tryz.prog) (hL : laidMetH Tryz.prog l W)
    (f1 : l.filter (fun x => x.1 == "commits/ops.words") = [("commits/ops.words", Rows.laid_commits_ops_words)]) (f2 : l.filter (fun x => x.1 == "errors.errorType") = [("errors.errorType", Rows.laid_errors_errorType)])
    (f3 : l.filter (fun x => x.1 == "strconv.ErrSyntax") = [("strconv.ErrSyntax", Rows.laid_strconv_ErrSyntax)]) (f4 : l.filter (fun x => x.1 == "strconv.ErrRange") = [("strconv.ErrRange", Rows.laid_strconv_ErrRange)]) : Env W := by
  have h3 := hL.filter (fun x => x.1 == "strconv.ErrSyntax")
  rw [f3, MakeChecks.laidMetH_plain _ _ _ (by kernel_rfl)] at h3
  have h4 := hL.filter (fun x => x.1 == "strconv.ErrRange")
  rw [f4, MakeChecks.laidMetH_plain _ _ _ (by kernel_rfl)] at h4
  have hlast : 9 < W.heap.size := by
    have hsome : (((begin Tryz.prog (fun _ _ => 0) default).world.heap[9]?).bind Obj.row?).isSome = true := by kernel_rfl
    obtain ⟨⟨zero, t⟩, h0⟩ := Option.isSome_iff_exists.1 hsome
    obtain ⟨cs, hh, _⟩ := hS.1 9 zero t (of_decide_eq_true (by kernel_rfl)) h0
    exact (Array.getElem?_eq_some_iff.1 hh).1
  exact ⟨by omega, maxLen_of hS, laid_words f1 hL, ifc_of gEs tEs h3, ifc_of gEr tEr h4, handle_of f2 hL⟩
end Go.Proofs.YtfhkfnoajbbfdaaGreatDoor
