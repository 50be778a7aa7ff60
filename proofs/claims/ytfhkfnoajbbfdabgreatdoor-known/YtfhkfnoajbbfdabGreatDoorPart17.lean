import Derived.Test.YtfhkfnoajbbfdabGreatDoorPart16
import Derived.Test.YtfhkfnoajbbfdabGreatDoorAs
import Derived.Test.YtfhkfnoajbbfdabGreatDoorPart03
import Derived.Test.YtfhkfnoajbbfdabGreatDoorPart07
import Derived.Maps.OwnSet
import Derived.StringKeys
/- plain.Load, whatever the text is. -/
namespace Go.Proofs.YtfhkfnoajbbfdabGreatDoor
open Go.RowKit

set_option maxRecDepth 100000 in
set_option maxHeartbeats 2000000 in
theorem tell_fault {w : World} (hE : Env w) {bf : Nat} {er ln : Int} (hb : FaultAt w bf er ln) :
    Calls Tryz.prog 29 #[.iface 89 (ptr bf)] w fun e w' => e = .returned (.tuple #[.int .i64 er, .int .i64 ln]) ∧ Below w.heap.size w w' := by
  have hlt : bf < w.heap.size := World.block_lt_of_cell? _ _ hb.1
  have HE := hid hE
  have HB := hid hb
  clear hE hb
  go_enter Tryz.func29, Tryz.ntmps29
  go_wp2_with fail
  have hs1 : (w.alloc (.cells #[.pointer none] 89)).heap.size = w.heap.size + 1 := by simp
  have hb2 : Below w.heap.size w ((w.alloc (.cells #[.pointer none] 89)).alloc (.cells #[.int .i64 0] 39)) := ((Below.refl _ w).alloc (Nat.le_refl _) _).alloc (by simp) _
  have hg : ((w.alloc (.cells #[.pointer none] 89)).alloc (.cells #[.int .i64 0] 39)).cell? ⟨0, 0, none⟩ = some (.iface 207 (.agg #[.pointer (some ⟨10, 59, none⟩)])) := (HE.out.below hb2).et
  have ht0 : ((w.alloc (.cells #[.pointer none] 89)).alloc (.cells #[.int .i64 0] 39)).cell? ⟨w.heap.size, 0, none⟩ = some (.pointer none) := (World.cell?_alloc_past _ _ _ (by omega)).trans (World.cell?_alloc_new w _ _ 0)
  have hf0 : ((w.alloc (.cells #[.pointer none] 89)).alloc (.cells #[.int .i64 0] 39)).frozen? ⟨w.heap.size, 0, none⟩ = false := (World.frozen?_alloc_past _ _ _ (by omega)).trans (by simp)
  have key : Calls Tryz.prog 40 #[.iface 89 (ptr bf), .iface 91 (.pointer (some ⟨w.heap.size, 0, none⟩))] ((w.alloc (.cells #[.pointer none] 89)).alloc (.cells #[.int .i64 0] 39)) fun ev w' => ev = .returned (.bool true) ∧ w'.cell? ⟨w.heap.size, 0, none⟩ = some (.pointer (some ⟨bf, 0, none⟩)) ∧ w'.cell? ⟨bf, 0, none⟩ = some (.int .i64 er) ∧ w'.cell? ⟨bf, 1, none⟩ = some (.int .i64 ln) ∧ Below w.heap.size w w' := by
    refine (as_hit ⟨bf, 0, none⟩ ⟨w.heap.size, 0, none⟩ (.pointer none) _ hg ht0 hf0).mono ?_
    rintro e w' ⟨rfl, rfl⟩
    generalize hW2 : (w.alloc (.cells #[.pointer none] 89)).alloc (.cells #[.int .i64 0] 39) = W2 at *
    have c9 : Chg (fun _ (_ : Nat) => False) W2 ((((W2.alloc (.cells #[.pointer (some ⟨w.heap.size, 0, none⟩)] 91)).alloc (.cells #[.pointer (some ⟨10, 91, none⟩), .pointer (some ⟨W2.heap.size, 0, none⟩), .int .u64 150] 128)).alloc (.cells #[.pointer (some ⟨10, 91, none⟩), .pointer (some ⟨W2.heap.size, 0, none⟩), .int .u64 150] 128)).alloc (.cells #[.pointer (some ⟨bf, 0, none⟩)] 89)) := ((((Chg.refl _ W2).alloc _).alloc _).alloc _).alloc _
    have c1 := (c9.mono (M' := fun k (_ : Nat) => k = w.heap.size) (fun _ _ _ e => e.elim)).setCell (b := w.heap.size) (o := 0) (fun _ => rfl) (.pointer (some ⟨bf, 0, none⟩))
    have hl2 : bf < W2.heap.size := Nat.lt_of_lt_of_le hlt hb2.size
    have hl3 : w.heap.size < W2.heap.size := World.block_lt_of_cell? _ _ ht0
    have e0 := (hb2.cell (p := ⟨bf, 0, none⟩) hlt).trans HB.out.1
    have e1 := (hb2.cell (p := ⟨bf, 1, none⟩) hlt).trans HB.out.2
    exact ⟨rfl, cell_set_eq ((c9.cell w.heap.size 0 hl3 (fun e => e)).trans ht0) rfl, (c1.cell bf 0 hl2 (by omega)).trans e0, (c1.cell bf 1 hl2 (by omega)).trans e1, hb2.trans (c1.below hb2.size (fun k i e => by omega))⟩
  clear hg ht0 hf0 hb2 hs1
  have HK := hid key
  clear key
  refine HK.out.mono ?_
  rintro e w1 ⟨rfl, k1, k2, k3, k4⟩
  have K4 := hid k4
  clear k4 HK
  go_wp2
  go_region
  all_goals
    go_wp2
    go_ret2
    exact ⟨rfl, ⟨K4.out.os, K4.out.tape, K4.out.output, K4.out.size, K4.out.block⟩⟩

set_option maxRecDepth 100000 in
set_option maxHeartbeats 1000000 in
/-- plain.Load, whatever the text is. -/
theorem pload_any {W : World} (hE : Env W) (s : ByteArray) :
    Calls Tryz.prog 19 #[.string s] W fun e w' => match gCode s with
      | .ok cs => ∃ bm, e = .returned (.tuple #[ptr bm, .int .i64 0, .int .i64 0]) ∧ MRep (fun k => W.heap.size ≤ k) w' bm (cs.map fun c => (Th.init, c)) (fun _ => 0) ∧ AccOk cs ∧ Below W.heap.size W w'
      | .error (er, ln) => e = .returned (.tuple #[.pointer none, .int .i64 er, .int .i64 ln]) ∧ Below W.heap.size W w' := by
  have k := cload_any hE s
  have HE := hid hE
  clear hE
  cases hR : gCode s with
  | ok cs =>
    rw [hR] at k
    have K := hid k
    clear k
    go_enter Tryz.func19, Tryz.ntmps19
    go_wp2_with fail
    refine K.out.mono ?_
    rintro e W1 ⟨bm, rfl, h1, ha, b1⟩
    have H1 := hid h1
    have B1 := hid b1
    have HA := hid ha
    clear h1 b1 ha K
    go_wp2_with fail
    refine (tell_nil W1).mono ?_
    rintro e W2 ⟨rfl, b2⟩
    have B2 := hid b2
    clear b2
    go_wp2
    go_ret3
    exact ⟨bm, rfl, H1.out.below B2.out, HA.out, B1.out.trans (B2.out.mono B1.out.size)⟩
  | error q =>
    obtain ⟨er, ln⟩ := q
    rw [hR] at k
    have K := hid k
    clear k
    go_enter Tryz.func19, Tryz.ntmps19
    go_wp2_with fail
    refine K.out.mono ?_
    rintro e W1 ⟨bf, rfl, h0, h1, b1⟩
    have H1 := hid h1
    have B1 := hid b1
    clear h1 b1 K
    go_wp2_with fail
    refine (tell_fault (HE.out.keep (Chg.of_below (M := fun _ _ => False) (B1.out.mono (Nat.le_refl _))) (fun _ _ _ e => e)) H1.out).mono ?_
    rintro e W2 ⟨rfl, b2⟩
    have B2 := hid b2
    clear b2
    go_wp2
    go_ret3
    exact ⟨rfl, B1.out.trans (B2.out.mono B1.out.size)⟩
end Go.Proofs.YtfhkfnoajbbfdabGreatDoor

/- What the readers ask of the package-level variables, out of a row's first world. -/
namespace Go.Proofs.YtfhkfnoajbbfdabGreatDoor
open Go.ChangeShapes Go.WideShapes Go.ChangeAt Go.WideMaps Go.WideElems Go.RowKit

theorem gEs : Tryz.prog.globalNamed "strconv.ErrSyntax" = some 6 := by kernel_rfl
theorem gEr : Tryz.prog.globalNamed "strconv.ErrRange" = some 7 := by kernel_rfl
theorem gEt : Tryz.prog.globalNamed "errors.errorType" = some 0 := by kernel_rfl
theorem tEs : (Tryz.prog.globals[6]?).map (·.type) = some 59 := by kernel_rfl
theorem tEr : (Tryz.prog.globals[7]?).map (·.type) = some 59 := by kernel_rfl
theorem rtRow : (Tryz.prog.cutTypes.find? (·.1 == "internal/reflectlite.rtype")).map (·.2) = some 207 := by kernel_rfl
theorem oneRow : ((List.range 478).filter fun t => Tryz.prog.rowNamed t [101, 114, 114, 111, 114]) = [59] := by kernel_rfl
theorem typesSize : Tryz.prog.types.size = 478 := by kernel_rfl

theorem trod_ifc {H : Type} {enc : TypeId × Value → H} {P : Program} {w : World} {base fuel : Nat} {sp : Nat → Bool} {held : Bool} {t : TypeId} {cs : List Value} {x : DataW H × List MemPlace} {ms : Array (String × TypeId)} (ht : P.underlying t = some (.interface ms)) (h : DataW.trod enc P w base sp held fuel t cs = some x) :
    cs = [.nilIface] ∨ ∃ te pe, cs = [.iface te pe] := by
  cases fuel with
  | zero => simp [DataW.trod] at h
  | succ n =>
    unfold DataW.trod at h
    rw [ht] at h
    match cs, h with
    | [], h => simp at h
    | [v], h =>
      cases v with
      | nilIface => exact .inl rfl
      | iface te pe => exact .inr ⟨te, pe, rfl⟩
      | _ => simp at h
    | _ :: _ :: _, h => simp at h

/-- A listed variable of an interface's type holds an interface's value. -/
theorem ifc_of {W : World} {n : String} {d : DataW Unit} {g : Nat} (hg : Tryz.prog.globalNamed n = some g) (ht : (Tryz.prog.globals[g]?).map (·.type) = some 59) (h : laidMet Tryz.prog [(n, d)] W) : ∃ ev, W.cell? ⟨g, 0, none⟩ = some ev ∧ (ev = .nilIface ∨ ∃ te pe, ev = .iface te pe) := by
  obtain ⟨ps, ⟨g0, t0, cs0, f0, p0, q0, hg0, ht0, hv0, hd0, _, _⟩, _, _⟩ := h
  obtain rfl := Option.some.inj (hg.symm.trans hg0)
  obtain rfl := Option.some.inj (ht.symm.trans ht0)
  have hc := World.var?_cell hg0 hv0 0
  rcases trod_ifc Tryz.underlying59 hd0 with e | ⟨te, pe, e⟩
  · rw [Array.eq_one_of_toList e] at hc
    exact ⟨_, by simpa using hc, .inl rfl⟩
  · rw [Array.eq_one_of_toList e] at hc
    exact ⟨_, by simpa using hc, .inr ⟨te, pe, rfl⟩⟩

theorem handle_of {W : World} {l : List (String × DataW Unit)} (hf : l.filter (fun x => x.1 == "errors.errorType") = [("errors.errorType", Rows.laid_errors_errorType)]) (h : laidMetH Tryz.prog l W) : W.cell? ⟨0, 0, none⟩ = some (.iface 207 (.agg #[.pointer (some ⟨10, 59, none⟩)])) := by
  have h1 := h.filter (fun x => x.1 == "errors.errorType")
  rw [hf] at h1
  have h' : laidMet Tryz.prog [] W ∧ handlesMet Tryz.prog [("errors.errorType", Rows.laid_errors_errorType)] W := h1
  obtain ⟨name, u, ty, e1, e2, e3, e4, e5⟩ := h'.2 _ (List.mem_singleton.2 rfl)
  have en : name = [101, 114, 114, 111, 114] := (Option.some.inj e1).symm
  subst en
  obtain rfl := Option.some.inj (rtRow.symm.trans e2)
  have hm : ty ∈ (List.range 478).filter fun t => Tryz.prog.rowNamed t [101, 114, 114, 111, 114] := List.mem_filter.2 ⟨List.mem_range.2 (by rw [← typesSize]; exact e3), e4⟩
  rw [oneRow] at hm
  obtain rfl := List.mem_singleton.1 hm
  have hh : typeHandle Tryz.prog 59 = .pointer (some ⟨10, 59, none⟩) := by kernel_rfl
  rw [hh] at e5
  simpa using World.var?_cell gEt e5 0

theorem env_of {W : World} {l : List (String × DataW Unit)} (hS : W.ShapedOpen Tryz.prog) (hL : laidMetH Tryz.prog l W)
    (f1 : l.filter (fun x => x.1 == "commits/ops.words") = [("commits/ops.words", Rows.laid_commits_ops_words)]) (f2 : l.filter (fun x => x.1 == "errors.errorType") = [("errors.errorType", Rows.laid_errors_errorType)])
    (f3 : l.filter (fun x => x.1 == "strconv.ErrSyntax") = [("strconv.ErrSyntax", Rows.laid_strconv_ErrSyntax)]) (f4 : l.filter (fun x => x.1 == "strconv.ErrRange") = [("strconv.ErrRange", Rows.laid_strconv_ErrRange)]) : Env W := by
  have h3 := hL.filter (fun x => x.1 == "strconv.ErrSyntax")
  rw [f3, MakeChecks.laidMetH_plain _ _ _ (by kernel_rfl)] at h3
  have h4 := hL.filter (fun x => x.1 == "strconv.ErrRange")
  rw [f4, MakeChecks.laidMetH_plain _ _ _ (by kernel_rfl)] at h4
  have hlast : 9 < W.heap.size := by
    have hsome : (((begin Tryz.prog (fun _ _ => 0) default).world.heap[9]?).bind Obj.row?).isSome = true := by kernel_rfl
    obtain ⟨⟨zero, t⟩, h0⟩ := Option.isSome_iff_exists.1 hsome
    obtain ⟨cs, hh, _⟩ := hS.1 9 zero t (of_decide_eq_true (by kernel_rfl)) h0
    exact (Array.getElem?_eq_some_iff.1 hh).1
  exact ⟨by omega, maxLen_of hS, laid_words f1 hL, ifc_of gEs tEs h3, ifc_of gEr tEr h4, handle_of f2 hL⟩
end Go.Proofs.YtfhkfnoajbbfdabGreatDoor

/- Names and values of a program's line. -/
namespace Go.Proofs.YtfhkfnoajbbfdabGreatDoor
open Go.RowKit

def small (b : UInt8) : Bool := decide (97 ≤ b.toNat) && decide (b.toNat ≤ 122)

/-- One to six small letters. -/
def isNm (u : ByteArray) : Bool := decide (0 < u.size) && (decide (u.size ≤ 6) && u.data.toList.all small)

/-- What a statement reads: a local variable or, if it has no name, a number. -/
structure PV where
  name : ByteArray
  num : Int

def pvV (x : PV) : Value := .agg #[.string x.name, .int .i64 x.num]

def gNm : List ByteArray → Option (ByteArray × List ByteArray)
  | [] => none
  | u :: ws => if isNm u = true then some (u, ws) else none

def gPV : List ByteArray → Option (PV × List ByteArray)
  | [] => none
  | u :: ws => if isNm u = true then some (⟨u, 0⟩, ws) else (numVal u).map fun v => (⟨ByteArray.empty, v⟩, ws)

section
variable {w : World} {bl bw : Nat} {n : Int} {ws ws1 : List ByteArray}

theorem isNm_get {u : ByteArray} (h : u.data.toList.all small = true) (j : Nat) (hj : j < u.size) : 97 ≤ u[j].toNat ∧ u[j].toNat ≤ 122 := by
  have := List.all_eq_true.1 h u[j] (by
    have : u[j] = u.data.toList[j]'(by simpa using hj) := by simp [ByteArray.getElem_eq_getElem_data]
    rw [this]
    exact List.getElem_mem _)
  simpa [small] using this

theorem isNm_bad {u : ByteArray} (h : u.data.toList.all small = false) : ∃ k, ∃ hk : k < u.size, (u[k].toNat < 97 ∨ 122 < u[k].toNat) ∧ ∀ j (h : j < u.size), j < k → 97 ≤ u[j].toNat ∧ u[j].toNat ≤ 122 := by
  have hex : ∃ k, ∃ hk : k < u.size, u[k].toNat < 97 ∨ 122 < u[k].toNat := by
    obtain ⟨x, hx, hs⟩ := List.all_eq_false.1 h
    obtain ⟨k, hk, rfl⟩ := List.getElem_of_mem hx
    have hk' : k < u.size := by simpa using hk
    refine ⟨k, hk', ?_⟩
    have : u[k] = u.data.toList[k] := by simp [ByteArray.getElem_eq_getElem_data]
    rw [this]
    simp [small] at hs
    simp
    omega
  classical
  obtain ⟨k, hk⟩ : ∃ k, (∃ hk : k < u.size, u[k].toNat < 97 ∨ 122 < u[k].toNat) ∧ ∀ j, j < k → ¬ ∃ hk : j < u.size, u[j].toNat < 97 ∨ 122 < u[j].toNat := by
    have : ∀ n, (∃ k, k < n ∧ ∃ hk : k < u.size, u[k].toNat < 97 ∨ 122 < u[k].toNat) → ∃ k, (∃ hk : k < u.size, u[k].toNat < 97 ∨ 122 < u[k].toNat) ∧ ∀ j, j < k → ¬ ∃ hk : j < u.size, u[j].toNat < 97 ∨ 122 < u[j].toNat := by
      intro n
      induction n with
      | zero => rintro ⟨k, hk, _⟩; omega
      | succ n ih =>
        rintro ⟨k, hk, h⟩
        by_cases hlt : ∃ k, k < n ∧ ∃ hk : k < u.size, u[k].toNat < 97 ∨ 122 < u[k].toNat
        · exact ih hlt
        · have : k = n := by
            by_cases h' : k < n
            · exact absurd ⟨k, h', h⟩ hlt
            · omega
          subst this
          exact ⟨k, h, fun j hj hh => hlt ⟨j, hj, hh⟩⟩
    obtain ⟨k, hk⟩ := hex
    exact this (k + 1) ⟨k, by omega, hk⟩
  obtain ⟨⟨hlt, hb⟩, hf⟩ := hk
  refine ⟨k, hlt, hb, fun j hj hjk => ?_⟩
  have := hf j hjk
  have h2 : ¬ (u[j].toNat < 97 ∨ 122 < u[j].toNat) := fun h => this ⟨hj, h⟩
  omega

set_option maxRecDepth 100000 in
set_option maxHeartbeats 1000000 in
theorem isName_size (w : World) (u : ByteArray) (h : u.size = 0 ∨ 6 < u.size) :
    Calls Tryz.prog 175 #[.string u] w fun e w' => e = .returned (.bool false) ∧ w' = w := by
  by_cases h0 : u.size = 0
  · have he : u.toList.isEmpty = true := by
      rw [ByteArray.toList_eq]
      have : u.data.toList = [] := List.length_eq_zero_iff.1 (by simpa using h0)
      rw [this]; rfl
    go_enter Tryz.func175, Tryz.ntmps175
    go_wp2
    go_ret
    exact ⟨rfl, rfl⟩
  · have he : u.toList.isEmpty = false := ba_some (by omega)
    have h6 : (6 : Int) < (u.size : Int) := by omega
    go_enter Tryz.func175, Tryz.ntmps175
    go_wp2
    go_ret
    exact ⟨rfl, rfl⟩

set_option maxRecDepth 100000 in
set_option maxHeartbeats 1000000 in
theorem isName_yes (w : World) (u : ByteArray) (h0 : 0 < u.size) (h6 : u.size ≤ 6) (hd : Hid (∀ j (h : j < u.size), 97 ≤ u[j].toNat ∧ u[j].toNat ≤ 122)) :
    Calls Tryz.prog 175 #[.string u] w fun e w' => e = .returned (.bool true) ∧ w' = w := by
  have he : u.toList.isEmpty = false := ba_some (by omega)
  have h6' : ¬ (6 : Int) < (u.size : Int) := by omega
  go_enter Tryz.func175, Tryz.ntmps175
  go_wp2
  go_loopw [13] (fun v wr => ∃ k : Nat, k ≤ u.size ∧ v = .int .i64 k ∧ wr = w) (fun v _ => u.size - (intOf v).toNat)
  case atStart => exact ⟨0, by omega, rfl, rfl⟩
  case round =>
    obtain ⟨k, hk, rfl, rfl⟩ := hrel
    by_cases hlt : k < u.size
    · have hlt' : (k : Int) < (u.size : Int) := by omega
      obtain ⟨d1, d2⟩ := hd.out k hlt
      have q1 : ¬ (u[k].toNat : Int) < 97 := by omega
      have q2 : ¬ (122 : Int) < (u[k].toNat : Int) := by omega
      go_wp2
      go_roundw
      case rel => exact ⟨k + 1, by omega, by go_num, trivial⟩
      case measure => simp [intOf]; omega
    · have hlt' : ¬ (k : Int) < (u.size : Int) := by omega
      go_wp2
      go_ret
      exact ⟨rfl, rfl⟩

set_option maxRecDepth 100000 in
set_option maxHeartbeats 1000000 in
theorem isName_no (w : World) (u : ByteArray) (h0 : 0 < u.size) (h6 : u.size ≤ 6) (k0 : Nat) (hk0 : k0 < u.size) (hb : u[k0].toNat < 97 ∨ 122 < u[k0].toNat) (hd : Hid (∀ j (h : j < u.size), j < k0 → 97 ≤ u[j].toNat ∧ u[j].toNat ≤ 122)) :
    Calls Tryz.prog 175 #[.string u] w fun e w' => e = .returned (.bool false) ∧ w' = w := by
  have he : u.toList.isEmpty = false := ba_some (by omega)
  have h6' : ¬ (6 : Int) < (u.size : Int) := by omega
  go_enter Tryz.func175, Tryz.ntmps175
  go_wp2
  go_loopw [13] (fun v wr => ∃ k : Nat, k ≤ k0 ∧ v = .int .i64 k ∧ wr = w) (fun v _ => u.size - (intOf v).toNat)
  case atStart => exact ⟨0, by omega, rfl, rfl⟩
  case round =>
    obtain ⟨k, hk, rfl, rfl⟩ := hrel
    have hlt : k < u.size := by omega
    have hlt' : (k : Int) < (u.size : Int) := by omega
    by_cases hkn : k < k0
    · obtain ⟨d1, d2⟩ := hd.out k hlt hkn
      have q1 : ¬ (u[k].toNat : Int) < 97 := by omega
      have q2 : ¬ (122 : Int) < (u[k].toNat : Int) := by omega
      go_wp2
      go_roundw
      case rel => exact ⟨k + 1, by omega, by go_num, trivial⟩
      case measure => simp [intOf]; omega
    · obtain rfl : k = k0 := by omega
      by_cases q1 : (u[k].toNat : Int) < 97
      · go_wp2
        go_ret
        exact ⟨rfl, rfl⟩
      · have q2 : (122 : Int) < (u[k].toNat : Int) := by omega
        go_wp2
        go_ret
        exact ⟨rfl, rfl⟩

theorem isName_any (w : World) (u : ByteArray) : Calls Tryz.prog 175 #[.string u] w fun e w' => e = .returned (.bool (isNm u)) ∧ w' = w := by
  by_cases h0 : u.size = 0 ∨ 6 < u.size
  · have e : isNm u = false := by
      unfold isNm
      rcases h0 with h | h
      · have : ¬ 0 < u.size := by omega
        simp [this]
      · have : ¬ u.size ≤ 6 := by omega
        simp [this]
    rw [e]
    exact isName_size w u h0
  · have h1 : 0 < u.size := by omega
    have h6 : u.size ≤ 6 := by omega
    have e : isNm u = u.data.toList.all small := by unfold isNm; simp [h1, h6]
    rw [e]
    cases ha : u.data.toList.all small with
    | true => exact isName_yes w u h1 h6 (isNm_get ha)
    | false =>
      obtain ⟨k, hk, hb, hd⟩ := isNm_bad ha
      exact isName_no w u h1 h6 k hk hb hd

set_option maxRecDepth 100000 in
set_option maxHeartbeats 1000000 in
theorem readName_tot (h : LineAt w bl n bw ws) (hz : SzOk ws) :
    Calls Tryz.prog 128 #[ptr bl] w fun e w' => Rds bl n bw w ((gNm ws).map fun p => (.string p.1, p.2)) e w' := by
  have H := hid h
  clear h
  cases ws with
  | nil =>
    go_enter Tryz.func128, Tryz.ntmps128
    go_wp2_with fail
    refine (word_none H.out).mono ?_
    rintro e w1 ⟨bf, rfl, h1⟩
    exact ⟨rfl, bf, rfl, h1⟩
  | cons u ws =>
    cases hr : isNm u with
    | true =>
      have e : ((gNm (u :: ws)).map fun p => ((.string p.1 : Value), p.2)) = some (.string u, ws) := by simp [gNm, hr]
      rw [e]
      go_enter Tryz.func128, Tryz.ntmps128
      go_wp2_with fail
      refine (word_ok H.out hz.len).mono ?_
      rintro e w1 ⟨rfl, h1, c1⟩
      have H1 := hid h1
      have C1 := hid c1
      clear h1 c1
      go_wp2_with fail
      refine (isName_any w1 u).mono ?_
      rintro e w2 ⟨rfl, rfl⟩
      rw [hr]
      go_wp2
      go_ret
      exact ⟨rfl, H1.out, C1.out⟩
    | false =>
      have e : ((gNm (u :: ws)).map fun p => ((.string p.1 : Value), p.2)) = none := by simp [gNm, hr]
      rw [e]
      go_enter Tryz.func128, Tryz.ntmps128
      go_wp2_with fail
      refine (word_ok H.out hz.len).mono ?_
      rintro e w1 ⟨rfl, h1, c1⟩
      have H1 := hid h1
      have C1 := hid c1
      clear h1 c1
      go_wp2_with fail
      refine (isName_any w1 u).mono ?_
      rintro e w2 ⟨rfl, rfl⟩
      rw [hr]
      go_wp2_with fail
      refine (fail_any H1.out 2).mono ?_
      intro e w3 h3
      obtain ⟨bf, rfl, h4⟩ := h3.after C1.out
      exact ⟨rfl, bf, rfl, h4⟩

/-- The block of a result that is a value. -/
abbrev pvW (w : World) : World := w.alloc (.cells #[.string ⟨#[]⟩, .int .i64 0] 302)

structure PvRes (bl : Nat) (w w1 : World) : Prop where
  c0 : w1.cell? ⟨w.heap.size, 0, none⟩ = some (.string ⟨#[]⟩)
  c1 : w1.cell? ⟨w.heap.size, 1, none⟩ = some (.int .i64 0)
  f0 : w1.frozen? ⟨w.heap.size, 0, none⟩ = false
  f1 : w1.frozen? ⟨w.heap.size, 1, none⟩ = false
  lt : w.heap.size < w1.heap.size
  chg : Chg (lineM bl) w w1

theorem pv_res (hb : bl < w.heap.size) {w1 : World} (c : Chg (lineM bl) (pvW w) w1) : PvRes bl w w1 := by
  have hs : (pvW w).heap.size = w.heap.size + 1 := by simp [pvW]
  have h1 := c.size
  have k : ∀ o, w1.cell? ⟨w.heap.size, o, none⟩ = (pvW w).cell? ⟨w.heap.size, o, none⟩ := fun o => c.cell _ _ (by omega) (fun e => by omega)
  have kf : ∀ o, w1.frozen? ⟨w.heap.size, o, none⟩ = (pvW w).frozen? ⟨w.heap.size, o, none⟩ := fun o => c.frozen _ _ (by omega)
  exact ⟨(k 0).trans (World.cell?_alloc_new _ _ _ 0), (k 1).trans (World.cell?_alloc_new _ _ _ 1), (kf 0).trans (by simp [pvW]), (kf 1).trans (by simp [pvW]), by omega, ((Chg.refl _ w).alloc _).trans c⟩

/-- What was stored into it comes back. -/
theorem PvRes.done {w1 : World} (h : PvRes bl w w1) (a b : Value) : (World.setCell (w1.setCell ⟨w.heap.size, 0, none⟩ a) ⟨w.heap.size, 1, none⟩ b).cell? ⟨w.heap.size, 0, none⟩ = some a ∧ (World.setCell (w1.setCell ⟨w.heap.size, 0, none⟩ a) ⟨w.heap.size, 1, none⟩ b).cell? ⟨w.heap.size, 1, none⟩ = some b ∧ Chg (lineM bl) w ((w1.setCell ⟨w.heap.size, 0, none⟩ a).setCell ⟨w.heap.size, 1, none⟩ b) ∧ Chg (fun k _ => k = w.heap.size) w1 ((w1.setCell ⟨w.heap.size, 0, none⟩ a).setCell ⟨w.heap.size, 1, none⟩ b) :=
  ⟨(cell_set_ne (by omega)).trans (cell_set_eq h.c0 rfl), cell_set_eq ((cell_set_ne (by omega)).trans h.c1) rfl, (h.chg.setCell (fun e => absurd e (Nat.lt_irrefl _)) a).setCell (fun e => absurd e (Nat.lt_irrefl _)) b, ((Chg.refl (fun k _ => k = w.heap.size) w1).setCell (fun _ => rfl) a).setCell (fun _ => rfl) b⟩

theorem LineAt.done {w1 : World} {W : World} (h : LineAt w1 bl n bw ws) (hb : bl < w.heap.size) (hw : bw < w.heap.size) (c : Chg (fun k _ => k = w.heap.size) w1 W) : LineAt W bl n bw ws := h.keep c (fun _ e => by omega) (fun _ e => by omega)

set_option maxRecDepth 100000 in
set_option maxHeartbeats 1000000 in
theorem readPV_tot (h : LineAt w bl n bw ws) (hE : Hid (Env w)) (hbl : 10 ≤ bl) (hz : SzOk ws) :
    Calls Tryz.prog 132 #[ptr bl] w fun e w' => Rds bl n bw w ((gPV ws).map fun p => (pvV p.1, p.2)) e w' := by
  have hlt := h.lt
  have hltw := h.ltw
  have bel : Below w.heap.size w (pvW w) := (Below.refl _ w).alloc (Nat.le_refl _) _
  have H := hid (h.below bel)
  have E1 := hid (hE.out.below bel)
  have A0 := hid ((Chg.refl (lineM bl) w).alloc (.cells #[.string ⟨#[]⟩, .int .i64 0] 302))
  clear h bel
  cases ws with
  | nil =>
    go_enter Tryz.func132, Tryz.ntmps132
    go_wp2_with fail
    refine (word_none H.out).mono ?_
    intro e w3 h3
    obtain ⟨bf, rfl, h4⟩ := h3.after A0.out
    exact ⟨rfl, bf, rfl, h4⟩
  | cons u ws =>
    cases hr : isNm u with
    | true =>
      have e : ((gPV (u :: ws)).map fun p => (pvV p.1, p.2)) = some (.agg #[.string u, .int .i64 0], ws) := by simp [gPV, hr, pvV]
      rw [e]
      go_enter Tryz.func132, Tryz.ntmps132
      go_wp2_with fail
      refine (word_ok H.out hz.len).mono ?_
      rintro e w1 ⟨rfl, h1, c1⟩
      have H1 := hid h1
      have hp := pv_res hlt c1
      have HP := hid hp
      obtain ⟨d0, d1, g0, g1, gl, _⟩ := hp
      clear h1 c1
      go_wp2_with fail
      refine (isName_any w1 u).mono ?_
      rintro e w2 ⟨rfl, rfl⟩
      rw [hr]
      go_wp2
      obtain ⟨z0, z1, z2, z3⟩ := HP.out.done (.string u) (.int .i64 0)
      refine ⟨rfl, .agg #[.string u, .int .i64 0], ?_, rfl, H1.out.done hlt hltw z3, z2⟩
      clear z2 z3
      generalize (w2.setCell ⟨w.heap.size, 0, none⟩ (.string u)).setCell ⟨w.heap.size, 1, none⟩ (.int .i64 0) = W' at *
      simp [results, Tryz.results132, go_sem, z0, z1]
    | false =>
      cases hv : numVal u with
      | some v =>
        have e : ((gPV (u :: ws)).map fun p => (pvV p.1, p.2)) = some (.agg #[.string ByteArray.empty, .int .i64 v], ws) := by simp [gPV, hr, hv, pvV]
        rw [e]
        go_enter Tryz.func132, Tryz.ntmps132
        go_wp2_with fail
        refine (word_ok H.out hz.len).mono ?_
        rintro e w1 ⟨rfl, h1, c1⟩
        have H1 := hid h1
        have C1 := hid c1
        clear h1 c1
        go_wp2_with fail
        refine (isName_any w1 u).mono ?_
        rintro e w2 ⟨rfl, rfl⟩
        rw [hr]
        go_wp2_with fail
        refine (number_any (E1.out.line C1.out hbl) u hz.head).mono ?_
        rintro e w2 ⟨rfl, b2⟩
        have H2 := hid (H1.out.below b2)
        have hp := pv_res hlt (C1.out.trans (Chg.of_below b2))
        have HP := hid hp
        obtain ⟨d0, d1, g0, g1, gl, _⟩ := hp
        clear b2 H1 C1
        rw [hv]
        go_wp2
        obtain ⟨z0, z1, z2, z3⟩ := HP.out.done (.string ⟨#[]⟩) (.int .i64 v)
        refine ⟨rfl, .agg #[.string ByteArray.empty, .int .i64 v], ?_, rfl, H2.out.done hlt hltw z3, z2⟩
        clear z2 z3
        generalize (w2.setCell ⟨w.heap.size, 0, none⟩ (.string ⟨#[]⟩)).setCell ⟨w.heap.size, 1, none⟩ (.int .i64 v) = W' at *
        simp [results, Tryz.results132, go_sem, z0, z1]
        rfl
      | none =>
        have e : ((gPV (u :: ws)).map fun p => (pvV p.1, p.2)) = none := by simp [gPV, hr, hv]
        rw [e]
        go_enter Tryz.func132, Tryz.ntmps132
        go_wp2_with fail
        refine (word_ok H.out hz.len).mono ?_
        rintro e w1 ⟨rfl, h1, c1⟩
        have H1 := hid h1
        have C1 := hid c1
        clear h1 c1
        go_wp2_with fail
        refine (isName_any w1 u).mono ?_
        rintro e w2 ⟨rfl, rfl⟩
        rw [hr]
        go_wp2_with fail
        refine (number_any (E1.out.line C1.out hbl) u hz.head).mono ?_
        rintro e w2 ⟨rfl, b2⟩
        have H2 := hid (H1.out.below b2)
        have C2 := hid (A0.out.trans (C1.out.trans (Chg.of_below b2)))
        clear b2 H1 C1
        rw [hv]
        go_wp2_with fail
        refine (fail_any H2.out 2).mono ?_
        intro e w3 h3
        obtain ⟨bf, rfl, h4⟩ := h3.after C2.out
        exact ⟨rfl, bf, rfl, h4⟩
end
end Go.Proofs.YtfhkfnoajbbfdabGreatDoor

/- Maps from words. -/
namespace Go.Proofs.YtfhkfnoajbbfdabGreatDoor
open Go.RowKit Go.Maps Go.ChangeMaps

/-- How an element reads: as itself. -/
def rawElem (v : Value) : Option (DataW Value × List MemPlace) := some (.held v, [])

def keyL (u : ByteArray) : Lit := .string u.data.toList

theorem keyL_ne {u v : ByteArray} (h : u ≠ v) : keyL u ≠ keyL v := fun e => h (Go.WideShapes.bytes_inj (by unfold keyL at e; injection e))

theorem law : Keyed Tryz.prog 9 := string_keyed Tryz.underlying9

theorem key_of {u : ByteArray} (h : u.size ≤ maxLen) : keyOf Tryz.prog 9 (.string u) = some (keyL u) := Go.WideMaps.keyOf_string_mk Tryz.underlying9 h

/-- A map from words, in block b: what it has at each; how many it has. -/
def MapIs (w : World) (b : Nat) (f : ByteArray → Option Value) (n : Nat) : Prop :=
  ∃ D : DataW Value, w.ownsMap Tryz.prog 9 rawElem b n D ∧ Maps.size D = n ∧ ∀ u, u.size ≤ maxLen → (Maps.has D (keyL u) = (f u).isSome ∧ ∀ z v, f u = some v → D.atKey (keyL u) z = .held v)

section
variable {w : World} {b n : Nat} {f : ByteArray → Option Value}

theorem mapIs_made (w : World) : MapIs (w.alloc (.map #[] 0)) w.heap.size (fun _ => none) 0 :=
  ⟨.map [], World.ownsMap_made w _ _ _, rfl, fun u _ => ⟨rfl, fun z v h => by simp at h⟩⟩

theorem MapIs.lt (h : MapIs w b f n) : b < w.heap.size := let ⟨_, h1, _⟩ := h; h1.lt

theorem MapIs.of_block {w' : World} (h : MapIs w b f n) (hb : w'.heap[b]? = w.heap[b]?) : MapIs w' b f n := by
  obtain ⟨D, ⟨es, clock, h1, F, hs, hD⟩, h2, h3⟩ := h
  exact ⟨D, ⟨es, clock, hb.trans h1, F, hs, hD⟩, h2, h3⟩

theorem MapIs.keep {w' : World} {M : Nat → Nat → Prop} (h : MapIs w b f n) (hc : Chg M w w') (hM : ∀ i, ¬ M b i) : MapIs w' b f n := h.of_block (hc.block b h.lt hM)

theorem MapIs.congr {g : ByteArray → Option Value} (h : MapIs w b f n) (hg : ∀ u, f u = g u) : MapIs w b g n := by
  obtain rfl : f = g := funext hg
  exact h

theorem MapIs.look (h : MapIs w b f n) {t e : TypeId} (ht : Tryz.prog.underlying t = some (.map 9 e)) {z : Value} (hz : (zeroValue e).run Tryz.prog w = .ok z w) {u : ByteArray} (hu : u.size ≤ maxLen) :
    (Instr.lookup t (.map (some b)) (.string u) true).run Tryz.prog w = .ok (.tuple #[(f u).getD z, .bool (f u).isSome]) w := by
  obtain ⟨D, h1, _, h3⟩ := h
  obtain ⟨v, ps, hrun, hv⟩ := h1.look_ok law ht hz (zd := .held z) (zp := []) rfl (key_of hu)
  obtain ⟨g1, g2⟩ := h3 u hu
  rw [hrun, g1]
  simp only [rawElem, Option.some.injEq, Prod.mk.injEq] at hv
  cases hf : f u with
  | some x =>
    have := hv.1.trans (g2 (.held z) x hf)
    have e2 : v = x := by injection this
    subst e2
    rfl
  | none =>
    rw [hf] at g1
    have := hv.1.trans (atKey_of_not_has g1 _)
    have e2 : v = z := by injection this
    subst e2
    rfl

theorem MapIs.look1 (h : MapIs w b f n) {t e : TypeId} (ht : Tryz.prog.underlying t = some (.map 9 e)) {z : Value} (hz : (zeroValue e).run Tryz.prog w = .ok z w) {u : ByteArray} (hu : u.size ≤ maxLen) :
    (Instr.lookup t (.map (some b)) (.string u) false).run Tryz.prog w = .ok ((f u).getD z) w := by
  obtain ⟨D, h1, _, h3⟩ := h
  obtain ⟨v, ps, hrun, hv⟩ := h1.lookup law ht hz (zd := .held z) (zp := []) rfl (key_of hu)
  obtain ⟨g1, g2⟩ := h3 u hu
  rw [hrun]
  simp only [rawElem, Option.some.injEq, Prod.mk.injEq] at hv
  cases hf : f u with
  | some x =>
    have := hv.1.trans (g2 (.held z) x hf)
    have e2 : v = x := by injection this
    subst e2
    rfl
  | none =>
    rw [hf] at g1
    have := hv.1.trans (atKey_of_not_has g1 _)
    have e2 : v = z := by injection this
    subst e2
    rfl

theorem MapIs.len (h : MapIs w b f n) {t e : TypeId} (ht : Tryz.prog.underlying t = some (.map 9 e)) (ty : TypeId) : (Builtin.len_ #[t] ty #[.map (some b)]).run Tryz.prog w = .ok (.int .i64 n) w := by
  obtain ⟨D, h1, h2, _⟩ := h
  rw [h1.len ht, h2]

def updF (f : ByteArray → Option Value) (u : ByteArray) (v : Value) : ByteArray → Option Value := fun x => if x = u then some v else f x

theorem turned_chg {w' : World} (h : w.mapTurned w' b) : Chg (fun k _ => k = b) w w' := by
  have hg := h.grown
  have hf := h.frozen
  obtain ⟨es, clock, es', clock', hb, rfl⟩ := h
  have ho : ∀ k, k ≠ b → (setBlock w b (.map es' clock')).heap[k]? = w.heap[k]? := fun k hk => heap_setBlock_other hb _ hk
  refine ⟨rfl, rfl, rfl, hg.size, fun k _ hk => ho k (fun e => hk 0 e), fun k i _ hk => ?_, fun k i _ => hf _, fun k _ => ?_⟩
  · unfold World.cell?
    rw [ho k hk]
  · by_cases e : k = b
    · subst e
      unfold World.shape?
      rw [hb, heap_setBlock_same hb]
    · exact shape_of_block (ho k e)

theorem MapIs.put (h : MapIs w b f n) {t e : TypeId} (ht : Tryz.prog.underlying t = some (.map 9 e)) (hn : n < maxLen) {u : ByteArray} (hu : u.size ≤ maxLen) (v : Value) :
    ∃ w', (Instr.mapUpdate t (.map (some b)) (.string u) v).run Tryz.prog w = .ok () w' ∧ MapIs w' b (updF f u v) (if (f u).isSome then n else n + 1) ∧ Chg (fun k _ => k = b) w w' := by
  obtain ⟨D, h1, h2, h3⟩ := h
  obtain ⟨w', hrun, h4, h5⟩ := h1.store law ht hn (val := v) (d := .held v) (ps := []) (key_of hu) rfl
  have hk : WideAt.IsKeyLit (keyL u) := trivial
  have hsz : Maps.size (D.put (keyL u) (.held v)) = if (f u).isSome then n else n + 1 := by
    rw [size_put (h1.tidy law), (h3 u hu).1, h2]
  refine ⟨w', hrun, ⟨D.put (keyL u) (.held v), ?_, hsz, fun x hx => ?_⟩, turned_chg h5⟩
  · obtain ⟨es, clock, q1, q2, q3, q4⟩ := h4
    refine ⟨es, clock, q1, q2, ?_, q4⟩
    rw [← hsz, q4]
    simp [Maps.size, length_sorted]
  · unfold updF
    by_cases e : x = u
    · subst e
      rw [if_pos rfl]
      exact ⟨by rw [has_put_same h1.isMap hk]; rfl, fun z y hy => by rw [atKey_put_same h1.isMap hk]; simp at hy; rw [hy]⟩
    · rw [if_neg e, has_put_other (keyL_ne e)]
      exact ⟨(h3 x hx).1, fun z y hy => by rw [atKey_put_other (keyL_ne e)]; exact (h3 x hx).2 z y hy⟩
end
end Go.Proofs.YtfhkfnoajbbfdabGreatDoor

/- Which cell; which operation. -/
namespace Go.Proofs.YtfhkfnoajbbfdabGreatDoor
open Go.RowKit

def zPV : PV := ⟨ByteArray.empty, 0⟩
def wAt : ByteArray := ⟨#[97, 116]⟩

def gAt : List ByteArray → Option (PV × List ByteArray)
  | [] => some (zPV, [])
  | u :: ws => if u = wAt then gPV ws else none

/-- The signs of the operations. -/
def signV (u : ByteArray) : Option Nat := [(⟨#[43]⟩ : ByteArray), ⟨#[45]⟩, ⟨#[42]⟩, ⟨#[47]⟩, ⟨#[37]⟩, ⟨#[38]⟩, ⟨#[124]⟩, ⟨#[94]⟩, ⟨#[60, 60]⟩, ⟨#[62, 62]⟩, ⟨#[60]⟩, ⟨#[61, 61]⟩].findIdx? (· == u)

def signF (u : ByteArray) : Option Value := (signV u).map fun k => .int .i64 k

def gOp : List ByteArray → Option (Nat × List ByteArray)
  | [] => none
  | u :: ws => (signV u).map fun k => (k, ws)

section
variable {w : World} {bl bw br bs : Nat} {n : Int} {ws ws1 : List ByteArray}

theorem below_drew (B : Nat) (w : World) : Below B w w.drew := ⟨rfl, rfl, rfl, Nat.le_refl _, fun _ _ => rfl⟩

theorem gPV_sz {x : PV} (hv : gPV ws = some (x, ws1)) (hz : SzOk ws) : SzOk ws1 := by
  cases ws with
  | nil => simp [gPV] at hv
  | cons u ws =>
    simp only [gPV] at hv
    split at hv
    · simp at hv; exact hv.2 ▸ hz.tail
    · simp at hv
      obtain ⟨_, _, _, rfl⟩ := hv
      exact hz.tail

theorem gNm_sz {x : ByteArray} (hv : gNm ws = some (x, ws1)) (hz : SzOk ws) : SzOk ws1 := by
  cases ws with
  | nil => simp [gNm] at hv
  | cons u ws =>
    simp only [gNm] at hv
    split at hv
    · simp at hv; exact hv.2 ▸ hz.tail
    · simp at hv

theorem gOp_sz {k : Nat} (hv : gOp ws = some (k, ws1)) (hz : SzOk ws) : SzOk ws1 := by
  cases ws with
  | nil => simp [gOp] at hv
  | cons u ws =>
    simp [gOp] at hv
    obtain ⟨_, _, _, rfl⟩ := hv
    exact hz.tail

set_option maxRecDepth 100000 in
set_option maxHeartbeats 1000000 in
theorem readAt_tot (h : LineAt w bl n bw ws) (hE : Hid (Env w)) (hbl : 10 ≤ bl) (hz : SzOk ws) :
    Calls Tryz.prog 131 #[ptr bl] w fun e w' => Rds bl n bw w ((gAt ws).map fun p => (pvV p.1, p.2)) e w' := by
  have hlt := h.lt
  have hltw := h.ltw
  have bel : Below w.heap.size w (pvW w) := (Below.refl _ w).alloc (Nat.le_refl _) _
  have H := hid (h.below bel)
  have E1 := hid (hE.out.below bel)
  have A0 := hid ((Chg.refl (lineM bl) w).alloc (.cells #[.string ⟨#[]⟩, .int .i64 0] 302))
  have hq := H.out
  obtain ⟨o, cap, hl, hs, _⟩ := hq.wds
  clear h bel hq hl
  cases ws with
  | nil =>
    simp only [List.length_nil] at hs
    go_enter Tryz.func131, Tryz.ntmps131
    go_wp2_with (go_at_call 121; go_in)
    refine ⟨rfl, .agg #[.string ByteArray.empty, .int .i64 0], ?_, rfl, H.out, A0.out⟩
    simp [results, Tryz.results131, go_sem]
    rfl
  | cons u ws =>
    simp only [List.length_cons] at hs
    by_cases hu : u = wAt
    · subst hu
      have e : gAt (wAt :: ws) = gPV ws := by simp [gAt]
      rw [e]
      cases hg : gPV ws with
      | some p =>
        obtain ⟨x, ws1⟩ := p
        go_enter Tryz.func131, Tryz.ntmps131
        go_wp2_with (first | (go_at_call 121; go_in) | fail)
        refine (word_ok H.out hz.len).mono ?_
        rintro e w1 ⟨rfl, h1, c1⟩
        have H1 := hid h1
        have C1 := hid c1
        clear h1 c1
        unfold wAt
        go_wp2_with fail
        have k := readPV_tot H1.out (E1.out.line C1.out hbl) hbl hz.tail
        rw [hg] at k
        refine k.mono ?_
        rintro e w2 ⟨rfl, h2, c2⟩
        have H2 := hid h2
        have hp := pv_res hlt (C1.out.trans c2)
        have HP := hid hp
        obtain ⟨d0, d1, g0, g1, gl, _⟩ := hp
        clear h2 c2 k C1 H1
        unfold pvV
        go_wp2
        obtain ⟨z0, z1, z2, z3⟩ := HP.out.done (.string x.name) (.int .i64 x.num)
        refine ⟨rfl, .agg #[.string x.name, .int .i64 x.num], ?_, rfl, H2.out.done hlt hltw z3, z2⟩
        clear z2 z3
        generalize (w2.setCell ⟨w.heap.size, 0, none⟩ (.string x.name)).setCell ⟨w.heap.size, 1, none⟩ (.int .i64 x.num) = W' at *
        simp [results, Tryz.results131, go_sem, z0, z1]
      | none =>
        go_enter Tryz.func131, Tryz.ntmps131
        go_wp2_with (first | (go_at_call 121; go_in) | fail)
        refine (word_ok H.out hz.len).mono ?_
        rintro e w1 ⟨rfl, h1, c1⟩
        have H1 := hid h1
        have C1 := hid c1
        clear h1 c1
        unfold wAt
        go_wp2_with fail
        have k := readPV_tot H1.out (E1.out.line C1.out hbl) hbl hz.tail
        rw [hg] at k
        refine k.mono ?_
        intro e w3 h3
        obtain ⟨bf, rfl, h4⟩ := Fails.after (Fails.after h3 C1.out) A0.out
        exact ⟨rfl, bf, rfl, h4⟩
    · have e : gAt (u :: ws) = none := by simp [gAt, hu]
      rw [e]
      have hne := ba_ne hu
      rw [show wAt.toList = [97, 116] from by rw [ByteArray.toList_eq]; rfl] at hne
      go_enter Tryz.func131, Tryz.ntmps131
      go_wp2_with (first | (go_at_call 121; go_in) | fail)
      refine (word_ok H.out hz.len).mono ?_
      rintro e w1 ⟨rfl, h1, c1⟩
      have H1 := hid h1
      have C1 := hid c1
      clear h1 c1
      go_wp2_with fail
      refine (fail_any H1.out 2).mono ?_
      intro e w3 h3
      obtain ⟨bf, rfl, h4⟩ := (h3.after C1.out).after A0.out
      exact ⟨rfl, bf, rfl, h4⟩

theorem zeroOp (w : World) : (zeroValue 220).run Tryz.prog w = .ok (.int .i64 0) w := by kernel_rfl

theorem look_sign {W : World} (h : MapIs W bs signF 12) {u : ByteArray} (hu : u.size ≤ maxLen) {x : Option Value} (hx : signF u = x) : (Instr.lookup 142 (.map (some bs)) (.string u) true).run Tryz.prog W = .ok (.tuple #[x.getD (.int .i64 0), .bool x.isSome]) W := by
  rw [← hx]
  exact h.look Tryz.underlying142 (zeroOp W) hu

set_option maxRecDepth 100000 in
set_option maxHeartbeats 1000000 in
theorem readOp_tot (h : LineAt w bl n bw ws) (hz : SzOk ws) (hc : w.cell? ⟨br, 4, none⟩ = some (.map (some bs))) (hne : br ≠ bl) (hm : MapIs w bs signF 12) (hnm : bs ≠ bl) :
    Calls Tryz.prog 176 #[ptr br, ptr bl] w fun e w' => Rds bl n bw w ((gOp ws).map fun p => (.int .i64 p.1, p.2)) e w' := by
  have H := hid (h.below (w' := w.drew) (below_drew _ w))
  have HM := hid hm
  have A0 := hid ((Chg.refl (lineM bl) w).drew)
  clear h hm
  cases ws with
  | nil =>
    go_enter Tryz.func176, Tryz.ntmps176
    go_wp2_with fail
    refine wp_region_any (by kernel_rfl) ?_
    change wpAny _ _ _ _ _ _ _ (World.drew _)
    refine wpAny_take (i := 0) (v := ptr br) rfl (by kernel_rfl) (by kernel_rfl) (by kernel_rfl) (fun _ _ _ h => h) (Or.inl ⟨by rfl, fun w => by go_simp⟩) ?_
    refine wpAny_take (i := 1) (v := ptr br) rfl (by kernel_rfl) (by kernel_rfl) (by kernel_rfl) (fun _ _ _ h => h) (Or.inl ⟨by rfl, fun w => by go_simp⟩) ?_
    refine wpAny_take (i := 2) (v := .pointer (some ⟨br, 4, none⟩)) rfl (by kernel_rfl) (by kernel_rfl) (by kernel_rfl) (fun _ _ _ h => h) (Or.inl ⟨by rfl, fun w => by go_simp⟩) ?_
    refine wpAny_take (i := 4) (v := ptr bl) rfl (by kernel_rfl) (by kernel_rfl) (by kernel_rfl) (fun _ _ _ h => h) (Or.inl ⟨by rfl, fun w => by go_simp⟩) ?_
    refine wpAny_ready (rs := [3, 5]) (by kernel_rfl) (by simp) ?_
    refine AllReady.cons rfl (fun K hK => ?_) ?_
    · go_simp
      refine hK _ _ ?_
      clear hK K
      refine wpAny_ready (rs := [5]) (by kernel_rfl) (by simp) ?_
      refine AllReady.cons rfl (fun K hK => ?_) AllReady.nil
      go_simp
      refine (word_none H.out).mono ?_
      intro e w3 h3
      obtain ⟨bf, rfl, h4⟩ := h3.after A0.out
      exact ⟨rfl, bf, rfl, h4⟩
    · refine AllReady.cons rfl (fun K hK => ?_) AllReady.nil
      go_simp
      refine (word_none H.out).mono ?_
      intro e w3 h3
      obtain ⟨bf, rfl, h4⟩ := h3.after A0.out
      exact ⟨rfl, bf, rfl, h4⟩
  | cons u ws =>
    have hu : u.size ≤ maxLen := by have := hz.head; unfold maxLen; omega
    cases hr : signV u with
    | some r =>
      have e : ((gOp (u :: ws)).map fun p => ((.int .i64 p.1 : Value), p.2)) = some (.int .i64 r, ws) := by simp [gOp, hr]
      rw [e]
      have HLK := hid (fun W (h : MapIs W bs signF 12) => look_sign (W := W) h hu (x := some (.int .i64 r)) (by simp [signF, hr]))
      simp only [Option.getD_some, Option.isSome_some] at HLK
      go_enter Tryz.func176, Tryz.ntmps176
      go_wp2_with fail
      go_region_law (go_simp; go_at_call 85; refine (word_ok H.out hz.len).mono ?_; rintro e w1 ⟨rfl, h1, c1⟩; have hlk := HLK.out w1 (HM.out.keep (A0.out.trans c1) (fun i e => hnm e.1)); have hcw := ((A0.out.trans c1).cell br 4 (World.block_lt_of_cell? _ _ hc) (fun e => hne e.1)).trans hc; have H1 := hid h1; have C1 := hid c1; clear h1 c1)
      all_goals
        go_wp2
        go_ret
        exact ⟨rfl, H1.out, A0.out.trans C1.out⟩
    | none =>
      have e : ((gOp (u :: ws)).map fun p => ((.int .i64 p.1 : Value), p.2)) = none := by simp [gOp, hr]
      rw [e]
      have HLK := hid (fun W (h : MapIs W bs signF 12) => look_sign (W := W) h hu (x := none) (by simp [signF, hr]))
      simp only [Option.getD_none, Option.isSome_none] at HLK
      go_enter Tryz.func176, Tryz.ntmps176
      go_wp2_with fail
      go_region_law (go_simp; go_at_call 85; refine (word_ok H.out hz.len).mono ?_; rintro e w1 ⟨rfl, h1, c1⟩; have hlk := HLK.out w1 (HM.out.keep (A0.out.trans c1) (fun i e => hnm e.1)); have hcw := ((A0.out.trans c1).cell br 4 (World.block_lt_of_cell? _ _ hc) (fun e => hne e.1)).trans hc; have H1 := hid h1; have C1 := hid c1; clear h1 c1)
      all_goals
        go_wp2_with fail
        refine (fail_any H1.out 2).mono ?_
        intro e w3 h3
        obtain ⟨bf, rfl, h4⟩ := (h3.after C1.out).after A0.out
        exact ⟨rfl, bf, rfl, h4⟩
end
end Go.Proofs.YtfhkfnoajbbfdabGreatDoor

/- The readers of a program's words, each way. -/
namespace Go.Proofs.YtfhkfnoajbbfdabGreatDoor
open Go.RowKit

/-- A statement's line: a set, a set with an operation, a get, a put, an out, a block, an if, a loop. -/
abbrev St := (ByteArray × PV) ⊕ (ByteArray × Nat × PV × PV) ⊕ (ByteArray × ByteArray × PV) ⊕ (ByteArray × PV × PV) ⊕ PV ⊕ Unit ⊕ PV ⊕ Int
abbrev St.set (to : ByteArray) (a : PV) : St := .inl (to, a)
abbrev St.op (to : ByteArray) (o : Nat) (a b : PV) : St := .inr (.inl (to, o, a, b))
abbrev St.get (to of : ByteArray) (a : PV) : St := .inr (.inr (.inl (to, of, a)))
abbrev St.put (of : ByteArray) (a b : PV) : St := .inr (.inr (.inr (.inl (of, a, b))))
abbrev St.out (a : PV) : St := .inr (.inr (.inr (.inr (.inl a))))
abbrev St.atomic : St := .inr (.inr (.inr (.inr (.inr (.inl ())))))
abbrev St.iff (a : PV) : St := .inr (.inr (.inr (.inr (.inr (.inr (.inl a))))))
abbrev St.loop (n : Int) : St := .inr (.inr (.inr (.inr (.inr (.inr (.inr n))))))

def gSet (ws : List ByteArray) : Option (St × List ByteArray) := (gNm ws).bind fun p => (gPV p.2).bind fun q => match q.2 with
  | [] => some (St.set p.1 q.1, [])
  | u :: us => (gOp (u :: us)).bind fun o => (gPV o.2).map fun r => (St.op p.1 o.1 q.1 r.1, r.2)

section
variable {w : World} {bl bw br bs : Nat} {n : Int} {ws ws1 : List ByteArray} {x : ByteArray} {y : PV} {k : Nat}

theorem nm_ok (h : LineAt w bl n bw ws) (hz : SzOk ws) (hv : gNm ws = some (x, ws1)) : Calls Tryz.prog 128 #[ptr bl] w fun e w' => e = .returned (.string x) ∧ LineAt w' bl n bw ws1 ∧ Chg (lineM bl) w w' := by
  have := readName_tot h hz
  rw [hv] at this
  exact this
theorem nm_no (h : LineAt w bl n bw ws) (hz : SzOk ws) (hv : gNm ws = none) : Calls Tryz.prog 128 #[ptr bl] w fun e w' => Fails 2 n bl w e w' := by
  have := readName_tot h hz
  rw [hv] at this
  exact this
theorem pv_ok (h : LineAt w bl n bw ws) (hE : Env w) (hbl : 10 ≤ bl) (hz : SzOk ws) (hv : gPV ws = some (y, ws1)) : Calls Tryz.prog 132 #[ptr bl] w fun e w' => e = .returned (.agg #[.string y.name, .int .i64 y.num]) ∧ LineAt w' bl n bw ws1 ∧ Chg (lineM bl) w w' := by
  have := readPV_tot h hE hbl hz
  rw [hv] at this
  exact this
theorem pv_no (h : LineAt w bl n bw ws) (hE : Env w) (hbl : 10 ≤ bl) (hz : SzOk ws) (hv : gPV ws = none) : Calls Tryz.prog 132 #[ptr bl] w fun e w' => Fails 2 n bl w e w' := by
  have := readPV_tot h hE hbl hz
  rw [hv] at this
  exact this
theorem at_ok (h : LineAt w bl n bw ws) (hE : Env w) (hbl : 10 ≤ bl) (hz : SzOk ws) (hv : gAt ws = some (y, ws1)) : Calls Tryz.prog 131 #[ptr bl] w fun e w' => e = .returned (.agg #[.string y.name, .int .i64 y.num]) ∧ LineAt w' bl n bw ws1 ∧ Chg (lineM bl) w w' := by
  have := readAt_tot h hE hbl hz
  rw [hv] at this
  exact this
theorem at_no (h : LineAt w bl n bw ws) (hE : Env w) (hbl : 10 ≤ bl) (hz : SzOk ws) (hv : gAt ws = none) : Calls Tryz.prog 131 #[ptr bl] w fun e w' => Fails 2 n bl w e w' := by
  have := readAt_tot h hE hbl hz
  rw [hv] at this
  exact this
theorem op_ok (h : LineAt w bl n bw ws) (hz : SzOk ws) (hc : w.cell? ⟨br, 4, none⟩ = some (.map (some bs))) (hne : br ≠ bl) (hm : MapIs w bs signF 12) (hnm : bs ≠ bl) (hv : gOp ws = some (k, ws1)) : Calls Tryz.prog 176 #[ptr br, ptr bl] w fun e w' => e = .returned (.int .i64 k) ∧ LineAt w' bl n bw ws1 ∧ Chg (lineM bl) w w' := by
  have := readOp_tot h hz hc hne hm hnm
  rw [hv] at this
  exact this
theorem op_no (h : LineAt w bl n bw ws) (hz : SzOk ws) (hc : w.cell? ⟨br, 4, none⟩ = some (.map (some bs))) (hne : br ≠ bl) (hm : MapIs w bs signF 12) (hnm : bs ≠ bl) (hv : gOp ws = none) : Calls Tryz.prog 176 #[ptr br, ptr bl] w fun e w' => Fails 2 n bl w e w' := by
  have := readOp_tot h hz hc hne hm hnm
  rw [hv] at this
  exact this

theorem gAt_sz (hv : gAt ws = some (y, ws1)) (hz : SzOk ws) : SzOk ws1 := by
  cases ws with
  | nil => simp [gAt] at hv; exact hv.2 ▸ hz
  | cons u ws =>
    simp only [gAt] at hv
    split at hv
    · exact gPV_sz hv hz.tail
    · simp at hv

/-- A line's words, asked whether one is left. -/
theorem LineAt.more (h : LineAt w bl n bw ws) : ∃ o cap, w.cell? ⟨bl, 1, none⟩ = some (.slice (some ⟨bw, o, none⟩) ws.length cap) := let ⟨o, cap, _, hs, _⟩ := h.wds; ⟨o, cap, hs⟩

/-- A value in a block of its own behind a reader. -/
abbrev pvB (W : World) (y : PV) : World := W.alloc (.cells #[.string y.name, .int .i64 y.num] 302)

set_option maxRecDepth 100000 in
set_option maxHeartbeats 1000000 in
theorem readSet_nm (h : LineAt w bl n bw ws) (hz : SzOk ws) (hv : gNm ws = none) : Calls Tryz.prog 130 #[ptr br, ptr bl] w fun e w' => Fails 2 n bl w e w' := by
  have K := hid (nm_no h hz hv)
  clear h
  go_enter Tryz.func130, Tryz.ntmps130
  go_wp2_with fail
  refine K.out.mono ?_
  rintro e w1 ⟨bf, rfl, h1⟩
  exact ⟨rfl, bf, rfl, h1⟩

set_option maxRecDepth 100000 in
set_option maxHeartbeats 1000000 in
theorem readSet_pv (h : LineAt w bl n bw ws) (hE : Hid (Env w)) (hbl : 10 ≤ bl) (hz : SzOk ws) (hv : gNm ws = some (x, ws1)) (hv2 : gPV ws1 = none) : Calls Tryz.prog 130 #[ptr br, ptr bl] w fun e w' => Fails 2 n bl w e w' := by
  have K := hid (nm_ok h hz hv)
  have hz1 := gNm_sz hv hz
  clear h
  go_enter Tryz.func130, Tryz.ntmps130
  go_wp2_with fail
  refine K.out.mono ?_
  rintro e w1 ⟨rfl, h1, c1⟩
  have K2 := hid (pv_no h1 (hE.out.line c1 hbl) hbl hz1 hv2)
  have C1 := hid c1
  clear h1 c1 K
  go_wp2_with fail
  refine K2.out.mono ?_
  intro e w3 h3
  obtain ⟨bf, rfl, h4⟩ := Fails.after h3 C1.out
  exact ⟨rfl, bf, rfl, h4⟩

set_option maxRecDepth 100000 in
set_option maxHeartbeats 1000000 in
theorem readSet_set (h : LineAt w bl n bw ws) (hE : Hid (Env w)) (hbl : 10 ≤ bl) (hz : SzOk ws) (hv : gNm ws = some (x, ws1)) (hv2 : gPV ws1 = some (y, [])) : Calls Tryz.prog 130 #[ptr br, ptr bl] w fun e w' => e = .returned (.iface 328 (.agg #[.string x, .string y.name, .int .i64 y.num])) ∧ LineAt w' bl n bw [] ∧ Chg (lineM bl) w w' := by
  have K := hid (nm_ok h hz hv)
  have hz1 := gNm_sz hv hz
  clear h
  go_enter Tryz.func130, Tryz.ntmps130
  go_wp2_with fail
  refine K.out.mono ?_
  rintro e w1 ⟨rfl, h1, c1⟩
  have K2 := hid (pv_ok h1 (hE.out.line c1 hbl) hbl hz1 hv2)
  have C1 := hid c1
  clear h1 c1 K
  go_wp2_with fail
  refine K2.out.mono ?_
  rintro e w2 ⟨rfl, h2, c2⟩
  have bel : Below w2.heap.size w2 (pvB w2 y) := (Below.refl _ w2).alloc (Nat.le_refl _) _
  have H3 := hid (h2.below bel)
  have C3 := hid ((C1.out.trans c2).alloc (.cells #[.string y.name, .int .i64 y.num] 302))
  obtain ⟨o, cap, hs⟩ := (h2.below bel).more
  have hlt := h2.lt
  simp only [List.length_nil] at hs
  clear h2 c2 C1 K2 bel
  go_wp2_with (go_at_call 121; go_in)
  go_ret
  exact ⟨rfl, H3.out, C3.out⟩
end
end Go.Proofs.YtfhkfnoajbbfdabGreatDoor

/- A set with an operation. -/
namespace Go.Proofs.YtfhkfnoajbbfdabGreatDoor
open Go.RowKit

section
variable {w : World} {bl bw br bs : Nat} {n : Int} {ws ws1 ws3 ws4 us : List ByteArray} {x u : ByteArray} {y z : PV} {k : Nat}

/-- What the readers of operations ask of the reader of a program. -/
structure SignsAt (w : World) (br bs bl : Nat) : Prop where
  c : w.cell? ⟨br, 4, none⟩ = some (.map (some bs))
  ne : br ≠ bl
  m : MapIs w bs signF 12
  nm : bs ≠ bl

theorem SignsAt.keep {w' : World} (h : SignsAt w br bs bl) (hc : Chg (lineM bl) w w') : SignsAt w' br bs bl :=
  ⟨(hc.cell br 4 (World.block_lt_of_cell? _ _ h.c) (fun e => h.ne e.1)).trans h.c, h.ne, h.m.keep hc (fun _ e => h.nm e.1), h.nm⟩

set_option maxRecDepth 100000 in
set_option maxHeartbeats 1000000 in
theorem readSet_noop (h : LineAt w bl n bw ws) (hE : Hid (Env w)) (hbl : 10 ≤ bl) (hz : SzOk ws) (hS : Hid (SignsAt w br bs bl)) (hv : gNm ws = some (x, ws1)) (hv2 : gPV ws1 = some (y, u :: us)) (hv3 : gOp (u :: us) = none) : Calls Tryz.prog 130 #[ptr br, ptr bl] w fun e w' => Fails 2 n bl w e w' := by
  have K := hid (nm_ok h hz hv)
  have hz1 := gNm_sz hv hz
  have hz2 := gPV_sz hv2 hz1
  clear h
  go_enter Tryz.func130, Tryz.ntmps130
  go_wp2_with fail
  refine K.out.mono ?_
  rintro e w1 ⟨rfl, h1, c1⟩
  have K2 := hid (pv_ok h1 (hE.out.line c1 hbl) hbl hz1 hv2)
  have C1 := hid c1
  clear h1 c1 K
  go_wp2_with fail
  refine K2.out.mono ?_
  rintro e w2 ⟨rfl, h2, c2⟩
  have bel : Below w2.heap.size w2 (pvB w2 y) := (Below.refl _ w2).alloc (Nat.le_refl _) _
  have C3 := hid ((C1.out.trans c2).alloc (.cells #[.string y.name, .int .i64 y.num] 302))
  have h3 := h2.below bel
  have S3 := hS.out.keep C3.out
  have K3 := hid (op_no h3 hz2 S3.c S3.ne S3.m S3.nm hv3)
  obtain ⟨o, cap, hs⟩ := h3.more
  have hlt := h2.lt
  simp only [List.length_cons] at hs
  clear h2 c2 C1 K2 bel h3 S3
  go_wp2_with (first | (go_at_call 121; go_in) | fail)
  refine K3.out.mono ?_
  intro e w3 h3
  obtain ⟨bf, rfl, h4⟩ := Fails.after h3 C3.out
  exact ⟨rfl, bf, rfl, h4⟩

set_option maxRecDepth 100000 in
set_option maxHeartbeats 1000000 in
theorem readSet_nob (h : LineAt w bl n bw ws) (hE : Hid (Env w)) (hbl : 10 ≤ bl) (hz : SzOk ws) (hS : Hid (SignsAt w br bs bl)) (hv : gNm ws = some (x, ws1)) (hv2 : gPV ws1 = some (y, u :: us)) (hv3 : gOp (u :: us) = some (k, ws3)) (hv4 : gPV ws3 = none) : Calls Tryz.prog 130 #[ptr br, ptr bl] w fun e w' => Fails 2 n bl w e w' := by
  have K := hid (nm_ok h hz hv)
  have hz1 := gNm_sz hv hz
  have hz2 := gPV_sz hv2 hz1
  have hz3 := gOp_sz hv3 hz2
  clear h
  go_enter Tryz.func130, Tryz.ntmps130
  go_wp2_with fail
  refine K.out.mono ?_
  rintro e w1 ⟨rfl, h1, c1⟩
  have K2 := hid (pv_ok h1 (hE.out.line c1 hbl) hbl hz1 hv2)
  have C1 := hid c1
  clear h1 c1 K
  go_wp2_with fail
  refine K2.out.mono ?_
  rintro e w2 ⟨rfl, h2, c2⟩
  have bel : Below w2.heap.size w2 (pvB w2 y) := (Below.refl _ w2).alloc (Nat.le_refl _) _
  have C3 := hid ((C1.out.trans c2).alloc (.cells #[.string y.name, .int .i64 y.num] 302))
  have h3 := h2.below bel
  have S3 := hS.out.keep C3.out
  have K3 := hid (op_ok h3 hz2 S3.c S3.ne S3.m S3.nm hv3)
  obtain ⟨o, cap, hs⟩ := h3.more
  have hlt := h2.lt
  have d0 : (pvB w2 y).cell? ⟨w2.heap.size, 0, none⟩ = some (.string y.name) := World.cell?_alloc_new _ _ _ 0
  have d1 : (pvB w2 y).cell? ⟨w2.heap.size, 1, none⟩ = some (.int .i64 y.num) := World.cell?_alloc_new _ _ _ 1
  simp only [List.length_cons] at hs
  clear h2 c2 C1 K2 bel h3 S3
  go_wp2_with (first | (go_at_call 121; go_in) | fail)
  refine K3.out.mono ?_
  rintro e w4 ⟨rfl, h4, c4⟩
  have e0 := (c4.cell w2.heap.size 0 (World.block_lt_of_cell? _ _ d0) (fun e => by omega)).trans d0
  have e1 := (c4.cell w2.heap.size 1 (World.block_lt_of_cell? _ _ d0) (fun e => by omega)).trans d1
  have hE4 := hE.out.line (C3.out.trans c4) hbl
  have K4 := hid (pv_no (h4.below (w' := w4.drew) (below_drew _ w4)) (hE4.below (below_drew _ w4)) hbl hz3 hv4)
  have C4 := hid ((C3.out.trans c4).drew)
  clear h4 c4 hE4 K3 C3
  go_wp2_with fail
  refine wp_region_any (by kernel_rfl) ?_
  change wpAny _ _ _ _ _ _ _ (World.drew _)
  refine wpAny_take (i := 0) (v := .string x) rfl (by kernel_rfl) (by kernel_rfl) (by kernel_rfl) (fun _ _ _ h => h) (Or.inl ⟨by rfl, fun w => by go_simp⟩) ?_
  refine wpAny_take (i := 1) (v := .int .i64 k) rfl (by kernel_rfl) (by kernel_rfl) (by kernel_rfl) (fun _ _ _ h => h) (Or.inl ⟨by rfl, fun w => by go_simp⟩) ?_
  refine wpAny_take (i := 3) (v := ptr bl) rfl (by kernel_rfl) (by kernel_rfl) (by kernel_rfl) (fun _ _ _ h => h) (Or.inl ⟨by rfl, fun w => by go_simp⟩) ?_
  refine wpAny_ready (rs := [2, 4]) (by kernel_rfl) (by simp) ?_
  refine AllReady.cons rfl (fun K hK => ?_) ?_
  · go_simp
    refine hK _ _ ?_
    clear hK K
    refine wpAny_ready (rs := [4]) (by kernel_rfl) (by simp) ?_
    refine AllReady.cons rfl (fun K hK => ?_) AllReady.nil
    go_simp
    refine K4.out.mono ?_
    intro e w5 h5
    obtain ⟨bf, rfl, h6⟩ := h5.after C4.out
    exact ⟨rfl, bf, rfl, h6⟩
  · refine AllReady.cons rfl (fun K hK => ?_) AllReady.nil
    go_simp
    refine K4.out.mono ?_
    intro e w5 h5
    obtain ⟨bf, rfl, h6⟩ := h5.after C4.out
    exact ⟨rfl, bf, rfl, h6⟩

set_option maxRecDepth 100000 in
set_option maxHeartbeats 1000000 in
theorem readSet_op (h : LineAt w bl n bw ws) (hE : Hid (Env w)) (hbl : 10 ≤ bl) (hz : SzOk ws) (hS : Hid (SignsAt w br bs bl)) (hv : gNm ws = some (x, ws1)) (hv2 : gPV ws1 = some (y, u :: us)) (hv3 : gOp (u :: us) = some (k, ws3)) (hv4 : gPV ws3 = some (z, ws4)) : Calls Tryz.prog 130 #[ptr br, ptr bl] w fun e w' => e = .returned (.iface 332 (.agg #[.string x, .int .i64 k, .string y.name, .int .i64 y.num, .string z.name, .int .i64 z.num])) ∧ LineAt w' bl n bw ws4 ∧ Chg (lineM bl) w w' := by
  have K := hid (nm_ok h hz hv)
  have hz1 := gNm_sz hv hz
  have hz2 := gPV_sz hv2 hz1
  have hz3 := gOp_sz hv3 hz2
  clear h
  go_enter Tryz.func130, Tryz.ntmps130
  go_wp2_with fail
  refine K.out.mono ?_
  rintro e w1 ⟨rfl, h1, c1⟩
  have K2 := hid (pv_ok h1 (hE.out.line c1 hbl) hbl hz1 hv2)
  have C1 := hid c1
  clear h1 c1 K
  go_wp2_with fail
  refine K2.out.mono ?_
  rintro e w2 ⟨rfl, h2, c2⟩
  have bel : Below w2.heap.size w2 (pvB w2 y) := (Below.refl _ w2).alloc (Nat.le_refl _) _
  have C3 := hid ((C1.out.trans c2).alloc (.cells #[.string y.name, .int .i64 y.num] 302))
  have h3 := h2.below bel
  have S3 := hS.out.keep C3.out
  have K3 := hid (op_ok h3 hz2 S3.c S3.ne S3.m S3.nm hv3)
  obtain ⟨o, cap, hs⟩ := h3.more
  have hlt := h2.lt
  have d0 : (pvB w2 y).cell? ⟨w2.heap.size, 0, none⟩ = some (.string y.name) := World.cell?_alloc_new _ _ _ 0
  have d1 : (pvB w2 y).cell? ⟨w2.heap.size, 1, none⟩ = some (.int .i64 y.num) := World.cell?_alloc_new _ _ _ 1
  simp only [List.length_cons] at hs
  clear h2 c2 C1 K2 bel h3 S3
  go_wp2_with (first | (go_at_call 121; go_in) | fail)
  refine K3.out.mono ?_
  rintro e w4 ⟨rfl, h4, c4⟩
  have e0 := (c4.cell w2.heap.size 0 (World.block_lt_of_cell? _ _ d0) (fun e => by omega)).trans d0
  have e1 := (c4.cell w2.heap.size 1 (World.block_lt_of_cell? _ _ d0) (fun e => by omega)).trans d1
  have hE4 := hE.out.line (C3.out.trans c4) hbl
  have K4 := hid (pv_ok (h4.below (w' := w4.drew) (below_drew _ w4)) (hE4.below (below_drew _ w4)) hbl hz3 hv4)
  have C4 := hid ((C3.out.trans c4).drew)
  clear h4 c4 hE4 K3 C3
  go_wp2_with fail
  go_region_law (go_simp; go_at_call 132; refine K4.out.mono ?_; rintro e w5 ⟨rfl, h5, c5⟩; have g0 := (c5.cell w2.heap.size 0 (World.block_lt_of_cell? _ _ e0) (fun e => by omega)).trans e0; have g1 := (c5.cell w2.heap.size 1 (World.block_lt_of_cell? _ _ e0) (fun e => by omega)).trans e1; have H5 := hid h5; have C5 := hid c5; clear h5 c5)
  all_goals
    go_wp2
    go_ret
    exact ⟨rfl, H5.out, C4.out.trans C5.out⟩
end
end Go.Proofs.YtfhkfnoajbbfdabGreatDoor
