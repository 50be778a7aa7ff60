import Derived.Test.YtfhkfnoajbbfdabGreatDoorPart02
import Derived.Test.YtfhkfnoajbbfdabGreatDoorShelf
import Derived.Test.YtfhkfnoajbbfdabGreatDoorRows
import Derived.ProofKit
import Derived.LaidMore
import Derived.LaidSub
import Derived.OpenShut
import Derived.Lay
import Derived.Handed
import Derived.Stop.Joined
import Derived.Shelf.Vars
import Derived.RangeFuncNested
import Derived.RangeFuncBound
import Derived.RangeFuncCalls
import Derived.RangeFuncLeaves
import Derived.RangeFuncFrom
import Derived.Shelf.Abstract
import Derived.Shelf.RegionOpen
import Derived.WalkKit
import Derived.OwnWalkIn
import Derived.TacticsInMore
import Derived.LoopNIn
import Derived.LoopIn
import Derived.RegionIn
import Derived.Stop.RegionWithIn
namespace Go.Proofs.YtfhkfnoajbbfdabGreatDoor
open Go.RowKit

set_option maxRecDepth 100000 in
set_option maxHeartbeats 1000000 in
/-- A register's word. -/
theorem registerNamed_ok (w : World) (n : Nat) (hn : n < 8) :
    Calls Tryz.prog 172 #[.string ⟨#[114, UInt8.ofNat (48 + n)]⟩] w fun e w' => e = .returned (.tuple #[.int .i64 n, .bool true]) ∧ w' = w := by
  have hc : n = 0 ∨ n = 1 ∨ n = 2 ∨ n = 3 ∨ n = 4 ∨ n = 5 ∨ n = 6 ∨ n = 7 := by omega
  rcases hc with rfl | rfl | rfl | rfl | rfl | rfl | rfl | rfl
  all_goals
    go_enter Tryz.func172, Tryz.ntmps172
    go_wp2
    go_ret2
    exact ⟨rfl, rfl⟩

set_option maxRecDepth 100000 in
set_option maxHeartbeats 1000000 in
theorem registerNamed_size (w : World) (s : ByteArray) (hs : s.size ≠ 2) :
    Calls Tryz.prog 172 #[.string s] w fun e w' => e = .returned (.tuple #[.int .i64 0, .bool false]) ∧ w' = w := by
  have hs' : ¬ (s.size : Int) = 2 := by omega
  go_enter Tryz.func172, Tryz.ntmps172
  go_wp2
  go_ret2
  exact ⟨rfl, rfl⟩

set_option maxRecDepth 100000 in
set_option maxHeartbeats 1000000 in
theorem registerNamed_first (w : World) (a b : UInt8) (ha : a ≠ 114) :
    Calls Tryz.prog 172 #[.string ⟨#[a, b]⟩] w fun e w' => e = .returned (.tuple #[.int .i64 0, .bool false]) ∧ w' = w := by
  have ha' : ¬ (a.toNat : Int) = 114 := fun h => ha (UInt8.toNat_inj.1 (by simpa using Int.ofNat.inj h))
  go_enter Tryz.func172, Tryz.ntmps172
  go_wp2
  go_ret2
  exact ⟨rfl, rfl⟩

theorem ba_ne {u s : ByteArray} (h : u ≠ s) : (u.toList == s.toList) = false := by
  rw [ByteArray.toList_eq, ByteArray.toList_eq]
  cases hb : (u.data.toList == s.data.toList) with
  | false => rfl
  | true => exact absurd (Go.WideShapes.bytes_inj (by simpa using hb)) h

/-- The words of the operations, as they lie in memory. -/
def WordsAt (w : World) (wd : Nat → ByteArray) : Prop := ∀ j, j < 12 → w.cell? ⟨2, j, none⟩ = some (.string (wd j))

set_option maxRecDepth 100000 in
set_option maxHeartbeats 1000000 in
theorem named_none (w : World) (s : ByteArray) (wd : Nat → ByteArray) (hw : Hid (WordsAt w wd)) (hs : Hid (∀ j, j < 12 → wd j ≠ s)) :
    Calls Tryz.prog 122 #[.string s] w fun e w' => e = .returned (.tuple #[.int .i64 0, .bool false]) ∧ w' = w := by
  go_enter Tryz.func122, Tryz.ntmps122
  go_wp2
  go_loopw [5] (fun v wr => ∃ k : Nat, k ≤ 12 ∧ v = .int .i64 k ∧ wr = w) (fun v _ => 12 - (intOf v).toNat)
  case atStart => exact ⟨0, by omega, rfl, rfl⟩
  case round =>
    obtain ⟨k, hk, rfl, rfl⟩ := hrel
    by_cases hlt : k < 12
    · have hlt' : (k : Int) < 12 := by omega
      have hc := hw.out k hlt
      have hne := ba_ne (hs.out k hlt)
      generalize wd k = u at hc hne
      go_wp2
      go_roundw
      case rel => exact ⟨k + 1, by omega, by go_num, trivial⟩
      case measure => simp [intOf]; omega
    · have hlt' : ¬ (k : Int) < 12 := by omega
      go_wp2
      go_ret2
      exact ⟨rfl, rfl⟩

set_option maxRecDepth 100000 in
set_option maxHeartbeats 1000000 in
theorem named_at (w : World) (s : ByteArray) (wd : Nat → ByteArray) (hw : Hid (WordsAt w wd)) (n : Nat) (hn : n < 12) (hs : Hid (∀ j, j < n → wd j ≠ s)) (he : Hid (wd n = s)) :
    Calls Tryz.prog 122 #[.string s] w fun e w' => e = .returned (.tuple #[.int .i64 n, .bool true]) ∧ w' = w := by
  go_enter Tryz.func122, Tryz.ntmps122
  go_wp2
  go_loopw [5] (fun v wr => ∃ k : Nat, k ≤ n ∧ v = .int .i64 k ∧ wr = w) (fun v _ => 12 - (intOf v).toNat)
  case atStart => exact ⟨0, by omega, rfl, rfl⟩
  case round =>
    obtain ⟨k, hk, rfl, rfl⟩ := hrel
    have hlt : k < 12 := by omega
    have hlt' : (k : Int) < 12 := by omega
    have hc := hw.out k hlt
    by_cases hkn : k < n
    · have hne := ba_ne (hs.out k hkn)
      generalize wd k = u at hc hne
      go_wp2
      go_roundw
      case rel => exact ⟨k + 1, by omega, by go_num, trivial⟩
      case measure => simp [intOf]; omega
    · obtain rfl : k = n := by omega
      have hu := he.out
      rw [hu] at hc
      go_wp2
      go_ret2
      exact ⟨rfl, rfl⟩

theorem ba_some {t : ByteArray} (h0 : 0 < t.size) : t.toList.isEmpty = false := by
  rw [ByteArray.toList_eq]
  cases h : t.data.toList with
  | nil => have e : t.data.size = 0 := by rw [← Array.length_toList, h]; rfl
           exact absurd (show t.data.size = t.size from rfl) (by omega)
  | cons a l => rfl

/-- What is left of a word behind its sign. -/
def Digits (s t : ByteArray) : Prop := t = ⟨(Lib.trimPrefix s.data.toList [45]).toArray⟩

set_option maxRecDepth 100000 in
set_option maxHeartbeats 1000000 in
theorem numeral_ok (w : World) (s t : ByteArray) (ht : Hid (Digits s t)) (hm : t.size < 4294967281) (h0 : 0 < t.size) (hz : t[0].toNat ≠ 48 ∨ s = ⟨#[48]⟩) (hd : Hid (∀ j (h : j < t.size), 48 ≤ t[j].toNat ∧ t[j].toNat ≤ 57)) :
    Calls Tryz.prog 208 #[.string s] w fun e w' => e = .returned (.bool true) ∧ w' = w := by
  have hne := ba_some h0
  have hne' : ¬ t.toList = [] := fun h => by simp [h] at hne
  have h0' : (0 : Int) < (t.size : Int) := by omega
  have HT := ht.out
  unfold Digits at HT
  go_enter Tryz.func208, Tryz.ntmps208
  go_wp2_with fail
  refine (Tryz.strings_TrimPrefix s ⟨#[45]⟩ w).mono ?_
  rintro e w' ⟨rfl, rfl⟩
  change Hid _ at ht
  rw [show (⟨(Lib.trimPrefix s.data.toList (ByteArray.mk #[45]).data.toList).toArray⟩ : ByteArray) = t from HT.symm]
  clear HT ht
  rcases hz with hz | rfl
  all_goals go_wp2
  all_goals
    go_loopw [20] (fun v wr => ∃ k : Nat, k ≤ t.size ∧ v = .int .i64 k ∧ wr = w') (fun v _ => t.size - (intOf v).toNat)
    case atStart => exact ⟨0, by omega, rfl, rfl⟩
    case round =>
      obtain ⟨k, hk, rfl, rfl⟩ := hrel
      by_cases hlt : k < t.size
      · have hlt' : (k : Int) < (t.size : Int) := by omega
        have hq := hd.out k hlt
        have q1 : ¬ (t[k].toNat : Int) < 48 := by omega
        have q2 : ¬ (57 : Int) < (t[k].toNat : Int) := by omega
        go_wp2
        go_roundw
        case rel => exact ⟨k + 1, by omega, by go_num, trivial⟩
        case measure => simp [intOf]; omega
      · have hlt' : ¬ (k : Int) < (t.size : Int) := by omega
        go_wp2
        go_ret
        exact ⟨rfl, rfl⟩

set_option maxRecDepth 100000 in
set_option maxHeartbeats 1000000 in
/-- Nothing behind the sign. -/
theorem numeral_empty (w : World) (s t : ByteArray) (ht : Digits s t) (h0 : t.toList.isEmpty = true) :
    Calls Tryz.prog 208 #[.string s] w fun e w' => e = .returned (.bool false) ∧ w' = w := by
  have h0' : t.toList = [] := by simpa using h0
  unfold Digits at ht
  go_enter Tryz.func208, Tryz.ntmps208
  go_wp2_with fail
  refine (Tryz.strings_TrimPrefix s ⟨#[45]⟩ w).mono ?_
  rintro e w' ⟨rfl, rfl⟩
  rw [show (⟨(Lib.trimPrefix s.data.toList (ByteArray.mk #[45]).data.toList).toArray⟩ : ByteArray) = t from ht.symm]
  clear ht
  go_wp2
  go_ret
  exact ⟨rfl, rfl⟩

set_option maxRecDepth 100000 in
set_option maxHeartbeats 1000000 in
/-- A nought ahead. -/
theorem numeral_nought (w : World) (s t : ByteArray) (ht : Digits s t) (h0 : 0 < t.size) (hz : t[0].toNat = 48) (hs : s ≠ ⟨#[48]⟩) :
    Calls Tryz.prog 208 #[.string s] w fun e w' => e = .returned (.bool false) ∧ w' = w := by
  have hne := ba_some h0
  have hne' : ¬ t.toList = [] := fun h => by simp [h] at hne
  have h0' : (0 : Int) < (t.size : Int) := by omega
  have hz' : (t[0].toNat : Int) = 48 := by omega
  have hs' : (s.toList == [48]) = false := by
    have e := ba_ne hs
    rwa [show (ByteArray.mk #[48]).toList = [48] from by rw [ByteArray.toList_eq]] at e
  unfold Digits at ht
  go_enter Tryz.func208, Tryz.ntmps208
  go_wp2_with fail
  refine (Tryz.strings_TrimPrefix s ⟨#[45]⟩ w).mono ?_
  rintro e w' ⟨rfl, rfl⟩
  rw [show (⟨(Lib.trimPrefix s.data.toList (ByteArray.mk #[45]).data.toList).toArray⟩ : ByteArray) = t from ht.symm]
  clear ht
  go_wp2
  go_ret
  exact ⟨rfl, rfl⟩

/-- The words of the operations. -/
def opWords (j : Nat) : ByteArray := [⟨#[97, 100, 100]⟩, ⟨#[115, 117, 98]⟩, ⟨#[109, 117, 108]⟩, ⟨#[100, 105, 118]⟩, ⟨#[109, 111, 100]⟩, ⟨#[97, 110, 100]⟩, ⟨#[111, 114]⟩, ⟨#[120, 111, 114]⟩, ⟨#[115, 104, 108]⟩, ⟨#[115, 104, 114]⟩, ⟨#[108, 116]⟩, ⟨#[101, 113]⟩].getD j ⟨#[]⟩
end Go.Proofs.YtfhkfnoajbbfdabGreatDoor

/- What a row's first world gives: the words of the operations, the search's bound. -/
namespace Go.Proofs.YtfhkfnoajbbfdabGreatDoor
open Go.ChangeShapes Go.WideShapes Go.ChangeAt Go.WideMaps Go.WideElems Go.RowKit

theorem own : ownKnob Tryz.prog.godebug = none := by kernel_rfl
theorem gWords : Tryz.prog.globalNamed "commits/ops.words" = some 2 := by kernel_rfl
theorem tWords : (Tryz.prog.globals[2]?).map (·.type) = some 355 := by kernel_rfl

theorem maxLen_of {W : World} (h : W.ShapedOpen Tryz.prog) : ∃ m, W.cell? ⟨1, 0, none⟩ = some (.int .i64 m) :=
  cell_of_shapedOpen_int (zero := #[.int .i64 0]) (t := 3) h (of_decide_eq_true (by kernel_rfl)) (by kernel_rfl) rfl (by kernel_rfl) (by kernel_rfl) Tryz.underlying3

theorem words_of {W : World} (h : laidMet Tryz.prog [("commits/ops.words", Rows.laid_commits_ops_words)] W) : WordsAt W opWords := by
  obtain ⟨ps, ⟨g0, t0, cs0, f0, p0, q0, hg0, ht0, hv0, hd0, _, _⟩, _, _⟩ := h
  obtain rfl := Option.some.inj (gWords.symm.trans hg0)
  obtain rfl := Option.some.inj (tWords.symm.trans ht0)
  obtain ⟨xs, m1, rfl, hx1, hlen, hn3, hel⟩ := DataW.trod_array Tryz.underlying355 hd0
  simp only [Prod.mk.injEq] at hx1
  have hD : (DataW.agg (xs.map (·.1)) : DataW Unit) = DataW.agg ((List.range 12).map fun j => .lit (.string (opWords j).data.toList)) := hx1.1.symm.trans (by kernel_rfl)
  have hD' : xs.map (·.1) = (List.range 12).map fun j => DataW.lit (.string (opWords j).data.toList) := by injection hD
  have c9 : Tryz.prog.cellsOf 9 = 1 := by kernel_rfl
  intro j hj
  have h0 := hel j hj
  rw [c9] at h0
  obtain ⟨x, hx⟩ : ∃ x, xs[j]? = some x := ⟨_, List.getElem?_eq_getElem (by omega)⟩
  rw [hx] at h0
  obtain ⟨s, e1, e2, _⟩ := DataW.trod_string Tryz.underlying9 h0
  have e3 : (xs.map (·.1))[j]? = some x.1 := by simp [hx]
  rw [hD', e2] at e3
  simp [hj] at e3
  have e4 : opWords j = s := Go.WideShapes.bytes_inj (by simpa using e3)
  have e5 : (List.take 1 (List.drop (j * 1) cs0.toList))[0]? = some (.string s) := by rw [e1]; rfl
  simp at e5
  rw [e4]
  exact (World.var?_cell hg0 hv0 j).trans e5

theorem laid_words {W : World} {l : List (String × DataW Unit)} (hf : l.filter (fun x => x.1 == "commits/ops.words") = [("commits/ops.words", Rows.laid_commits_ops_words)]) (h : laidMetH Tryz.prog l W) : WordsAt W opWords := by
  have h1 := h.filter (fun x => x.1 == "commits/ops.words")
  rw [hf, MakeChecks.laidMetH_plain _ _ _ (by kernel_rfl)] at h1
  exact words_of h1

/-- A row's frame, its contract told besides that the world is well formed. -/
theorem returns_shaped {H : Type} {enc : TypeId × Value → H} {a : Assume} {C : Checked} {os : Os} {f : FuncId} {fn : Func} {s : ChangeSpec} {conds : List PathCond} {apart fresh handsOn again : Bool} {X : World → Array Value → Prop}
    (hX : ∀ (w w' : World) (args : Array Value), w.heap = w'.heap → X w args → X w' args)
    (own : ownKnob C.prog.godebug = none) (started : os.Started) (noInit : C.prog.inits.idxOf? f = none) (hfn : C.prog.funcs[f]? = some fn)
    (witness : ∃ (w : World) (tape : Tape) (i : Input), w.os = os ∧ (w.forCall tape i).Shaped C.prog ∧ i.vars = [] ∧ Input.okWide C.prog (w.forCall tape i) .any w.heap.size f i ∧
      ((s.pre enc C.prog fn conds apart (w.forCall tape i).memory i.args ∧ X (w.forCall tape i).memory i.args) ∧ sizedMet enc C.prog fn (OpenSpec.ofChange s) apart (w.forCall tape i).memory i.args) ∧ a.holds C.prog (lone (Frame.enter C.prog f i.args .normal) [] (w.forCall tape i)))
    (contract : ∀ (W : World) (base : Nat) (args : Array Value) (ds gs : List (DataW H)) (before : List MemPlace),
      (∀ (j : Nat) t v, fn.params[j]? = some t → args[j]? = some v → Value.okWide C.prog W .any base t v) →
      DataW.Whole enc C.prog fn.params.toList s.vars apart W args.toList ds gs before →
      (DataW.weightsEach C.prog (fn.params.toList ++ s.plain.varTypes C.prog) (ds ++ gs)).all (· ≤ reachBytes) = true → X W args → W.ShapedOpen C.prog →
      Calls C.prog f args W fun e W' => ∃ v, e = .returned v ∧ s.post enc C.prog fn apart fresh handsOn again W args v W') :
    ReturnsInHanded a C os f .any (fun w args => (s.pre enc C.prog fn conds apart w args ∧ X w args) ∧ sizedMet enc C.prog fn (OpenSpec.ofChange s) apart w args) (s.post enc C.prog fn apart fresh handsOn again) := by
  refine returnsInHanded_of_calls own started noInit witness ?_
  intro w tape i _ hsh _ hok hpre hholds
  obtain ⟨_, _, _, fn', hfn', _, _, _, _, hval⟩ := hok
  have e : fn' = fn := Option.some.inj (hfn'.symm.trans hfn)
  subst e
  obtain ⟨⟨⟨ds, gs, before, hw, hc⟩, hx⟩, hz⟩ := hpre
  have hw' := DataW.Whole.of_heap (w' := w.forCall tape i) (by rfl) hw
  refine (contract (w.forCall tape i) w.heap.size i.args ds gs before hval hw' (hz.weights hw) (hX _ _ _ (by rfl) hx) hsh).mono fun e W' ⟨v, he, hp⟩ => ?_
  subst he
  exact ChangeSpec.post_blind hp
end Go.Proofs.YtfhkfnoajbbfdabGreatDoor

namespace Go.Proofs.YtfhkfnoajbbfdabGreatDoor
open Go.RowKit Go.Shelf

attribute [local go_sem] Oper.semAt_some

/-- What the ring holds, the last first: the i-th. -/
def ringBack (x y : Nat → Int) (f c : Nat) (i : Nat) : Int × Int := (x ((f + (c - 1 - i)) % 4), y ((f + (c - 1 - i)) % 4))
/-- The first k of them. -/
def backUpto (x y : Nat → Int) (f c k : Nat) : List (Int × Int) := (List.range k).map (ringBack x y f c)
theorem backUpto_succ (x y : Nat → Int) (f c k : Nat) : backUpto x y f c (k + 1) = backUpto x y f c k ++ [ringBack x y f c k] := by simp [backUpto, List.range_succ]
theorem backUpto_length (x y : Nat → Int) (f c k : Nat) : (backUpto x y f c k).length = k := by simp [backUpto]

theorem slot_in (n : Nat) (b o : Nat) (i f : Int) (w : World) (hf : w.cell? ⟨b, o + 8, none⟩ = some (.int .i64 f)) (h0 : 0 ≤ f) (h1 : f < 4) (i0 : 0 ≤ i) (i1 : i ≤ 4) :
    CallsIn Fence.wide n Tryz.prog 118 #[.pointer (some ⟨b, o, none⟩), .int .i64 i] w fun e w' => e = .returned (.int .i64 ((f + i) % 4)) ∧ w' = w := by
  exact callsIn_wide.2 (slot_any b o i f w hf h0 h1 i0 i1)

set_option maxRecDepth 100000 in
set_option maxHeartbeats 1000000 in
theorem back1_in (n : Nat) (hn : 2 ≤ n) (l Bs n₀ b o f c : Nat) (x y : Nat → Int) (hb : b < n₀) (hBs : Bs < n₀) (J Jx : List (Int × Int) → World → Prop)
    (hY : ∀ pre (p : Int × Int) W, J pre W → pre.length < c → YieldAt Fence.wide (n - 1) Tryz.prog l #[.agg #[.int .i64 p.1, .int .i64 p.2]] W fun e W' =>
      (e = .returned (.bool true) ∧ J (pre ++ [p]) W' ∧ Below n₀ W W') ∨ (e = .returned (.bool false) ∧ Jx (pre ++ [p]) W'))
    (hD : ∀ pre W, J pre W → J pre W.drew)
    (W : World) (hB : W.cell? ⟨Bs, 0, none⟩ = some (.pointer (some ⟨b, o, none⟩))) (hr : RingAt W b o x y f c) (h0 : J [] W) :
    CallsIn Fence.wide n Tryz.prog 337 #[.func (.yield l) #[] #[], .pointer (some ⟨Bs, 0, none⟩)] W fun e W' => (∃ v, e = .returned v) ∧
      ((∃ ys, ys = backUpto x y f c c ∧ J ys W') ∨ (∃ pre, (∃ k, k ≤ c ∧ pre = backUpto x y f c k) ∧ Jx pre W')) := by
  have h9 := hr.c9
  have hc4 := hr.count
  refine callsIn_of_wp Tryz.func337 rfl trivial ?_ rfl
  simp only [Tryz.ntmps337, List.size_toArray, List.length_cons, List.length_nil, Nat.reduceAdd, Nat.reduceSub, Array.replicate_succ, Array.replicate_zero, List.push_toArray, List.append_toArray, List.nil_append, List.cons_append]
  have HR : Hid (RingAt W b o x y f c) := hr
  have hf4 := hr.first
  clear hr
  gi_wp2
  gi_loopw [3] (fun i wr => ∃ k : Nat, k ≤ c ∧ i = .int .i64 ((c : Int) - 1 - k) ∧ J (backUpto x y f c k) wr ∧ Below n₀ W wr)
    (fun i _ => (intOf i + 1).toNat)
  case atStart => exact ⟨0, Nat.zero_le _, by simp, h0, Below.refl _ _⟩
  case round =>
    obtain ⟨k, hk, rfl, hJs, hnx⟩ := hrel
    by_cases hlt : k < c
    · obtain ⟨fn, tmps, assign, body, hy, hR⟩ := hY _ (ringBack x y f c k) wr.drew (hD _ _ hJs) (by rw [backUpto_length]; exact hlt)
      have hcx' := (hnx.cell (p := ⟨Bs, 0, none⟩) hBs).trans hB
      have h8 := (hnx.cell (p := ⟨b, o + 8, none⟩) hb).trans HR.out.c8
      have hx1 := (hnx.cell (p := ⟨b, o + (f + (c - 1 - k)) % 4 * 2, none⟩) hb).trans (HR.out.at_ ((f + (c - 1 - k)) % 4) (by omega))
      have hy1 := (hnx.cell (p := ⟨b, o + (f + (c - 1 - k)) % 4 * 2 + 1, none⟩) hb).trans (HR.out.what ((f + (c - 1 - k)) % 4) (by omega))
      have e1 : ((f : Int) + ((c : Int) - 1 - k)) % 4 = (((f + (c - 1 - k)) % 4 : Nat) : Int) := by omega
      have e2 : (((f + (c - 1 - k)) % 4 : Nat) : Int) < 4 := by omega
      have e0 : (0 : Int) ≤ (c : Int) - 1 - k := by omega
      have e3 : 1 ≤ n - 1 := by omega
      have e4 : 1 ≤ n := by omega
      have hw : ∀ f, Fence.wide.fn f := fun _ => trivial
      have s1 : (0 : Int) ≤ (f : Int) := by omega
      have s2 : (f : Int) < 4 := by omega
      have s3 : (c : Int) - 1 - k ≤ 4 := by omega
      dsimp only [ringBack] at hy
      generalize hg : (f + (c - 1 - k)) % 4 = g at *
      have hR' := hR.mono (R' := fun e W' => ∃ bb, e = .returned (.bool bb) ∧ ((bb = true ∧ J (backUpto x y f c k ++ [ringBack x y f c k]) W' ∧ Below n₀ wr.drew W') ∨ (bb = false ∧ Jx (backUpto x y f c k ++ [ringBack x y f c k]) W')))
        (fun e W3 h => h.elim (fun h => ⟨true, h.1, .inl ⟨rfl, h.2⟩⟩) (fun h => ⟨false, h.1, .inr ⟨rfl, h.2⟩⟩))
      clear hR hY h9 hB h0
      have HX : Hid (Below n₀ W wr) := hnx
      have HJ : Hid (J (backUpto x y f c k) wr) := hJs
      clear hnx hJs hD
      gi_wp2
      gi_region_with (first | (gi_at_call 118; refine (slot_in (n - 1) b o ((c : Int) - 1 - k) (f : Int) wr.drew h8 s1 s2 e0 s3).mono ?_; rintro e w' ⟨rfl, rfl⟩) | (with_reducible refine hR'.mono ?_; rintro e W3 ⟨bb, rfl, hbb⟩))
      all_goals
        rcases hbb with ⟨rfl, hJ3, hk3⟩ | ⟨rfl, hJx3⟩
        · gi_wp2
          go_roundw
          case rel => exact ⟨k + 1, by omega, by go_num, by rw [backUpto_succ]; exact hJ3, HX.out.trans (Below.trans ((Below.refl _ _).drew) hk3)⟩
          case measure => simp [intOf]; omega
        · gi_wp2
          refine bodyPost_ret (results_none rfl _ _ _) rfl ?_
          exact ⟨⟨_, rfl⟩, .inr ⟨_, ⟨k + 1, by omega, (backUpto_succ _ _ _ _ _).symm⟩, hJx3⟩⟩
    · obtain rfl : k = c := by omega
      have e5 : ¬ (0 : Int) ≤ (k : Int) - 1 - k := by omega
      gi_wp2
      go_end0
      exact ⟨⟨_, rfl⟩, .inl hJs⟩

theorem back_stops (n : Nat) (hn : 2 ≤ n) (Bs n₀ b o f c : Nat) (x y : Nat → Int) (w : World) (hb : b < n₀) (hBs : Bs < n₀) (hn₀ : n₀ ≤ w.heap.size)
    (hB : w.cell? ⟨Bs, 0, none⟩ = some (.pointer (some ⟨b, o, none⟩))) (hr : RingAt w b o x y f c) :
    SeqStopsK Fence.wide n Tryz.prog 337 #[.pointer (some ⟨Bs, 0, none⟩)] (fun p : Int × Int => #[.agg #[.int .i64 p.1, .int .i64 p.2]]) (Below n₀) (fun ys => ys = backUpto x y f c c) (fun pre => ∃ k, k ≤ c ∧ pre = backUpto x y f c k) c w := fun l J Jx W hW hA _ hY h0 =>
  back1_in n hn l Bs n₀ b o f c x y hb hBs J Jx hY (fun pre W h => hA pre W W.drew none h ⟨rfl, rfl, rfl, Nat.le_refl _, fun _ _ _ => rfl⟩ (fun r e => by cases e)) W ((hW.cell (p := ⟨Bs, 0, none⟩) (Nat.lt_of_lt_of_le hBs hn₀)).trans hB)
    (hr.chg (M := fun _ _ => False) (Chg.of_below hW) (fun _ _ h => h)) h0

theorem back_any (b o : Nat) (w : World) :
    Calls Tryz.prog 335 #[.pointer (some ⟨b, o, none⟩)] w fun e w' => e = .returned (.func (.func 337) #[] #[.pointer (some ⟨w.heap.size, 0, none⟩)]) ∧ w' = w.alloc (.cells #[.pointer (some ⟨b, o, none⟩)] 260) := by
  have hmf : ∀ (fn : Fn) (first cap : Array Value) (w : World), (Instr.makeFunc fn first cap).run Tryz.prog w = .ok (.func fn first cap) w := fun _ _ _ _ => rfl
  go_enter Tryz.func335, Tryz.ntmps335
  go_wp2
  go_ret
  exact ⟨rfl, rfl⟩

end Go.Proofs.YtfhkfnoajbbfdabGreatDoor

/- A thread and a memory as plain data, and what instructions do to them. -/
namespace Go.Proofs.YtfhkfnoajbbfdabGreatDoor

/-- What an instruction reads: a register, or a number. -/
structure Vl where
  reg : Bool
  v : Int

/-- An instruction: its kind (0 move, 1 operate, 2 load, 3 store, 4 cas, 5 xadd, 6 fence, 7 give, 8 leap, 9 leapIf, 10 end), its operation, its register, its values, its number. -/
structure Ic where
  k : Nat
  op : Nat
  d : Nat
  a : Vl
  b : Vl
  c : Vl
  n : Int

structure Th where
  r : Nat → Int
  pl : Int
  q : List (Int × Int)
  out : List Int
  st : Int

def Vl.of (x : Vl) (T : Th) : Int := if x.reg = true then T.r x.v.toNat else x.v
def Vl.ok (x : Vl) : Prop := x.reg = true → 0 ≤ x.v ∧ x.v < 8
def Th.setR (T : Th) (d : Nat) (v : Int) : Th := { T with r := fun j => if j = d then v else T.r j }
def putM (m : Nat → Int) (a : Nat) (v : Int) : Nat → Int := fun j => if j = a then v else m j
def drainM (m : Nat → Int) : List (Int × Int) → Nat → Int
  | [] => m
  | p :: q => drainM (putM m p.1.toNat p.2) q
/-- A store more that waits; of four the first goes into the memory. -/
def storeQ (q : List (Int × Int)) (m : Nat → Int) (a v : Int) : List (Int × Int) × (Nat → Int) :=
  if q.length < 4 then (q ++ [(a, v)], m) else match q with
    | [] => ([(a, v)], m)
    | p :: q => (q ++ [(a, v)], putM m p.1.toNat p.2)
theorem storeQ_room {q : List (Int × Int)} {m : Nat → Int} {a v : Int} (h : q.length < 4) : storeQ q m a v = (q ++ [(a, v)], m) := by simp [storeQ, h]
theorem storeQ_full {p : Int × Int} {q : List (Int × Int)} {m : Nat → Int} {a v : Int} (h : q.length = 3) : storeQ (p :: q) m a v = (q ++ [(a, v)], putM m p.1.toNat p.2) := by simp [storeQ, h]
/-- Of what waits, the last first, the first that speaks of a; else m. -/
def seenIn (l : List (Int × Int)) (a m : Int) : Int := ((l.find? (fun p => p.1 == a)).map (·.2)).getD m

end Go.Proofs.YtfhkfnoajbbfdabGreatDoor
