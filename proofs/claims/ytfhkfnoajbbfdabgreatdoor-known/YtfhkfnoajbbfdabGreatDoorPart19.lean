import Derived.Test.YtfhkfnoajbbfdabGreatDoorPart18
import Derived.Test.YtfhkfnoajbbfdabGreatDoorShelf2
import Derived.Test.YtfhkfnoajbbfdabGreatDoorPart04
import Derived.Test.YtfhkfnoajbbfdabGreatDoorPart06
import Derived.Deep.RegionHeldLaw
/- The coder's words: numbers, registers, addresses. -/
namespace Go.Proofs.YtfhkfnoajbbfdabGreatDoor
open Go.RowKit

theorem below_grow (w : World) (k : Nat) (os : Array Obj) : Below w.heap.size w (Go.Sort.grow (w.drewN k) os) :=
  ⟨rfl, rfl, rfl, by simp [Go.Sort.grow, World.drewN], fun j hj => by simp [Go.Sort.grow, World.drewN, Array.getElem?_append_left hj]⟩

section
variable {W w w' : World} {x : Cx} {K : List (Nat × Nat × Value)} {c : Nat} {s : Ck}

theorem itoa_c (h : Cw W x K w c s) (n : Int) (h0 : -9223372036854775808 ≤ n) (h1 : n ≤ 9223372036854775807) :
    Calls Tryz.prog 104 #[.int .i64 n] w fun e w' => e = .returned (.string (dec n)) ∧ Cw W x K w' c s := by
  refine (Tryz.strconv_Itoa n h0 h1 w h.tab).mono ?_
  rintro e w' ⟨rfl, k, os, rfl⟩
  exact ⟨rfl, h.below (below_grow w k os)⟩

theorem format_c (h : Cw W x K w c s) (n : Int) (h0 : -9223372036854775808 ≤ n) (h1 : n ≤ 9223372036854775807) :
    Calls Tryz.prog 185 #[.int .i64 n, .int .i64 10] w fun e w' => e = .returned (.string (dec n)) ∧ Cw W x K w' c s := by
  refine (Tryz.strconv_FormatInt_10 n h0 h1 w h.tab).mono ?_
  rintro e w' ⟨rfl, k, os, rfl⟩
  exact ⟨rfl, h.below (below_grow w k os)⟩

theorem Cw.c3 (h : Cw W x K w c s) : w.cell? ⟨c, 3, none⟩ = some (.int .i64 x.th) := let ⟨_, h⟩ := h; h.c3
theorem Cw.c4 (h : Cw W x K w c s) : w.cell? ⟨c, 4, none⟩ = some (.int .i64 s.loops) := let ⟨_, h⟩ := h; h.c4
theorem Cw.c1 (h : Cw W x K w c s) : w.cell? ⟨c, 1, none⟩ = some (.map (some x.sb)) := let ⟨_, h⟩ := h; h.c1
theorem Cw.c2 (h : Cw W x K w c s) : w.cell? ⟨c, 2, none⟩ = some (.map (some x.lb)) := let ⟨_, h⟩ := h; h.c2
theorem Cw.base (h : Cw W x K w c s) : CBase W x := let ⟨_, h⟩ := h; h.base
theorem Cw.low (h : Cw W x K w c s) : Below W.heap.size W w := let ⟨_, h⟩ := h; h.low
theorem Cw.mL (h : Cw W x K w c s) : MapIs w x.lb (locF x.loc) x.loc.length := h.base.mL.of_block (h.low.block _ h.base.mL.lt)
theorem Cw.mS (h : Cw W x K w c s) : MapIs w x.sb (shF x.sh) x.sh.length := h.base.mS.of_block (h.low.block _ h.base.mS.lt)
theorem Cw.th (h : Cw W x K w c s) : x.th ≤ 3 := h.base.th

set_option maxRecDepth 100000 in
set_option maxHeartbeats 1000000 in
theorem register_c (h : Cw W x K w c s) (n : Int) (h0 : 0 ≤ n) (h1 : n ≤ 100) :
    Calls Tryz.prog 184 #[.int .i64 n] w fun e w' => e = .returned (.string (regW n)) ∧ Cw W x K w' c s := by
  have H := hid h
  clear h
  have hsz : ¬ 9223372036854775807 < 1 + (dec n).size := by have := dec_size n (by omega) (by omega); omega
  go_enter Tryz.func184, Tryz.ntmps184
  go_wp2_with fail
  refine (itoa_c H.out n (by omega) (by omega)).mono ?_
  rintro e w1 ⟨rfl, h1⟩
  have H1 := hid h1
  clear h1 H
  go_wp2
  go_ret
  exact ⟨rfl, H1.out⟩

set_option maxRecDepth 100000 in
set_option maxHeartbeats 1000000 in
theorem own_c (h : Cw W x K w c s) (n : Int) (h0 : 0 ≤ n) (h1 : n ≤ 100) :
    Calls Tryz.prog 188 #[ptr c, .int .i64 n] w fun e w' => e = .returned (.string (x.own n)) ∧ Cw W x K w' c s := by
  have hc := h.c3
  have ht := h.th
  have H := hid h
  clear h
  have w1 : wrap64 ((x.th : Int) * 39) = (x.th : Int) * 39 := by unfold wrap64; omega
  have w2 : wrap64 (13 + (x.th : Int) * 39) = 13 + (x.th : Int) * 39 := by unfold wrap64; omega
  have w3 : wrap64 (13 + (x.th : Int) * 39 + n) = 13 + (x.th : Int) * 39 + n := by unfold wrap64; omega
  go_enter Tryz.func188, Tryz.ntmps188
  go_wp2_with fail
  refine (itoa_c H.out (13 + (x.th : Int) * 39 + n) (by omega) (by omega)).mono ?_
  rintro e w1 ⟨rfl, h1⟩
  have H1 := hid h1
  clear h1 H hc
  go_wp2
  go_ret
  exact ⟨rfl, H1.out⟩

set_option maxRecDepth 100000 in
set_option maxHeartbeats 1000000 in
theorem version_c (h : Cw W x K w c s) (n : Int) (h0 : 0 ≤ n) (h1 : n ≤ 100) :
    Calls Tryz.prog 236 #[.int .i64 n] w fun e w' => e = .returned (.string (verW n)) ∧ Cw W x K w' c s := by
  have H := hid h
  clear h
  have w1 : wrap64 (6 + n) = 6 + n := by unfold wrap64; omega
  go_enter Tryz.func236, Tryz.ntmps236
  go_wp2_with fail
  refine (itoa_c H.out (6 + n) (by omega) (by omega)).mono ?_
  rintro e w1 ⟨rfl, h1⟩
  have H1 := hid h1
  clear h1 H
  go_wp2
  go_ret
  exact ⟨rfl, H1.out⟩

set_option maxRecDepth 100000 in
set_option maxHeartbeats 1000000 in
theorem shared_c (h : Cw W x K w c s) (n : Int) (h0 : 0 ≤ n) (h1 : n ≤ 100) :
    Calls Tryz.prog 214 #[.int .i64 n] w fun e w' => e = .returned (.string (dec n)) ∧ Cw W x K w' c s := by
  have H := hid h
  clear h
  have w1 : wrap64 (0 + n) = n := by unfold wrap64; omega
  go_enter Tryz.func214, Tryz.ntmps214
  go_wp2_with fail
  refine (itoa_c H.out n (by omega) (by omega)).mono ?_
  rintro e w1 ⟨rfl, h1⟩
  have H1 := hid h1
  clear h1 H
  go_wp2
  go_ret
  exact ⟨rfl, H1.out⟩

set_option maxRecDepth 100000 in
set_option maxHeartbeats 1000000 in
theorem clock_c (h : Cw W x K w c s) :
    Calls Tryz.prog 219 #[] w fun e w' => e = .returned (.string (dec 12)) ∧ Cw W x K w' c s := by
  have H := hid h
  clear h
  go_enter Tryz.func219, Tryz.ntmps219
  go_wp2_with fail
  refine (itoa_c H.out 12 (by omega) (by omega)).mono ?_
  rintro e w1 ⟨rfl, h1⟩
  have H1 := hid h1
  clear h1 H
  go_wp2
  go_ret
  exact ⟨rfl, H1.out⟩

set_option maxRecDepth 100000 in
set_option maxHeartbeats 1000000 in
theorem locked_c (h : Cw W x K w c s) :
    Calls Tryz.prog 238 #[ptr c] w fun e w' => e = .returned (.string x.lock) ∧ Cw W x K w' c s := by
  have hc := h.c3
  have ht := h.th
  have H := hid h
  clear h
  have w1 : wrap64 (9223372036854775807 - (x.th : Int)) = 9223372036854775807 - (x.th : Int) := by unfold wrap64; omega
  go_enter Tryz.func238, Tryz.ntmps238
  go_wp2_with fail
  refine (format_c H.out (9223372036854775807 - (x.th : Int)) (by omega) (by omega)).mono ?_
  rintro e w1 ⟨rfl, h1⟩
  have H1 := hid h1
  clear h1 H hc
  go_wp2
  go_ret
  exact ⟨rfl, H1.out⟩
end
end Go.Proofs.YtfhkfnoajbbfdabGreatDoor

/- What the reader of a program is asked. -/
namespace Go.Proofs.YtfhkfnoajbbfdabGreatDoor
open Go.RowKit

/-- A statement as it lies; b: the block of one that holds others. -/
def stVal (s : St) (b : Nat) : Value := match s with
  | .inr (.inr (.inr (.inr (.inr (.inl ()))))) => .iface 231 (ptr b)
  | .inr (.inr (.inr (.inr (.inr (.inr (.inl _)))))) => .iface 312 (ptr b)
  | .inr (.inr (.inr (.inr (.inr (.inr (.inr _)))))) => .iface 315 (ptr b)
  | s => stV s

/-- The local variable that it sets. -/
def stTo : St → ByteArray
  | .inl (to, _) => to
  | .inr (.inl (to, _, _, _)) => to
  | .inr (.inr (.inl (to, _, _))) => to
  | _ => ByteArray.empty

def HK.isAtomic : HK → Bool
  | .inr (.inr (.inr (.inr (.inr (.inr (.inl ())))))) => true
  | _ => false

def RS.hk (st : RS) (j : Nat) : Option HK := (st.hs[j]?).map (·.k)
def RS.inB (st : RS) : Bool := st.opn.any fun j => ((st.hk j).map HK.isAtomic).getD false
def RS.isSh (st : RS) (u : ByteArray) : Bool := st.shared.any fun p => decide (p.1 = u)

def hasL (l : List ByteArray) (u : ByteArray) : Bool := l.any fun x => decide (x = u)

theorem zeroVar (w : World) : (zeroValue 299).run Tryz.prog w = .ok (.agg #[.int .i64 0, .int .i64 0]) w := by kernel_rfl
theorem zeroInt (w : World) : (zeroValue 3).run Tryz.prog w = .ok (.int .i64 0) w := by kernel_rfl

section
variable {D : Nat → Prop} {lab : Nat → Nat × Nat} {w : World} {br sb bs : Nat} {tv ov : Value} {st : RS} {ms : List HM}

theorem shF_some (l : List (ByteArray × Int × Int)) (u : ByteArray) : (shF l u).isSome = l.any fun p => decide (p.1 = u) := by
  unfold shF
  rw [Option.isSome_map]
  induction l with
  | nil => rfl
  | cons p l ih =>
    simp only [List.find?_cons, List.any_cons]
    cases h : decide (p.1 = u) with
    | true => simp
    | false => simp [ih]

theorem shF_agg (l : List (ByteArray × Int × Int)) (u : ByteArray) : ∃ a b, (shF l u).getD (.agg #[.int .i64 0, .int .i64 0]) = .agg #[.int .i64 a, .int .i64 b] := by
  unfold shF
  cases (l.find? fun p => decide (p.1 = u)) with
  | none => exact ⟨0, 0, rfl⟩
  | some p => exact ⟨_, _, rfl⟩

set_option maxRecDepth 100000 in
set_option maxHeartbeats 1000000 in
theorem isShared_is (h : RMach D lab w br sb bs tv ov st ms) (u : ByteArray) (hu : u.size ≤ maxLen) :
    Calls Tryz.prog 129 #[ptr br, .string u] w fun e w' => e = .returned (.bool (st.isSh u)) ∧ Below w.heap.size w w' := by
  have c0 := h.c0
  have hl := h.mS.look Tryz.underlying138 (zeroVar w) hu
  rw [shF_some] at hl
  obtain ⟨a, b, e⟩ := shF_agg st.shared u
  rw [e] at hl
  unfold RS.isSh
  generalize (st.shared.any fun p => decide (p.1 = u)) = r at *
  clear h e
  go_enter Tryz.func129, Tryz.ntmps129
  go_wp2
  go_ret
  exact ⟨rfl, (Below.refl _ w).alloc (Nat.le_refl _) _⟩

theorem locF_some (l : List ByteArray) (u : ByteArray) : (locF l u).isSome = hasL l u := by
  unfold locF hasL
  rw [Option.isSome_map]
  induction l with
  | nil => rfl
  | cons p l ih =>
    rw [List.findIdx?_cons, List.any_cons, ← ih]
    cases h : decide (p = u) with
    | true => simp
    | false => simp

theorem locF_int (l : List ByteArray) (u : ByteArray) : ∃ a, (locF l u).getD (.int .i64 0) = .int .i64 a := by
  unfold locF
  cases (l.findIdx? fun x => decide (x = u)) with
  | none => exact ⟨0, rfl⟩
  | some k => exact ⟨_, rfl⟩

set_option maxRecDepth 100000 in
set_option maxHeartbeats 1000000 in
theorem has_is {b mb : Nat} {l : List ByteArray} (c1 : w.cell? ⟨b, 1, none⟩ = some (.map (some mb))) (hm : MapIs w mb (locF l) l.length) (u : ByteArray) (hu : u.size ≤ maxLen) :
    Calls Tryz.prog 138 #[ptr b, .string u] w fun e w' => e = .returned (.bool (hasL l u)) ∧ w' = w := by
  have hl := hm.look Tryz.underlying157 (zeroInt w) hu
  rw [locF_some] at hl
  obtain ⟨a, e⟩ := locF_int l u
  rw [e] at hl
  generalize hasL l u = r at *
  clear hm e
  go_enter Tryz.func138, Tryz.ntmps138
  go_wp2
  go_ret
  exact ⟨rfl, rfl⟩

set_option maxRecDepth 100000 in
set_option maxHeartbeats 1000000 in
theorem last_is (h : RMach D lab w br sb bs tv ov st ms) (tl : List Nat) (t : Nat) (ht : st.threads = tl ++ [t]) (htl : t < ms.length) (hn : tl.length < 1000000) :
    Calls Tryz.prog 136 #[ptr br] w fun e w' => e = .returned (ptr ms[t].b) ∧ w' = w.drew := by
  have c1 := h.c1
  have hr := h.trow
  rw [ht] at hr
  simp only [List.length_append, List.length_cons, List.length_nil] at hr
  obtain ⟨g, cp, rfl⟩ : ∃ g cp, tv = .slice (some ⟨g, 0, none⟩) (tl.length + 1) cp := by
    rcases hr.2 with ⟨_, e2⟩ | ⟨g', cap', cur, e1, _⟩
    · omega
    · exact ⟨g', cap', e1⟩
  obtain ⟨q1, _, _⟩ := ownsRow_cell hr tl.length (by omega)
  have q2 : w.cell? ⟨g, tl.length, none⟩ = some (ptr ms[t].b) := by
    rw [q1]
    simp [idP, idsOf, List.getElem?_eq_getElem htl]
  generalize ms[t].b = tb at *
  have hw : wrap64 ((tl.length : Int) + 1 - 1) = (tl.length : Int) := by unfold wrap64; omega
  have hw2 : (tl.length : Int) < (tl.length : Int) + 1 := by omega
  clear h hr q1
  go_enter Tryz.func136, Tryz.ntmps136
  go_wp2_with fail
  go_region
  all_goals
    go_wp2
    go_ret
    exact ⟨rfl, rfl⟩
end
end Go.Proofs.YtfhkfnoajbbfdabGreatDoor

/- The coder: what a line reads. -/
namespace Go.Proofs.YtfhkfnoajbbfdabGreatDoor
open Go.RowKit

section
variable {W w w' : World} {x : Cx} {K : List (Nat × Nat × Value)} {c : Nat} {s : Ck}

theorem locF_get (l : List ByteArray) (u : ByteArray) : (locF l u).getD (.int .i64 0) = .int .i64 (((l.findIdx? fun y => decide (y = u)).getD 0 : Nat) : Int) := by
  unfold locF
  cases l.findIdx? fun y => decide (y = u) <;> rfl

theorem shF_get (l : List (ByteArray × Int × Int)) (u : ByteArray) : (shF l u).getD (.agg #[.int .i64 0, .int .i64 0]) = .agg #[.int .i64 ((((l.find? fun p => decide (p.1 = u)).map (·.2)).getD (0, 0)).1), .int .i64 ((((l.find? fun p => decide (p.1 = u)).map (·.2)).getD (0, 0)).2)] := by
  unfold shF
  cases l.find? fun p => decide (p.1 = u) <;> rfl

theorem locI_le (hx : CBase W x) (u : ByteArray) : x.locI u ≤ 4 := by
  unfold Cx.locI
  cases h : x.loc.findIdx? fun y => decide (y = u) with
  | none => simp
  | some k =>
    have := (List.findIdx?_eq_some_iff_findIdx_eq.1 h).1
    have := hx.ln
    simp only [Option.getD_some]
    omega

theorem Cw.lookL (h : Cw W x K w c s) {u : ByteArray} (hu : u.size ≤ maxLen) : (Instr.lookup 157 (.map (some x.lb)) (.string u) false).run Tryz.prog w = .ok (.int .i64 (x.locI u)) w := by
  have := h.mL.look1 (t := 157) Tryz.underlying157 (zeroInt w) hu
  rw [locF_get] at this
  exact this

theorem Cw.lookS (h : Cw W x K w c s) {u : ByteArray} (hu : u.size ≤ maxLen) : (Instr.lookup 138 (.map (some x.sb)) (.string u) false).run Tryz.prog w = .ok (.agg #[.int .i64 (x.var u).1, .int .i64 (x.var u).2]) w := by
  have := h.mS.look1 (t := 138) Tryz.underlying138 (zeroVar w) hu
  rw [shF_get] at this
  exact this

set_option maxRecDepth 100000 in
set_option maxHeartbeats 1000000 in
theorem local_c (h : Cw W x K w c s) {u : ByteArray} (hu : u.size ≤ maxLen) :
    Calls Tryz.prog 145 #[ptr c, .string u] w fun e w' => e = .returned (.string (x.local u)) ∧ Cw W x K w' c s := by
  have hc := h.c2
  have hl := h.lookL hu
  have hk := locI_le h.base u
  have H := hid h
  clear h
  go_enter Tryz.func145, Tryz.ntmps145
  go_wp2_with fail
  refine (register_c H.out (x.locI u) (by omega) (by omega)).mono ?_
  rintro e w1 ⟨rfl, h1⟩
  have H1 := hid h1
  clear h1 H hc hl
  go_wp2
  go_ret
  exact ⟨rfl, H1.out⟩

/-- A value that may stand in a program. -/
def PV.ok (a : PV) : Prop := a.name.size ≤ maxLen ∧ -9223372036854775808 ≤ a.num ∧ a.num ≤ 9223372036854775807

theorem Cw.drew (h : Cw W x K w c s) : Cw W x K w.drew c s := h.below ⟨rfl, rfl, rfl, Nat.le_refl _, fun _ _ => rfl⟩
theorem Cw.alloc (h : Cw W x K w c s) (o : Obj) : Cw W x K (w.alloc o) c s := h.below ((Below.refl _ w).alloc (Nat.le_refl _) o)

set_option maxRecDepth 100000 in
set_option maxHeartbeats 1000000 in
theorem value_c (h : Cw W x K w c s) {a : PV} (ha : a.ok) :
    Calls Tryz.prog 146 #[ptr c, .agg #[.string a.name, .int .i64 a.num]] w fun e w' => e = .returned (.string (x.val a)) ∧ Cw W x K w' c s := by
  obtain ⟨h1, h2, h3⟩ := ha
  have H := hid h
  clear h
  by_cases hn : a.name = ⟨#[]⟩
  · have e : x.val a = dec a.num := if_pos hn
    rw [e]
    obtain ⟨nm, num⟩ := a
    simp only at hn h1 h2 h3 e ⊢
    subst hn
    clear e
    go_enter Tryz.func146, Tryz.ntmps146
    go_wp2_with fail
    refine (format_c (H.out.alloc _) num h2 h3).mono ?_
    rintro e w1 ⟨rfl, h1⟩
    have H1 := hid h1
    clear h1 H
    go_wp2
    go_ret
    exact ⟨rfl, H1.out⟩
  · have e : x.val a = x.local a.name := if_neg hn
    rw [e]
    obtain ⟨nm, num⟩ := a
    simp only at hn h1 h2 h3 e ⊢
    clear e
    have hb : nm.toList.isEmpty = false := by
      refine ba_some ?_
      rcases nm with ⟨⟨l⟩⟩
      cases l with
      | nil => exact (hn rfl).elim
      | cons a l => simp [ByteArray.size]
    go_enter Tryz.func146, Tryz.ntmps146
    go_wp2_with fail
    refine (local_c (H.out.alloc _) h1).mono ?_
    rintro e w1 ⟨rfl, h1⟩
    have H1 := hid h1
    clear h1 H
    go_wp2
    go_ret
    exact ⟨rfl, H1.out⟩
end
end Go.Proofs.YtfhkfnoajbbfdabGreatDoor

/- One element more, of several cells, on a row of one's own: what has turned. -/
namespace Go.Proofs.YtfhkfnoajbbfdabGreatDoor
open Go.RowKit

theorem run_appN {P : Program} (w : World) (t ty e : TypeId) (i : TypeInfo) (z : Value) (sz bytes : Nat) (hpos : 0 < sz) (ht : P.underlying t = some (.slice e)) (hi : P.info? e = some i) (hz : i.zero = some z) (hsize : i.size = sz) (hby : i.bytes = bytes) (hzs : z.cells.size = sz)
    (v : Value) (n : Nat) (xs : List Value) (hown : w.ownsRow 0 e sz v n xs) (ad : Addr) (us : List Value) (hus : us.length = sz) (hu : ∀ j u', us[j]? = some u' → w.cell? (ad.add j) = some u') (h1 : ∀ u' ∈ us, u'.oneCell' = true) (h63 : n + 1 ≤ maxLen) (hbytes : (n + 1) * bytes ≤ 140737488355328) :
    ∃ g cap w', (Builtin.append_ #[t, t] ty #[v, .slice (some ad) 1 1]).run P w = .ok (.slice (some ⟨g, 0, none⟩) (n + 1) cap) w' ∧
      w'.ownsRow 0 e sz (.slice (some ⟨g, 0, none⟩) (n + 1) cap) (n + 1) (xs ++ us) ∧ Chg (fun k _ => v.ownBlock = some k) w w' ∧ (v.ownBlock = some g ∨ g = w.heap.size) := by
  obtain ⟨v', w', hr, h2, _, _⟩ := run_append_own (P := P) w 0 t ty e i z sz bytes ht hi hz hsize hby hzs hpos v n xs hown ad 1 1 us (by omega) hu h1 h63 hbytes (Nat.zero_le _)
  subst hby
  subst hsize
  have hlu : us.length = 1 * i.size := by omega
  rcases hown.2 with ⟨rfl, rfl⟩ | ⟨g, cap, cur, rfl, hbg, hg, hnc, hcm, hcs, htake⟩
  · have hx := run_append_nil (P := P) w t ty e i z ht hi hz ad 1 1 us hlu hu (by decide) (by decide) (by omega)
    rw [hx] at hr
    injection hr with e1 e2
    subst e1; subst e2
    exact ⟨_, _, _, hx, h2, ((Chg.refl _ w).drew).alloc _, .inr rfl⟩
  · by_cases hroom : n + 1 ≤ cap
    · have hsq : (n + 1) * i.size ≤ cap * i.size := Nat.mul_le_mul_right _ hroom
      rw [Nat.add_mul] at hsq
      have hx := run_append_room (P := P) w t ty e i ht hi g n cap cur hg ad 1 1 us hlu hu h1 hroom (by rw [hcs]; omega)
      rw [hx] at hr
      injection hr with e1 e2
      subst e1; subst e2
      refine ⟨_, _, _, hx, h2, (Chg.setRow hg ?_).mono (fun k i _ e => by simp [Value.ownBlock, e]), .inl rfl⟩
      simp only [List.size_toArray, List.length_append, List.length_take, List.length_drop, Array.length_toList]
      omega
    · have hx := run_append_grow (P := P) w t ty e i z ht hi hz ⟨g, 0, none⟩ n cap xs hown.1 (hown.cells (g := g) rfl) ad 1 1 us hlu hu (by omega) (by unfold maxLen at h63; omega) (growslice_fits (by omega) hbytes)
      rw [hx] at hr
      injection hr with e1 e2
      subst e1; subst e2
      exact ⟨_, _, _, hx, h2, ((Chg.refl _ w).drew).alloc _, .inr rfl⟩

theorem step_appN {P : Program} {w : World} {ops : Array Oper} {o : Oper} {a : Act} {K : Act → World → Prop} {Q : Exit → Act → World → Prop} {E : Prop} (hgd : o.guard = none) (s x : Operand) (t : TypeId)
    (ho : o.op = .call { callee := .builtin .append, args := #[s, x], argTypes := #[t, t] })
    (e : TypeId) (i : TypeInfo) (z : Value) (sz bytes : Nat) (hpos : 0 < sz) (ht : P.underlying t = some (.slice e)) (hi : P.info? e = some i) (hz : i.zero = some z) (hsize : i.size = sz) (hby : i.bytes = bytes) (hzs : z.cells.size = sz)
    (v : Value) (n : Nat) (xs : List Value) (hs : a.eval s = v) (hown : w.ownsRow 0 e sz v n xs) (ad : Addr) (us : List Value) (hus : us.length = sz) (hx : a.eval x = .slice (some ad) 1 1) (hu : ∀ j u', us[j]? = some u' → w.cell? (ad.add j) = some u') (hu1 : ∀ u' ∈ us, u'.oneCell' = true) (h63 : n + 1 ≤ maxLen) (hbytes : (n + 1) * bytes ≤ 140737488355328)
    (h : ∀ g cap w', w'.ownsRow 0 e sz (.slice (some ⟨g, 0, none⟩) (n + 1) cap) (n + 1) (xs ++ us) → Chg (fun k _ => v.ownBlock = some k) w w' → (v.ownBlock = some g ∨ g = w.heap.size) → K (a.put o.dst (.slice (some ⟨g, 0, none⟩) (n + 1) cap)) w') :
    if Region.wanted o (yielded ops a.tmps) = true then Oper.wp P o a w K Q else E := by
  have hw : Region.wanted o (yielded ops a.tmps) = true := by simp [Region.wanted, hgd]
  rw [if_pos hw]
  obtain ⟨g, cap, w', hr, h2, h3, h4⟩ := run_appN (P := P) w t o.type e i z sz bytes hpos ht hi hz hsize hby hzs v n xs hown ad us hus hu hu1 h63 hbytes
  unfold Oper.wp execOp
  simp only [ho, resolve, invoke, builtin, Sem.run_bind, Sem.run_pure, Result.andThen_ok, List.map_toArray, List.map_cons, List.map_nil, hs, hx, hr]
  exact h g cap w' h2 h3 h4

end Go.Proofs.YtfhkfnoajbbfdabGreatDoor

/- The coder: a line more. -/
namespace Go.Proofs.YtfhkfnoajbbfdabGreatDoor
open Go.RowKit

section
variable {W w w' : World} {x : Cx} {K : List (Nat × Nat × Value)} {m : Cm} {c : Nat} {s : Ck}

theorem Ck.Ok.line (h : s.Ok) (l : ByteArray) (hz : l.size ≤ 200) : Ck.Ok { s with L := s.L ++ [l], g := s.g + 1 } := by
  refine ⟨by simp; exact h.l, fun u hu => ?_, Nat.le_succ_of_le h.t, fun n hn => ?_, fun k hk => ⟨Nat.le_succ_of_le (h.u k hk).1, fun n hn => ?_⟩⟩
  · show u.size ≤ 200 + 30 * (s.g + 1)
    rcases List.mem_append.1 hu with hu | hu
    · have := h.z u hu; omega
    · rw [List.mem_singleton.1 hu]; omega
  · have := h.tb n hn
    show n < (s.L ++ [l]).length
    simp; omega
  · have := (h.u k hk).2 n hn
    show n < (s.L ++ [l]).length
    simp; omega

/-- The same coder, but for its lines. -/
def Cv (W : World) (x : Cx) (K : List (Nat × Nat × Value)) (m : Cm) (w : World) (c : Nat) (s : Ck) : Prop := ∃ lab lv, Cd W x K { m with lab := lab, lv := lv } w c s

theorem Cv.cw (h : Cv W x K m w c s) : Cw W x K w c s := let ⟨_, _, h⟩ := h; ⟨_, h⟩

/-- The lines have one more. -/
theorem Cd.pushLine (h : Cd W x K m w c s) (l : ByteArray) {w3 : World} {g cp : Nat}
    (ho : w3.ownsRow 0 9 1 (.slice (some ⟨g, 0, none⟩) (s.L.length + 1) cp) (s.L.length + 1) (s.L.map .string ++ [.string l]))
    (hc : Chg (fun k _ => m.lv.ownBlock = some k) w w3) (hg : m.lv.ownBlock = some g ∨ g = w.heap.size) (hz : l.size ≤ 200) :
    Cv W x K m (w3.setCell ⟨c, 0, none⟩ (.slice (some ⟨g, 0, none⟩) (s.L.length + 1) cp)) c { s with L := s.L ++ [l], g := s.g + 1 } := by
  have lb := h.lt
  have nc : ¬ m.lv.ownBlock = some c := fun e => by have := h.llv _ e; rw [h.lc] at this; omega
  have hgc : g ≠ c := by
    rcases hg with e | e
    · exact fun e' => nc (e' ▸ e)
    · omega
  have hgs : g < w3.heap.size := (ho.lt g rfl).2
  have hset : Chg (fun k j => k = c ∧ j = 0) w3 (w3.setCell ⟨c, 0, none⟩ (.slice (some ⟨g, 0, none⟩) (s.L.length + 1) cp)) := (Chg.refl _ w3).setCell (fun _ => ⟨rfl, rfl⟩) _
  have hall : Chg (fun k j => m.lv.ownBlock = some k ∨ (k = c ∧ j = 0)) w (w3.setCell ⟨c, 0, none⟩ (.slice (some ⟨g, 0, none⟩) (s.L.length + 1) cp)) := (hc.mono (fun _ _ _ e => .inl e)).trans (hset.mono (fun _ _ _ e => .inr e))
  have hold : ∀ k, k < w.heap.size → (if k = g then 2 else m.lab k) = m.lab k := by
    intro k hk
    by_cases e : k = g
    · rw [if_pos e]
      rcases hg with hg | hg
      · rw [e]; exact (h.llv g hg).symm
      · omega
    · rw [if_neg e]
  have nk : ∀ k l, m.lab k = l → l ≠ 2 → l ≠ 1 → ∀ j, ¬ (m.lv.ownBlock = some k ∨ (k = c ∧ j = 0)) := fun k l hk h1 h2 j e => by
    rcases e with e | e
    · exact h1 (hk.symm.trans (h.llv k e))
    · exact h2 (hk.symm.trans (e.1 ▸ h.lc))
  have kc : ∀ j, j ≠ 0 → ¬ (m.lv.ownBlock = some c ∨ (c = c ∧ j = 0)) := fun j hj e => e.elim nc (fun e => hj e.2)
  have hM : ∀ k j, k < w.heap.size → (m.lv.ownBlock = some k ∨ (k = c ∧ j = 0)) → m.lab k ≠ 0 := by
    rintro k j _ (e | ⟨rfl, _⟩)
    · rw [h.llv k e]; omega
    · rw [h.lc]; omega
  refine ⟨fun k => if k = g then 2 else m.lab k, .slice (some ⟨g, 0, none⟩) (s.L.length + 1) cp, h.turn (h.ok.line l hz) hall ?_ hold ?_ (cell_set_eq ((hc.cell _ _ lb nc).trans h.c0) rfl) ((hall.cell _ _ lb (kc 4 (by omega))).trans h.c4) ((hall.cell _ _ lb (kc 5 (by omega))).trans h.c5) ((hall.cell _ _ lb (kc 6 (by omega))).trans h.c6) ?_ (ownsRow_chg h.trow hall (fun q hq => nk _ _ (h.ltv q hq) (by omega) (by omega))) (h.tl.keep hall hM fun k hk e => (hold k hk).trans e) ?_ ?_ ?_⟩
  · intro k j hk e
    refine ⟨hM k j hk e, fun ec => ?_⟩
    rcases e with e | e
    · exact (nc (ec ▸ e)).elim
    · omega
  · intro k hk
    have : w3.heap.size ≤ k := by simpa [size_set] using hk
    show (if k = g then 2 else m.lab k) = 0
    rw [if_neg (by omega)]
    exact h.lz k (Nat.le_trans hc.size this)
  · have := ownsRow_chg ho hset (fun k hk j e => by simp [Value.ownBlock] at hk; exact hgc (hk.trans e.1))
    simpa using this
  · intro k hk
    have hb := h.bk k hk
    exact hb.keep hall hM (nk _ _ hb.lbk (by omega) (by omega)) (fun q hq => nk _ _ (hb.luv q hq) (by omega) (by omega)) hold rfl rfl rfl
  · intro q hq
    simp [Value.ownBlock] at hq
    subst hq
    exact if_pos rfl
  · intro q hq
    exact (hold q (h.trow.lt q hq).2).trans (h.ltv q hq)

theorem infoStr : (Tryz.prog.info? 9).map (fun i => (i.zero, i.size, i.bytes)) = some (some (.string ⟨#[]⟩), 1, 16) := by kernel_rfl

theorem join_len : ∀ (ws : List ByteArray), (∀ u ∈ ws, u.size ≤ 30) → (Lib.join (ws.map (·.data.toList)) [32]).length ≤ 31 * ws.length
  | [], _ => by simp [Lib.join_nil]
  | [a], h => by
    have := h a (by simp)
    simp only [List.map_cons, List.map_nil, Lib.join_one, List.length_cons, List.length_nil]
    have h1 : a.data.size ≤ 30 := this
    rw [Array.length_toList]
    omega
  | a :: b :: r, h => by
    have ih := join_len (b :: r) (fun u hu => h u (List.mem_cons_of_mem _ hu))
    have := h a (by simp)
    have e : Lib.join ((a :: b :: r).map (·.data.toList)) [32] = a.data.toList ++ [32] ++ Lib.join ((b :: r).map (·.data.toList)) [32] := by
      simp [Lib.join, List.intercalate]
    rw [e]
    simp only [ByteArray.size] at this
    simp only [List.length_append, List.length_cons, List.length_nil, Array.length_toList] at ih ⊢
    omega

set_option maxRecDepth 100000 in
set_option maxHeartbeats 1000000 in
theorem add_d (hm : Cd W x K m w c s) (ws : List ByteArray) {bk : Nat} (hbk : bk < w.heap.size) (hcells : ∀ (j : Nat) u, ws[j]? = some u → w.cell? ⟨bk, 0 + j, none⟩ = some (.string u)) (hn : ws.length ≤ 6) (hws : ∀ u ∈ ws, u.size ≤ 30) (hG : s.g < 100000000) :
    Calls Tryz.prog 103 #[ptr c, .slice (some ⟨bk, 0, none⟩) ws.length ws.length] w fun e w' => e = .returned (.tuple #[]) ∧ Cv W x K m w' c (s.add ws) := by
  obtain ⟨i0, hi0, hz0, hz1, hz2⟩ := info_parts infoStr
  have hc := hm.c0
  have hL : s.L.length < 100000000 := Nat.lt_of_le_of_lt hm.ok.l hG
  have hjz : (joinW 32 ws).size ≤ 200 := by
    have := join_len ws hws
    have e : (joinW 32 ws).size = (Lib.join (ws.map (·.data.toList)) [32]).length := by simp [joinW, ByteArray.size]
    omega
  have hl1 : s.L.length + 1 ≤ maxLen := by unfold maxLen; omega
  have hl2 : (s.L.length + 1) * 16 ≤ 140737488355328 := by omega
  have KJ : Hid (∀ w0, Below w.heap.size w w0 → Calls Tryz.prog 106 #[.slice (some ⟨bk, 0, none⟩) ws.length ws.length, .string ⟨#[32]⟩] w0 fun e w' => e = .returned (.string (joinW 32 ws)) ∧ Below w0.heap.size w0 w') := hid fun w0 hb =>
    Tryz.strings_Join bk 0 ws.length ws ⟨#[32]⟩ w0 (fun j u hu => (hb.cell (p := ⟨bk, 0 + j, none⟩) hbk).trans (hcells j u hu)) (Nat.lt_of_lt_of_le hbk hb.size) (by omega) (Nat.le_refl _) (by have := join_len ws hws; show (Lib.join (ws.map (·.data.toList)) [32]).length ≤ _; omega)
  have nc : ¬ m.lv.ownBlock = some c := fun e => by have := hm.llv _ e; rw [hm.lc] at this; omega
  have NC : Hid (∀ (w1 w3 : World) (o : Obj), Cd W x K m w1 c s → Chg (fun k _ => m.lv.ownBlock = some k) (w1.alloc o) w3 → w3.cell? ⟨c, 0, none⟩ = some m.lv) := hid fun w1 w3 o h1 hch => (hch.cell _ _ (by have := h1.lt; simp; omega) nc).trans ((World.cell?_alloc_past _ _ _ h1.lt).trans h1.c0)
  have NF : Hid (∀ (w1 w3 : World) (o : Obj), Cd W x K m w1 c s → Chg (fun k _ => m.lv.ownBlock = some k) (w1.alloc o) w3 → w3.frozen? ⟨c, 0, none⟩ = false) := hid fun w1 w3 o h1 hch => (hch.frozen _ _ (by have := h1.lt; simp; omega)).trans ((World.frozen?_alloc_past _ _ _ h1.lt).trans (h1.free 0))
  have H := hid hm
  clear hm nc hcells hws hbk
  generalize hwn : ws.length = nw at *
  go_enter Tryz.func103, Tryz.ntmps103
  go_wp2_with fail
  go_region_law (first
    | (go_simp; go_at_call 106; refine (KJ.out _ ?_).mono ?_; (case refine_1 => exact below_drew _ w); rintro e w1 ⟨rfl, b1⟩; have H1 := hid (H.out.below (w' := w1) ((below_drew _ w).trans b1)); have hc1 := H1.out.c0; have lb1 := H1.out.lt; clear b1 hc)
    | (refine step_appN rfl (.tmp 8) (.tmp 11) 160 rfl 9 i0 (.string ⟨#[]⟩) 1 16 (by decide) Tryz.underlying160 hi0 hz0 hz1 hz2 rfl m.lv s.L.length (s.L.map .string) rfl (H1.out.lrow.alloc _) ⟨w1.heap.size, 0, none⟩ [.string (joinW 32 ws)] rfl rfl (cell_one_new _ _ _) (by simp [Value.oneCell']) hl1 hl2 ?_; intro g cp w3 ho hch hg; have hcb := NC.out w1 w3 _ H1.out hch; have hfb := NF.out w1 w3 _ H1.out hch; have HR := hid ((H1.out.below ((Below.refl _ w1).alloc (Nat.le_refl _) _)).pushLine (joinW 32 ws) ho hch hg hjz); clear ho hch hg hc1))
  all_goals
    go_wp2
    go_end0
    exact ⟨rfl, HR.out⟩

theorem add_c (h : Cw W x K w c s) (ws : List ByteArray) {bk : Nat} (hbk : bk < w.heap.size) (hcells : ∀ (j : Nat) u, ws[j]? = some u → w.cell? ⟨bk, 0 + j, none⟩ = some (.string u)) (hn : ws.length ≤ 6) (hws : ∀ u ∈ ws, u.size ≤ 30) (hG : s.g < 100000000) :
    Calls Tryz.prog 103 #[ptr c, .slice (some ⟨bk, 0, none⟩) ws.length ws.length] w fun e w' => e = .returned (.tuple #[]) ∧ Cw W x K w' c (s.add ws) := by
  obtain ⟨m, h⟩ := h
  exact (add_d h ws hbk hcells hn hws hG).mono fun e w' ⟨he, h'⟩ => ⟨he, h'.cw⟩
end
end Go.Proofs.YtfhkfnoajbbfdabGreatDoor

/- The coder: where the next line will be; leaps. -/
namespace Go.Proofs.YtfhkfnoajbbfdabGreatDoor
open Go.RowKit

section
variable {W w w' : World} {x : Cx} {K : List (Nat × Nat × Value)} {m : Cm} {c : Nat} {s : Ck}

theorem slice_of {e : TypeId} {v : Value} {n : Nat} {xs : List Value} (h : w.ownsRow 0 e 1 v n xs) : ∃ a k, v = .slice a n k := by
  rcases h.2 with ⟨rfl, rfl⟩ | ⟨g, cap, cur, rfl, _⟩
  · exact ⟨_, _, rfl⟩
  · exact ⟨_, _, rfl⟩

theorem Cw.lines (h : Cw W x K w c s) : ∃ a k, w.cell? ⟨c, 0, none⟩ = some (.slice a s.L.length k) := by
  obtain ⟨m, h⟩ := h
  obtain ⟨a, k, e⟩ := slice_of h.lrow
  exact ⟨a, k, by rw [h.c0, e]⟩

theorem Cw.ok (h : Cw W x K w c s) : s.Ok := let ⟨_, h⟩ := h; h.ok

set_option maxRecDepth 100000 in
set_option maxHeartbeats 1000000 in
theorem place_c (h : Cw W x K w c s) :
    Calls Tryz.prog 193 #[ptr c] w fun e w' => e = .returned (.int .i64 s.L.length) ∧ w' = w := by
  obtain ⟨a, k, hc⟩ := h.lines
  clear h
  go_enter Tryz.func193, Tryz.ntmps193
  go_wp2
  go_ret
  exact ⟨rfl, rfl⟩

/-- What a leap answers. -/
abbrev leapV (bl ba : Nat) : Value := .func (.func 194) #[] #[ptr bl, ptr ba]

theorem Cd.fresh2 (h : Cd W x K m w c s) (hb : Below w.heap.size w w') {b1 o1 b2 o2 : Nat} {v1 v2 : Value} (h1 : w.heap.size ≤ b1) (h2 : b1 < w'.heap.size) (h3 : w'.cell? ⟨b1, o1, none⟩ = some v1) (h4 : w.heap.size ≤ b2) (h5 : b2 < w'.heap.size) (h6 : w'.cell? ⟨b2, o2, none⟩ = some v2) : Cd W x ((b1, o1, v1) :: (b2, o2, v2) :: K) m w' c s :=
  ((h.below hb).more h5 (h.lz b2 h4) h6).more h2 (h.lz b1 h1) h3

set_option maxRecDepth 100000 in
set_option maxHeartbeats 1000000 in
theorem leap_d (h : Cd W x K m w c s) (ws : List ByteArray) {bk : Nat} (hbk : bk < w.heap.size) (hcells : ∀ (j : Nat) u, ws[j]? = some u → w.cell? ⟨bk, 0 + j, none⟩ = some (.string u)) (hn : ws.length ≤ 6) (hws : ∀ u ∈ ws, u.size ≤ 30) (hG : s.g < 100000000) :
    Calls Tryz.prog 152 #[ptr c, .slice (some ⟨bk, 0, none⟩) ws.length ws.length] w fun e w' => ∃ bl ba, e = .returned (leapV bl ba) ∧ Cv W x ((bl, 0, ptr c) :: (ba, 0, .int .i64 s.L.length) :: K) m w' c (s.add ws) := by
  have H := hid h
  have HC := hid hcells
  have HW := hid hws
  have lb := h.lt
  clear h hcells hws
  go_enter Tryz.func152, Tryz.ntmps152
  go_wp2_with fail
  refine (place_c (Cw.alloc ⟨m, H.out⟩ _)).mono ?_
  rintro e w1 ⟨rfl, rfl⟩
  go_wp2_with fail
  have hb2 : Below w.heap.size w ((w.alloc (.cells #[ptr c] 237)).alloc (.cells #[.int .i64 (s.L.length : Int)] 3)) := ((Below.refl _ w).alloc (Nat.le_refl _) _).alloc (by simp) _
  have H2 := hid (H.out.fresh2 hb2 (b1 := w.heap.size) (o1 := 0) (v1 := ptr c) (b2 := w.heap.size + 1) (o2 := 0) (v2 := .int .i64 s.L.length) (Nat.le_refl _) (by simp; omega) ((World.cell?_alloc_past _ _ _ (by simp)).trans (World.cell?_alloc_new _ _ _ 0)) (by simp) (by simp) (by simp))
  refine (add_d H2.out ws (bk := bk) (Nat.lt_of_lt_of_le hbk hb2.size) (fun j u hu => (hb2.cell (p := ⟨bk, 0 + j, none⟩) hbk).trans (HC.out j u hu)) hn HW.out hG).mono ?_
  rintro e w3 ⟨rfl, h3⟩
  have H3 := hid h3
  clear h3 H2 hb2 H HC HW
  have hmf : ∀ (fn : Fn) (first cap : Array Value) (w : World), (Instr.makeFunc fn first cap).run Tryz.prog w = .ok (.func fn first cap) w := fun _ _ _ _ => rfl
  go_wp2
  go_ret
  exact ⟨_, _, rfl, H3.out⟩

theorem leap_c (h : Cw W x K w c s) (ws : List ByteArray) {bk : Nat} (hbk : bk < w.heap.size) (hcells : ∀ (j : Nat) u, ws[j]? = some u → w.cell? ⟨bk, 0 + j, none⟩ = some (.string u)) (hn : ws.length ≤ 6) (hws : ∀ u ∈ ws, u.size ≤ 30) (hG : s.g < 100000000) :
    Calls Tryz.prog 152 #[ptr c, .slice (some ⟨bk, 0, none⟩) ws.length ws.length] w fun e w' => ∃ bl ba, e = .returned (leapV bl ba) ∧ Cw W x ((bl, 0, ptr c) :: (ba, 0, .int .i64 s.L.length) :: K) w' c (s.add ws) := by
  obtain ⟨m, h⟩ := h
  exact (leap_d h ws hbk hcells hn hws hG).mono fun e w' ⟨bl, ba, he, h'⟩ => ⟨bl, ba, he, h'.cw⟩

/-- What is in line n of the lines. -/
theorem Cd.line (h : Cd W x K m w c s) {n : Nat} (hn : n < s.L.length) : ∃ g k, m.lv = .slice (some ⟨g, 0, none⟩) s.L.length k ∧ w.cell? ⟨g, n, none⟩ = some (.string s.L[n]) ∧ w.frozen? ⟨g, n, none⟩ = false ∧ m.lab g = 2 := by
  rcases h.lrow.2 with ⟨_, e⟩ | ⟨g, cap, cur, e, h1, h2, h3, h4, h5, h6⟩
  · omega
  · have hc := h.lrow.cells (g := g) (by rw [e]; rfl)
    have e1 := hc n (.string s.L[n]) (by simp [List.getElem?_eq_getElem hn])
    have e2 : (⟨g, 0, none⟩ : Addr).add n = ⟨g, n, none⟩ := by cases n <;> simp [Addr.add]
    rw [e2] at e1
    refine ⟨g, cap, e, e1, ?_, h.llv g (by rw [e]; rfl)⟩
    simp [World.frozen?, h2]

theorem Ck.Ok.landed (h : s.Ok) (n : Nat) (l : ByteArray) (hz : l.size ≤ 200 + 30 * (s.g + 1)) : Ck.Ok { s with L := s.L.set n l, g := s.g + 1 } := by
  refine ⟨by simp; exact Nat.le_succ_of_le h.l, fun u hu => ?_, Nat.le_succ_of_le h.t, fun n hn => by simpa using h.tb n hn, fun k hk => ⟨Nat.le_succ_of_le (h.u k hk).1, fun n hn => by simpa using (h.u k hk).2 n hn⟩⟩
  show u.size ≤ 200 + 30 * (s.g + 1)
  rcases List.mem_or_eq_of_mem_set hu with hu | hu
  · have := h.z u hu; omega
  · rw [hu]; exact hz

/-- A line turned. -/
theorem Cd.landed (h : Cd W x K m w c s) {n g k : Nat} (hlv : m.lv = .slice (some ⟨g, 0, none⟩) s.L.length k) (l : ByteArray) (hz : l.size ≤ 200 + 30 * (s.g + 1)) :
    Cd W x K m (w.setCell ⟨g, n, none⟩ (.string l)) c { s with L := s.L.set n l, g := s.g + 1 } := by
  have lb := h.lt
  have hlg : m.lab g = 2 := h.llv g (by rw [hlv]; rfl)
  have hset : Chg (fun k j => k = g ∧ j = n) w (w.setCell ⟨g, n, none⟩ (.string l)) := (Chg.refl _ w).setCell (fun _ => ⟨rfl, rfl⟩) _
  have nk : ∀ k l, m.lab k = l → l ≠ 2 → ∀ j, ¬ (k = g ∧ j = n) := fun k l hk h1 j e => h1 (by rw [← hk, e.1]; exact hlg)
  have hM : ∀ k j, k < w.heap.size → (k = g ∧ j = n) → m.lab k ≠ 0 := by
    rintro k j _ ⟨rfl, _⟩
    rw [hlg]; omega
  have kc : ∀ j, ¬ (c = g ∧ j = n) := nk c 1 h.lc (by omega)
  refine h.turn (h.ok.landed n l hz) hset (fun k j hk e => ⟨hM k j hk e, fun ec => ?_⟩) (fun _ _ => rfl) (fun k hk => h.lz k (by simpa [size_set] using hk)) ((hset.cell _ _ lb (kc 0)).trans h.c0) ((hset.cell _ _ lb (kc 4)).trans h.c4) ((hset.cell _ _ lb (kc 5)).trans h.c5) ((hset.cell _ _ lb (kc 6)).trans h.c6) ?_ (ownsRow_chg h.trow hset (fun q hq => nk _ _ (h.ltv q hq) (by omega))) (h.tl.keep hset hM fun _ _ e => e) (fun k hk => ?_) h.llv h.ltv
  · exact (kc j (ec ▸ e)).elim
  · have hr := h.lrow
    rw [hlv] at hr
    have := ownsRow_set hr n (.string l)
    rw [hlv]
    simpa [List.map_set] using this
  · have hb := h.bk k hk
    exact hb.keep hset hM (nk _ _ hb.lbk (by omega)) (fun q hq => nk _ _ (hb.luv q hq) (by omega)) (fun _ _ => rfl) rfl rfl rfl

set_option maxRecDepth 100000 in
set_option maxHeartbeats 1000000 in
theorem land_d (hm : Cd W x K m w c s) {bl ba n : Nat} (h1 : bl < w.heap.size ∧ m.lab bl = 0 ∧ w.cell? ⟨bl, 0, none⟩ = some (ptr c)) (h2 : ba < w.heap.size ∧ m.lab ba = 0 ∧ w.cell? ⟨ba, 0, none⟩ = some (.int .i64 n)) (hn : n < s.L.length) (hG : s.g < 100000000) :
    Calls Tryz.prog 194 #[ptr bl, ptr ba] w fun e w' => e = .returned (.tuple #[]) ∧ Cd W x K m w' c (s.land n) := by
  have hL := Nat.lt_of_le_of_lt hm.ok.l hG
  obtain ⟨l1, h1, k1⟩ := h1
  obtain ⟨l2, h2, k2⟩ := h2
  obtain ⟨g, k, hlv, he, hf, hlg⟩ := hm.line hn
  have hc := hm.c0
  rw [hlv] at hc
  have hz := hm.ok.z _ (List.getElem_mem hn)
  have hds := dec_size s.L.length (by omega) (by omega)
  generalize hl : s.L[n] = l at *
  have hi1 : (0 : Int) ≤ (n : Int) := by omega
  have hi2 : (n : Int) < (s.L.length : Int) := by omega
  have hs1 : ¬ 9223372036854775807 < 1 + (dec s.L.length).size := by omega
  have hs2 : ¬ 9223372036854775807 < l.size + (1 + (dec s.L.length).size) := by omega
  have KI : Hid (∀ w0, Below w.heap.size w w0 → Calls Tryz.prog 104 #[.int .i64 s.L.length] w0 fun e w' => e = .returned (.string (dec s.L.length)) ∧ Below w0.heap.size w0 w') := hid fun w0 hb => by
    refine (Tryz.strconv_Itoa s.L.length (by omega) (by omega) w0 (hm.base.tab w0 (hm.low.trans (hb.mono hm.low.size)))).mono ?_
    rintro e w' ⟨rfl, k, os, rfl⟩
    exact ⟨rfl, below_grow w0 k os⟩
  have hlz : (l ++ (ySp ++ dec s.L.length)).size ≤ 200 + 30 * (s.g + 1) := by
    simp only [ByteArray.size_append]
    have : (ySp).size = 1 := rfl
    omega
  have hld : s.land n = { s with L := s.L.set n (l ++ (ySp ++ dec s.L.length)), g := s.g + 1 } := by
    simp only [Ck.land, List.getElem?_eq_getElem hn, hl, Option.getD_some]
  have H := hid hm
  have lc : c < w.heap.size := World.block_lt_of_cell? _ _ hc
  have n1 : bl ≠ g := fun e => by rw [e, hlg] at h1; omega
  have n2 : ba ≠ g := fun e => by rw [e, hlg] at h2; omega
  have n3 : c ≠ g := fun e => by have := H.out.lc; rw [e, hlg] at this; omega
  have lg : g < w.heap.size := World.block_lt_of_cell? _ _ he
  clear hm
  go_enter Tryz.func194, Tryz.ntmps194
  go_wp2_with fail
  refine wp_region_held_drew (S := (fun w' => w'.cell? ⟨bl, 0, none⟩ = some (ptr c) ∧ w'.cell? ⟨ba, 0, none⟩ = some (.int .i64 n) ∧ w'.cell? ⟨c, 0, none⟩ = some (.slice (some ⟨g, 0, none⟩) s.L.length k))) (by kernel_rfl) ?_ (fun hHeld => ?_)
  · (try dsimp only); go_keep
  refine wpAnyH_take (i := 0) (v := ?_) rfl (by kernel_rfl) (by kernel_rfl) (by kernel_rfl) (fun _ _ _ h => h) (Or.inl ⟨by rfl, ?_⟩) (by assumption) ?_
  rotate_left
  · (intro w hSw; (try dsimp only at hSw); go_simp; try (with_reducible rfl))
  try simp only [Act.put, List.setIfInBounds_toArray]
  refine wpAnyH_take (i := 1) (v := ?_) rfl (by kernel_rfl) (by kernel_rfl) (by kernel_rfl) (fun _ _ _ h => h) (Or.inl ⟨by rfl, ?_⟩) (by assumption) ?_
  rotate_left
  · (intro w hSw; (try dsimp only at hSw); go_simp; try (with_reducible rfl))
  try simp only [Act.put]
  refine wpAnyH_take (i := 2) (v := ?_) rfl (by kernel_rfl) (by kernel_rfl) (by kernel_rfl) (fun _ _ _ h => h) (Or.inl ⟨by rfl, ?_⟩) (by assumption) ?_
  rotate_left
  · (intro w hSw; (try dsimp only at hSw); go_simp; try (with_reducible rfl))
  try simp only [Act.put]
  refine wpAnyH_take (i := 3) (v := ?_) rfl (by kernel_rfl) (by kernel_rfl) (by kernel_rfl) (fun _ _ _ h => h) (Or.inl ⟨by rfl, ?_⟩) (by assumption) ?_
  rotate_left
  · (intro w hSw; (try dsimp only at hSw); go_simp; try (with_reducible rfl))
  try simp only [Act.put]
  refine wpAnyH_take (i := 4) (v := ?_) rfl (by kernel_rfl) (by kernel_rfl) (by kernel_rfl) (fun _ _ _ h => h) (Or.inl ⟨by rfl, ?_⟩) (by assumption) ?_
  rotate_left
  · (intro w hSw; (try dsimp only at hSw); go_simp; try (with_reducible rfl))
  try simp only [Act.put]
  refine wpAnyH_take (i := 5) (v := ?_) rfl (by kernel_rfl) (by kernel_rfl) (by kernel_rfl) (fun _ _ _ h => h) (Or.inl ⟨by rfl, ?_⟩) (by assumption) ?_
  rotate_left
  · (intro w hSw; (try dsimp only at hSw); go_simp; try (with_reducible rfl))
  try simp only [Act.put]
  refine wpAnyH_take (i := 7) (v := ?_) rfl (by kernel_rfl) (by kernel_rfl) (by kernel_rfl) (fun _ _ _ h => h) (Or.inl ⟨by rfl, ?_⟩) (by assumption) ?_
  rotate_left
  · (intro w hSw; (try dsimp only at hSw); go_simp; try (with_reducible rfl))
  try simp only [Act.put]
  refine wpAnyH_ready (rs := [6, 8]) (by kernel_rfl) (by simp) ?_
  refine AllReadyH.cons rfl (fun K hK => ?_) ?_
  · go_simp
    refine hK.out _ _ ?_ (fun hHeld => ?_)
    · (try dsimp only); (first | go_keep | (refine ⟨(cell_set_ne (.inl n1)).trans ?_, (cell_set_ne (.inl n2)).trans ?_, (cell_set_ne (.inl n3)).trans ?_⟩ <;> assumption))
    clear hK K
    refine wpAnyH_ready (rs := [8]) (by kernel_rfl) (by simp) ?_
    refine AllReadyH.cons rfl (fun K hK => ?_) ?_
    · (go_simp; go_at_call 193; refine (place_c ⟨m, H.out.below (below_drew _ w)⟩).mono ?_; rintro e w1 ⟨rfl, rfl⟩)
      refine hK.out _ _ ?_ (fun hHeld => ?_)
      · (try dsimp only); (first | go_keep | (refine ⟨(cell_set_ne (.inl n1)).trans ?_, (cell_set_ne (.inl n2)).trans ?_, (cell_set_ne (.inl n3)).trans ?_⟩ <;> assumption))
      clear hK K
      refine wpAnyH_ready (rs := [9]) (by kernel_rfl) (by simp) ?_
      refine AllReadyH.cons rfl (fun K hK => ?_) ?_
      · (go_simp; go_at_call 104; refine (KI.out _ (below_drew _ w)).mono ?_; rintro e w1 ⟨rfl, b1⟩; have b0 := (below_drew w.heap.size w).trans b1; have q1 := (b0.cell (p := ⟨bl, 0, none⟩) l1).trans k1; have q2 := (b0.cell (p := ⟨ba, 0, none⟩) l2).trans k2; have q3 := (b0.cell (p := ⟨c, 0, none⟩) lc).trans hc; have q4 := (b0.cell (p := ⟨g, n, none⟩) lg).trans he; have q5 := (b0.frozen (p := ⟨g, n, none⟩) lg).trans hf; have B0 := hid b0; clear b0 b1)
        refine hK.out _ _ ?_ (fun hHeld => ?_)
        · (try dsimp only); (first | go_keep | (refine ⟨(cell_set_ne (.inl n1)).trans ?_, (cell_set_ne (.inl n2)).trans ?_, (cell_set_ne (.inl n3)).trans ?_⟩ <;> assumption))
        clear hK K
        refine wpAnyH_take (i := 10) (v := ?_) rfl (by kernel_rfl) (by kernel_rfl) (by kernel_rfl) (fun _ _ _ h => h) (Or.inl ⟨by rfl, ?_⟩) (by assumption) ?_
        rotate_left
        · (intro w hSw; (try dsimp only at hSw); go_simp; try (with_reducible rfl))
        try simp only [Act.put, List.setIfInBounds_toArray]
        refine wpAnyH_take (i := 11) (v := ?_) rfl (by kernel_rfl) (by kernel_rfl) (by kernel_rfl) (fun _ _ _ h => h) (Or.inl ⟨by rfl, ?_⟩) (by assumption) ?_
        rotate_left
        · (intro w hSw; (try dsimp only at hSw); go_simp; try (with_reducible rfl))
        try simp only [Act.put]
        refine wpAnyH_take (i := 12) (v := ?_) rfl (by kernel_rfl) (by kernel_rfl) (by kernel_rfl) (fun _ _ _ h => h) (Or.inl ⟨by rfl, ?_⟩) (by assumption) ?_
        rotate_left
        · (intro w hSw; (try dsimp only at hSw); go_simp; try (with_reducible rfl))
        try simp only [Act.put]
        refine wpAnyH_ready (rs := [13]) (by kernel_rfl) (by simp) ?_
        refine AllReadyH.cons rfl (fun K hK => ?_) ?_
        · go_simp
          refine hK.out _ _ ?_ (fun hHeld => ?_)
          · (try dsimp only); (first | go_keep | (refine ⟨(cell_set_ne (.inl n1)).trans ?_, (cell_set_ne (.inl n2)).trans ?_, (cell_set_ne (.inl n3)).trans ?_⟩ <;> assumption))
          clear hK K
          refine wpAnyH_done (by kernel_rfl) ?_ _
          go_end0
          exact ⟨rfl, by rw [hld]; exact (H.out.below B0.out).landed (n := n) hlv (l ++ (ySp ++ dec s.L.length)) hlz⟩
        exact AllReadyH.nil
      exact AllReadyH.nil
    exact AllReadyH.nil
  refine AllReadyH.cons rfl (fun K hK => ?_) ?_
  · (go_simp; go_at_call 193; refine (place_c ⟨m, H.out.below (below_drew _ w)⟩).mono ?_; rintro e w1 ⟨rfl, rfl⟩)
    refine hK.out _ _ ?_ (fun hHeld => ?_)
    · (try dsimp only); (first | go_keep | (refine ⟨(cell_set_ne (.inl n1)).trans ?_, (cell_set_ne (.inl n2)).trans ?_, (cell_set_ne (.inl n3)).trans ?_⟩ <;> assumption))
    clear hK K
    refine wpAnyH_ready (rs := [6, 9]) (by kernel_rfl) (by simp) ?_
    refine AllReadyH.cons rfl (fun K hK => ?_) ?_
    · go_simp
      refine hK.out _ _ ?_ (fun hHeld => ?_)
      · (try dsimp only); (first | go_keep | (refine ⟨(cell_set_ne (.inl n1)).trans ?_, (cell_set_ne (.inl n2)).trans ?_, (cell_set_ne (.inl n3)).trans ?_⟩ <;> assumption))
      clear hK K
      refine wpAnyH_ready (rs := [9]) (by kernel_rfl) (by simp) ?_
      refine AllReadyH.cons rfl (fun K hK => ?_) ?_
      · (go_simp; go_at_call 104; refine (KI.out _ (below_drew _ w)).mono ?_; rintro e w1 ⟨rfl, b1⟩; have b0 := (below_drew w.heap.size w).trans b1; have q1 := (b0.cell (p := ⟨bl, 0, none⟩) l1).trans k1; have q2 := (b0.cell (p := ⟨ba, 0, none⟩) l2).trans k2; have q3 := (b0.cell (p := ⟨c, 0, none⟩) lc).trans hc; have q4 := (b0.cell (p := ⟨g, n, none⟩) lg).trans he; have q5 := (b0.frozen (p := ⟨g, n, none⟩) lg).trans hf; have B0 := hid b0; clear b0 b1)
        refine hK.out _ _ ?_ (fun hHeld => ?_)
        · (try dsimp only); (first | go_keep | (refine ⟨(cell_set_ne (.inl n1)).trans ?_, (cell_set_ne (.inl n2)).trans ?_, (cell_set_ne (.inl n3)).trans ?_⟩ <;> assumption))
        clear hK K
        refine wpAnyH_take (i := 10) (v := ?_) rfl (by kernel_rfl) (by kernel_rfl) (by kernel_rfl) (fun _ _ _ h => h) (Or.inl ⟨by rfl, ?_⟩) (by assumption) ?_
        rotate_left
        · (intro w hSw; (try dsimp only at hSw); go_simp; try (with_reducible rfl))
        try simp only [Act.put, List.setIfInBounds_toArray]
        refine wpAnyH_take (i := 11) (v := ?_) rfl (by kernel_rfl) (by kernel_rfl) (by kernel_rfl) (fun _ _ _ h => h) (Or.inl ⟨by rfl, ?_⟩) (by assumption) ?_
        rotate_left
        · (intro w hSw; (try dsimp only at hSw); go_simp; try (with_reducible rfl))
        try simp only [Act.put]
        refine wpAnyH_take (i := 12) (v := ?_) rfl (by kernel_rfl) (by kernel_rfl) (by kernel_rfl) (fun _ _ _ h => h) (Or.inl ⟨by rfl, ?_⟩) (by assumption) ?_
        rotate_left
        · (intro w hSw; (try dsimp only at hSw); go_simp; try (with_reducible rfl))
        try simp only [Act.put]
        refine wpAnyH_ready (rs := [13]) (by kernel_rfl) (by simp) ?_
        refine AllReadyH.cons rfl (fun K hK => ?_) ?_
        · go_simp
          refine hK.out _ _ ?_ (fun hHeld => ?_)
          · (try dsimp only); (first | go_keep | (refine ⟨(cell_set_ne (.inl n1)).trans ?_, (cell_set_ne (.inl n2)).trans ?_, (cell_set_ne (.inl n3)).trans ?_⟩ <;> assumption))
          clear hK K
          refine wpAnyH_done (by kernel_rfl) ?_ _
          go_end0
          exact ⟨rfl, by rw [hld]; exact (H.out.below B0.out).landed (n := n) hlv (l ++ (ySp ++ dec s.L.length)) hlz⟩
        exact AllReadyH.nil
      exact AllReadyH.nil
    refine AllReadyH.cons rfl (fun K hK => ?_) ?_
    · (go_simp; go_at_call 104; refine (KI.out _ (below_drew _ w)).mono ?_; rintro e w1 ⟨rfl, b1⟩; have b0 := (below_drew w.heap.size w).trans b1; have q1 := (b0.cell (p := ⟨bl, 0, none⟩) l1).trans k1; have q2 := (b0.cell (p := ⟨ba, 0, none⟩) l2).trans k2; have q3 := (b0.cell (p := ⟨c, 0, none⟩) lc).trans hc; have q4 := (b0.cell (p := ⟨g, n, none⟩) lg).trans he; have q5 := (b0.frozen (p := ⟨g, n, none⟩) lg).trans hf; have B0 := hid b0; clear b0 b1)
      refine hK.out _ _ ?_ (fun hHeld => ?_)
      · (try dsimp only); (first | go_keep | (refine ⟨(cell_set_ne (.inl n1)).trans ?_, (cell_set_ne (.inl n2)).trans ?_, (cell_set_ne (.inl n3)).trans ?_⟩ <;> assumption))
      clear hK K
      refine wpAnyH_take (i := 10) (v := ?_) rfl (by kernel_rfl) (by kernel_rfl) (by kernel_rfl) (fun _ _ _ h => h) (Or.inl ⟨by rfl, ?_⟩) (by assumption) ?_
      rotate_left
      · (intro w hSw; (try dsimp only at hSw); go_simp; try (with_reducible rfl))
      try simp only [Act.put, List.setIfInBounds_toArray]
      refine wpAnyH_ready (rs := [6]) (by kernel_rfl) (by simp) ?_
      refine AllReadyH.cons rfl (fun K hK => ?_) ?_
      · go_simp
        refine hK.out _ _ ?_ (fun hHeld => ?_)
        · (try dsimp only); (first | go_keep | (refine ⟨(cell_set_ne (.inl n1)).trans ?_, (cell_set_ne (.inl n2)).trans ?_, (cell_set_ne (.inl n3)).trans ?_⟩ <;> assumption))
        clear hK K
        refine wpAnyH_take (i := 11) (v := ?_) rfl (by kernel_rfl) (by kernel_rfl) (by kernel_rfl) (fun _ _ _ h => h) (Or.inl ⟨by rfl, ?_⟩) (by assumption) ?_
        rotate_left
        · (intro w hSw; (try dsimp only at hSw); go_simp; try (with_reducible rfl))
        try simp only [Act.put, List.setIfInBounds_toArray]
        refine wpAnyH_take (i := 12) (v := ?_) rfl (by kernel_rfl) (by kernel_rfl) (by kernel_rfl) (fun _ _ _ h => h) (Or.inl ⟨by rfl, ?_⟩) (by assumption) ?_
        rotate_left
        · (intro w hSw; (try dsimp only at hSw); go_simp; try (with_reducible rfl))
        try simp only [Act.put]
        refine wpAnyH_ready (rs := [13]) (by kernel_rfl) (by simp) ?_
        refine AllReadyH.cons rfl (fun K hK => ?_) ?_
        · go_simp
          refine hK.out _ _ ?_ (fun hHeld => ?_)
          · (try dsimp only); (first | go_keep | (refine ⟨(cell_set_ne (.inl n1)).trans ?_, (cell_set_ne (.inl n2)).trans ?_, (cell_set_ne (.inl n3)).trans ?_⟩ <;> assumption))
          clear hK K
          refine wpAnyH_done (by kernel_rfl) ?_ _
          go_end0
          exact ⟨rfl, by rw [hld]; exact (H.out.below B0.out).landed (n := n) hlv (l ++ (ySp ++ dec s.L.length)) hlz⟩
        exact AllReadyH.nil
      exact AllReadyH.nil
    exact AllReadyH.nil
  exact AllReadyH.nil

theorem land_c (h : Cw W x K w c s) {bl ba n : Nat} (h1 : (bl, 0, ptr c) ∈ K) (h2 : (ba, 0, .int .i64 n) ∈ K) (hn : n < s.L.length) (hG : s.g < 100000000) :
    Calls Tryz.prog 194 #[ptr bl, ptr ba] w fun e w' => e = .returned (.tuple #[]) ∧ Cw W x K w' c (s.land n) := by
  obtain ⟨m, hm⟩ := h
  exact (land_d hm (hm.kp _ h1) (hm.kp _ h2) hn hG).mono fun e w' ⟨he, h'⟩ => ⟨he, m, h'⟩
end
end Go.Proofs.YtfhkfnoajbbfdabGreatDoor

/- The coder: lines of words that are at hand. -/
namespace Go.Proofs.YtfhkfnoajbbfdabGreatDoor
open Go.RowKit

/-- No word is long. -/
def Shorts : List ByteArray → Prop
  | [] => True
  | u :: us => u.size ≤ 30 ∧ Shorts us

theorem Shorts.all : ∀ {ws : List ByteArray}, Shorts ws → ∀ u ∈ ws, u.size ≤ 30
  | [], _, u, hu => by simp at hu
  | a :: r, h, u, hu => by
    rcases List.mem_cons.1 hu with rfl | hu
    · exact h.1
    · exact h.2.all u hu

section
variable {W w w' : World} {x : Cx} {K : List (Nat × Nat × Value)} {m : Cm} {c : Nat} {s : Ck}

theorem words_at (w : World) (ws : List ByteArray) (t : TypeId) : ∀ (j : Nat) u, ws[j]? = some u → (w.alloc (.cells (ws.map .string).toArray t)).cell? ⟨w.heap.size, 0 + j, none⟩ = some (.string u) := by
  intro j u hu
  rw [Nat.zero_add, World.cell?_alloc_new]
  simp [hu]

theorem add_new (h : Cw W x K w c s) (ws : List ByteArray) (hn : ws.length ≤ 6) (hws : Shorts ws) (hG : s.g < 100000000) :
    Calls Tryz.prog 103 #[ptr c, .slice (some ⟨w.heap.size, 0, none⟩) ws.length ws.length] (w.alloc (.cells (ws.map .string).toArray 9)) fun e w' => e = .returned (.tuple #[]) ∧ Cw W x K w' c (s.add ws) :=
  add_c (h.alloc _) ws (by simp) (words_at w ws _) hn hws.all hG

theorem leap_new (h : Cw W x K w c s) (ws : List ByteArray) (hn : ws.length ≤ 6) (hws : Shorts ws) (hG : s.g < 100000000) :
    Calls Tryz.prog 152 #[ptr c, .slice (some ⟨w.heap.size, 0, none⟩) ws.length ws.length] (w.alloc (.cells (ws.map .string).toArray 9)) fun e w' => ∃ bl ba, e = .returned (leapV bl ba) ∧ Cw W x ((bl, 0, ptr c) :: (ba, 0, .int .i64 s.L.length) :: K) w' c (s.add ws) :=
  leap_c (h.alloc _) ws (by simp) (words_at w ws _) hn hws.all hG

theorem leap_newd (h : Cd W x K m w c s) (ws : List ByteArray) (hn : ws.length ≤ 6) (hws : Shorts ws) (hG : s.g < 100000000) :
    Calls Tryz.prog 152 #[ptr c, .slice (some ⟨w.heap.size, 0, none⟩) ws.length ws.length] (w.alloc (.cells (ws.map .string).toArray 9)) fun e w' => ∃ bl ba, e = .returned (leapV bl ba) ∧ Cv W x ((bl, 0, ptr c) :: (ba, 0, .int .i64 s.L.length) :: K) m w' c (s.add ws) :=
  leap_d (h.below ((Below.refl _ w).alloc (Nat.le_refl _) _)) ws (by simp) (words_at w ws _) hn hws.all hG

theorem szDec (n : Int) (h0 : -9223372036854775808 ≤ n) (h1 : n ≤ 9223372036854775807) : (dec n).size ≤ 30 := Nat.le_trans (dec_size n h0 h1) (by omega)
theorem szReg (n : Int) (h0 : 0 ≤ n) (h1 : n ≤ 100) : (regW n).size ≤ 30 := Nat.le_trans (reg_size n (by omega) (by omega)) (by omega)
theorem szVer (n : Int) (h0 : 0 ≤ n) (h1 : n ≤ 100) : (verW n).size ≤ 30 := szDec _ (by omega) (by omega)
theorem szOwn (h : x.th ≤ 3) (n : Int) (h0 : 0 ≤ n) (h1 : n ≤ 100) : (x.own n).size ≤ 30 := szDec _ (by omega) (by omega)
theorem szLock (h : x.th ≤ 3) : (x.lock).size ≤ 30 := szDec _ (by omega) (by omega)
theorem szLocal (h : CBase W x) (u : ByteArray) : (x.local u).size ≤ 30 := by
  have := locI_le h u
  exact szReg _ (by omega) (by omega)
theorem szVal (h : CBase W x) {a : PV} (ha : a.ok) : (x.val a).size ≤ 30 := by
  unfold Cx.val
  split
  · exact szDec _ ha.2.1 ha.2.2
  · exact szLocal h _

set_option maxRecDepth 100000 in
set_option maxHeartbeats 1000000 in
theorem back_c (h : Cw W x K w c s) {n : Nat} (hn : n < 100000000) (hG : s.g < 100000000) :
    Calls Tryz.prog 195 #[ptr c, .int .i64 n] w fun e w' => e = .returned (.tuple #[]) ∧ Cw W x K w' c (s.back n) := by
  have H := hid h
  clear h
  go_enter Tryz.func195, Tryz.ntmps195
  go_wp2_with fail
  refine (itoa_c H.out n (by omega) (by omega)).mono ?_
  rintro e w1 ⟨rfl, h1⟩
  have H1 := hid h1
  clear h1 H
  go_wp2_with fail
  refine (add_new H1.out [yJmp, dec n] (by simp) ⟨by decide, szDec _ (by omega) (by omega), trivial⟩ hG).mono ?_
  rintro e w2 ⟨rfl, h2⟩
  have H2 := hid h2
  clear h2 H1
  go_wp2
  go_end0
  exact ⟨rfl, H2.out⟩

set_option maxRecDepth 100000 in
set_option maxHeartbeats 1000000 in
theorem isEarly_c (h : Cw W x K w c s) {u : ByteArray} (hu : u.size ≤ 30) {n : Int} (h0 : 0 ≤ n) (h1 : n ≤ 100) (hG : s.g + 2 < 100000000) :
    Calls Tryz.prog 213 #[ptr c, .string u, .int .i64 n] w fun e w' => e = .returned (.tuple #[]) ∧ Cw W x K w' c (gIsEarly u n s) := by
  have H := hid h
  clear h
  go_enter Tryz.func213, Tryz.ntmps213
  go_wp2_with fail
  go_region_law (first
    | (go_simp; go_at_call 236; refine (version_c H.out.drew n h0 h1).mono ?_; rintro e w1 ⟨rfl, q⟩; have H1 := hid q; clear q)
    | (go_simp; go_at_call 103; refine (add_new H1.out [yLoad, yR4, u, verW n] (by simp) ⟨by decide, by decide, hu, szVer n h0 h1, trivial⟩ (by omega)).mono ?_; rintro e w2 ⟨rfl, q⟩; have H2 := hid q; clear q))
  go_wp2_with fail
  refine (add_new H2.out [yLt, yR4, yR4, yR6] (by simp) ⟨by decide, by decide, by decide, by decide, trivial⟩ (by show s.g + 1 < _; omega)).mono ?_
  rintro e w3 ⟨rfl, q⟩
  have H3 := hid q
  clear q
  go_wp2
  go_end0
  exact ⟨rfl, H3.out⟩
end
end Go.Proofs.YtfhkfnoajbbfdabGreatDoor

/- The coder: leaps that are to lead to the trap, or to where the locks are undone. -/
namespace Go.Proofs.YtfhkfnoajbbfdabGreatDoor
open Go.RowKit

section
variable {W w w' : World} {x : Cx} {K : List (Nat × Nat × Value)} {m : Cm} {c : Nat} {s : Ck}

theorem Cd.isLeap (h : Cd W x K m w c s) {bl ba n : Nat} (h1 : (bl, 0, ptr c) ∈ K) (h2 : (ba, 0, .int .i64 n) ∈ K) : IsLeap m.lab w c (leapV bl ba) n :=
  ⟨bl, ba, rfl, h.kp _ h1, h.kp _ h2⟩

theorem Cd.pushTrap (h : Cd W x K m w c s) {f : Value} {n : Nat} (hf : IsLeap m.lab w c f n) (hn : n < s.L.length) (hT : s.T.length + 1 ≤ s.g) {w3 : World} {g cp : Nat}
    (ho : w3.ownsRow 0 1 1 (.slice (some ⟨g, 0, none⟩) (s.T.length + 1) cp) (s.T.length + 1) (m.TV ++ [f]))
    (hc : Chg (fun k _ => m.tv.ownBlock = some k) w w3) (hg : m.tv.ownBlock = some g ∨ g = w.heap.size) :
    Cw W x K (w3.setCell ⟨c, 6, none⟩ (.slice (some ⟨g, 0, none⟩) (s.T.length + 1) cp)) c { s with T := s.T ++ [n] } := by
  have lb := h.lt
  have nc : ¬ m.tv.ownBlock = some c := fun e => by have := h.ltv _ e; rw [h.lc] at this; omega
  have hgc : g ≠ c := by
    rcases hg with e | e
    · exact fun e' => nc (e' ▸ e)
    · omega
  have hgs : g < w3.heap.size := (ho.lt g rfl).2
  have hset : Chg (fun k j => k = c ∧ j = 6) w3 (w3.setCell ⟨c, 6, none⟩ (.slice (some ⟨g, 0, none⟩) (s.T.length + 1) cp)) := (Chg.refl _ w3).setCell (fun _ => ⟨rfl, rfl⟩) _
  have hall : Chg (fun k j => m.tv.ownBlock = some k ∨ (k = c ∧ j = 6)) w (w3.setCell ⟨c, 6, none⟩ (.slice (some ⟨g, 0, none⟩) (s.T.length + 1) cp)) := (hc.mono (fun _ _ _ e => .inl e)).trans (hset.mono (fun _ _ _ e => .inr e))
  have hold : ∀ k, k < w.heap.size → (if k = g then 3 else m.lab k) = m.lab k := by
    intro k hk
    by_cases e : k = g
    · rw [if_pos e]
      rcases hg with hg | hg
      · rw [e]; exact (h.ltv g hg).symm
      · omega
    · rw [if_neg e]
  have nk : ∀ k l, m.lab k = l → l ≠ 3 → l ≠ 1 → ∀ j, ¬ (m.tv.ownBlock = some k ∨ (k = c ∧ j = 6)) := fun k l hk h1 h2 j e => by
    rcases e with e | e
    · exact h1 (hk.symm.trans (h.ltv k e))
    · exact h2 (hk.symm.trans (e.1 ▸ h.lc))
  have kc : ∀ j, j ≠ 6 → ¬ (m.tv.ownBlock = some c ∨ (c = c ∧ j = 6)) := fun j hj e => e.elim nc (fun e => hj e.2)
  have hM : ∀ k j, k < w.heap.size → (m.tv.ownBlock = some k ∨ (k = c ∧ j = 6)) → m.lab k ≠ 0 := by
    rintro k j _ (e | ⟨rfl, _⟩)
    · rw [h.ltv k e]; omega
    · rw [h.lc]; omega
  refine ⟨{ m with lab := fun k => if k = g then 3 else m.lab k, tv := .slice (some ⟨g, 0, none⟩) (s.T.length + 1) cp, TV := m.TV ++ [f] }, h.turn ?_ hall ?_ hold ?_ ((hall.cell _ _ lb (kc 0 (by omega))).trans h.c0) ((hall.cell _ _ lb (kc 4 (by omega))).trans h.c4) ((hall.cell _ _ lb (kc 5 (by omega))).trans h.c5) (cell_set_eq ((hc.cell _ _ lb nc).trans h.c6) rfl) (ownsRow_chg h.lrow hall (fun q hq => nk _ _ (h.llv q hq) (by omega) (by omega))) ?_ ((h.tl.push hf).keep hall hM fun k hk e => (hold k hk).trans e) ?_ ?_ ?_⟩
  · refine ⟨h.ok.l, h.ok.z, by simpa using hT, fun n' hn' => ?_, h.ok.u⟩
    rcases List.mem_append.1 hn' with q | q
    · exact h.ok.tb n' q
    · rw [List.mem_singleton.1 q]; exact hn
  · intro k j hk e
    refine ⟨hM k j hk e, fun ec => ?_⟩
    rcases e with e | e
    · exact (nc (ec ▸ e)).elim
    · omega
  · intro k hk
    have : w3.heap.size ≤ k := by simpa [size_set] using hk
    show (if k = g then 3 else m.lab k) = 0
    rw [if_neg (by omega)]
    exact h.lz k (Nat.le_trans hc.size this)
  · have := ownsRow_chg ho hset (fun k hk j e => by simp [Value.ownBlock] at hk; exact hgc (hk.trans e.1))
    simpa using this
  · intro k hk
    have hb := h.bk k hk
    exact hb.keep hall hM (nk _ _ hb.lbk (by omega) (by omega)) (fun q hq => nk _ _ (hb.luv q hq) (by omega) (by omega)) hold rfl rfl rfl
  · intro q hq
    exact (hold q (h.lrow.lt q hq).2).trans (h.llv q hq)
  · intro q hq
    simp [Value.ownBlock] at hq
    subst hq
    exact if_pos rfl

theorem Cd.pushUndo (h : Cd W x K m w c s) {k : Bk} (hk : s.blk = some k) {f : Value} {n : Nat} (hf : IsLeap m.lab w c f n) (hn : n < s.L.length) (hU : k.undo.length + 1 ≤ s.g) {w3 : World} {g cp : Nat}
    (ho : w3.ownsRow 0 1 1 (.slice (some ⟨g, 0, none⟩) (k.undo.length + 1) cp) (k.undo.length + 1) (m.UV ++ [f]))
    (hc : Chg (fun k _ => m.uv.ownBlock = some k) w w3) (hg : m.uv.ownBlock = some g ∨ g = w.heap.size) :
    Cw W x K (w3.setCell ⟨m.b, 18, none⟩ (.slice (some ⟨g, 0, none⟩) (k.undo.length + 1) cp)) c { s with blk := some { k with undo := k.undo ++ [n] } } := by
  have lb := h.lt
  have hb := h.bk k hk
  have lbb := lt_of_shape hb.sh
  have nc : ¬ m.uv.ownBlock = some m.b := fun e => by have := hb.luv _ e; rw [hb.lbk] at this; omega
  have hgc : g ≠ m.b := by
    rcases hg with e | e
    · exact fun e' => nc (e' ▸ e)
    · omega
  have hgs : g < w3.heap.size := (ho.lt g rfl).2
  have hset : Chg (fun k j => k = m.b ∧ j = 18) w3 (w3.setCell ⟨m.b, 18, none⟩ (.slice (some ⟨g, 0, none⟩) (k.undo.length + 1) cp)) := (Chg.refl _ w3).setCell (fun _ => ⟨rfl, rfl⟩) _
  have hall : Chg (fun k j => m.uv.ownBlock = some k ∨ (k = m.b ∧ j = 18)) w (w3.setCell ⟨m.b, 18, none⟩ (.slice (some ⟨g, 0, none⟩) (k.undo.length + 1) cp)) := (hc.mono (fun _ _ _ e => .inl e)).trans (hset.mono (fun _ _ _ e => .inr e))
  have hold : ∀ k, k < w.heap.size → (if k = g then 5 else m.lab k) = m.lab k := by
    intro k hk
    by_cases e : k = g
    · rw [if_pos e]
      rcases hg with hg | hg
      · rw [e]; exact (hb.luv g hg).symm
      · omega
    · rw [if_neg e]
  have nk : ∀ k l, m.lab k = l → l ≠ 5 → l ≠ 4 → ∀ j, ¬ (m.uv.ownBlock = some k ∨ (k = m.b ∧ j = 18)) := fun k l hk h1 h2 j e => by
    rcases e with e | e
    · exact h1 (hk.symm.trans (hb.luv k e))
    · exact h2 (hk.symm.trans (e.1 ▸ hb.lbk))
  have kb : ∀ j, j ≠ 18 → (w3.setCell ⟨m.b, 18, none⟩ (.slice (some ⟨g, 0, none⟩) (k.undo.length + 1) cp)).cell? ⟨m.b, j, none⟩ = w.cell? ⟨m.b, j, none⟩ := fun j hj => hall.cell _ _ lbb (fun e => e.elim nc (fun e => hj e.2))
  have hM : ∀ k j, k < w.heap.size → (m.uv.ownBlock = some k ∨ (k = m.b ∧ j = 18)) → m.lab k ≠ 0 := by
    rintro k j _ (e | ⟨rfl, _⟩)
    · rw [hb.luv k e]; omega
    · rw [hb.lbk]; omega
  have kc := nk c 1 h.lc (by omega) (by omega)
  refine ⟨{ m with lab := fun k => if k = g then 5 else m.lab k, uv := .slice (some ⟨g, 0, none⟩) (k.undo.length + 1) cp, UV := m.UV ++ [f] }, h.turn ?_ hall ?_ hold ?_ ((hall.cell _ _ lb (kc 0)).trans h.c0) ((hall.cell _ _ lb (kc 4)).trans h.c4) ?_ ((hall.cell _ _ lb (kc 6)).trans h.c6) (ownsRow_chg h.lrow hall (fun q hq => nk _ _ (h.llv q hq) (by omega) (by omega))) (ownsRow_chg h.trow hall (fun q hq => nk _ _ (h.ltv q hq) (by omega) (by omega))) (h.tl.keep hall hM fun k hk e => (hold k hk).trans e) ?_ ?_ ?_⟩
  · refine ⟨h.ok.l, h.ok.z, h.ok.t, h.ok.tb, fun k' hk' => ?_⟩
    cases hk'
    refine ⟨by simpa using hU, fun n' hn' => ?_⟩
    rcases List.mem_append.1 hn' with q | q
    · exact (h.ok.u k hk).2 n' q
    · rw [List.mem_singleton.1 q]; exact hn
  · intro k j hk e
    exact ⟨hM k j hk e, fun ec => (kc j (ec ▸ e)).elim⟩
  · intro k hk
    have : w3.heap.size ≤ k := by simpa [size_set] using hk
    show (if k = g then 5 else m.lab k) = 0
    rw [if_neg (by omega)]
    exact h.lz k (Nat.le_trans hc.size this)
  · have := (hall.cell _ _ lb (kc 5)).trans h.c5
    rw [this]
    simp only [blkV, hk]
  · intro k' hk'
    cases hk'
    exact {
      sh := (hall.shape _ lbb).trans hb.sh
      g := fun i v hv => by
        have : i < 6 := by rw [← hb.n1]; exact (List.getElem?_eq_some_iff.1 hv).1
        exact (kb i (by omega)).trans (hb.g i v hv)
      p := fun i v hv => by
        have : i < 6 := by rw [← hb.n2]; exact (List.getElem?_eq_some_iff.1 hv).1
        exact (kb (6 + i) (by omega)).trans (hb.p i v hv)
      ch := fun i v hv => by
        have : i < 4 := by rw [← hb.n3]; exact (List.getElem?_eq_some_iff.1 hv).1
        exact (kb (12 + i) (by omega)).trans (hb.ch i v hv)
      gv := (kb 16 (by omega)).trans hb.gv
      ag := (kb 17 (by omega)).trans hb.ag
      un := cell_set_eq ((hc.cell _ _ lbb nc).trans hb.un) rfl
      free := fun j => (hall.frozen _ _ lbb).trans (hb.free j)
      urow := by
        have := ownsRow_chg ho hset (fun k hk j e => by simp [Value.ownBlock] at hk; exact hgc (hk.trans e.1))
        simpa using this
      ul := (hb.ul.push hf).keep hall hM fun k hk e => (hold k hk).trans e
      lbk := (hold _ lbb).trans hb.lbk
      luv := fun q hq => by
        simp [Value.ownBlock] at hq
        subst hq
        exact if_pos rfl
      n1 := hb.n1, n2 := hb.n2, n3 := hb.n3 }
  · intro q hq
    exact (hold q (h.lrow.lt q hq).2).trans (h.llv q hq)
  · intro q hq
    exact (hold q (h.trow.lt q hq).2).trans (h.ltv q hq)

theorem infoFn : (Tryz.prog.info? 1).map (fun i => (i.zero, i.size, i.bytes)) = some (some .nilFunc, 1, 8) := by kernel_rfl
end
end Go.Proofs.YtfhkfnoajbbfdabGreatDoor
