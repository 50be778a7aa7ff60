import Derived.Test.YtfhkfnoajbbfdaaGreatDoorPart23
import Derived.Test.YtfhkfnoajbbfdaaGreatDoorPart20
import Derived.Test.YtfhkfnoajbbfdaaGreatDoorPart22
import Derived.Test.YtfhkfnoajbbfdaaGreatDoorPart09
/- readIns at any word; withLine at any line. -/
namespace Go.Proofs.YtfhkfnoajbbfdaaGreatDoor
open Go.RowKit

def opIx (u : ByteArray) : Option Nat := (List.range 12).find? fun j => decide (opWords j = u)

theorem opIx_some {u : ByteArray} {k : Nat} (h : opIx u = some k) : k < 12 ∧ opWords k = u :=
  ⟨by simpa using List.mem_of_find?_eq_some h, by simpa using List.find?_some h⟩
theorem opIx_none {u : ByteArray} (h : opIx u = none) : ∀ j, j < 12 → opWords j ≠ u := by
  intro j hj
  have := List.find?_eq_none.1 h j (by simpa using hj)
  simpa using this

/-- What a line behind its first word makes. -/
def gIns (u : ByteArray) (ws : List ByteArray) : Option (Ic × List ByteArray) :=
  match opIx u with
  | some k => gop k ws
  | none =>
    if u = wMov then gmov ws else if u = wLoad then gload ws else if u = wStore then gstore ws else if u = wCas then gcas ws else if u = wXadd then gxadd ws else if u = wFence then gfence ws
    else if u = wOut then gout ws else if u = wJmp then gjmp ws else if u = wJz then gjz ws else if u = wTrap then gtrap ws else if u = wHalt then ghalt ws else none

section
variable {w : World} {bl bw : Nat} {n : Int} {ws : List ByteArray}

set_option maxRecDepth 100000 in
set_option maxHeartbeats 1000000 in
theorem rins_none {u : ByteArray} (h : LineAt w bl n bw ws) (hE : Hid (Env w)) (hn : Hid (∀ j, j < 12 → opWords j ≠ u))
    (q1 : (u.toList == [109, 111, 118]) = false) (q2 : (u.toList == [108, 111, 97, 100]) = false) (q3 : (u.toList == [115, 116, 111, 114, 101]) = false) (q4 : (u.toList == [99, 97, 115]) = false) (q5 : (u.toList == [120, 97, 100, 100]) = false) (q6 : (u.toList == [102, 101, 110, 99, 101]) = false)
    (q7 : (u.toList == [111, 117, 116]) = false) (q8 : (u.toList == [106, 109, 112]) = false) (q9 : (u.toList == [106, 122]) = false) (q10 : (u.toList == [116, 114, 97, 112]) = false) (q11 : (u.toList == [104, 97, 108, 116]) = false) :
    Calls Tryz.prog 140 #[.string u, ptr bl] w fun e w' => Fails 2 n bl w e w' := by
  have H0 := hid h
  clear h
  go_enter Tryz.func140, Tryz.ntmps140
  go_wp2_with fail
  refine (named_none w u opWords hE.out.words hn.out).mono ?_
  rintro e W0 ⟨rfl, hW0⟩
  subst W0
  go_wp2_with fail
  refine (fail_any H0.out 2).mono ?_
  intro e Wf hf
  obtain ⟨bf, rfl, hf'⟩ := hf.thru (Chg.refl _ w)
  exact ⟨rfl, hf'⟩

theorem ne_list {u : ByteArray} {l : List UInt8} (h : u ≠ ⟨l.toArray⟩) : (u.toList == l) = false := by
  have := ba_ne h
  rwa [show (ByteArray.mk l.toArray).toList = l from by rw [ByteArray.toList_eq]] at this

theorem readIns_any {u : ByteArray} (h : LineAt w bl n bw ws) (hE : Env w) (hbl : 10 ≤ bl) (hz : SzOk ws) :
    Calls Tryz.prog 140 #[.string u, ptr bl] w fun e w' => Rds bl n bw w ((gIns u ws).map fun p => (encIns p.1, p.2)) e w' := by
  unfold gIns
  cases ho : opIx u with
  | some k => exact rins_op (opIx_some ho).1 (opIx_some ho).2 h hE hbl hz
  | none =>
    simp only
    by_cases e1 : u = wMov
    · subst e1; exact rins_mov h hE hbl hz
    rw [if_neg e1]
    by_cases e2 : u = wLoad
    · subst e2; exact rins_load h hE hbl hz
    rw [if_neg e2]
    by_cases e3 : u = wStore
    · subst e3; exact rins_store h hE hbl hz
    rw [if_neg e3]
    by_cases e4 : u = wCas
    · subst e4; exact rins_cas h hE hbl hz
    rw [if_neg e4]
    by_cases e5 : u = wXadd
    · subst e5; exact rins_xadd h hE hbl hz
    rw [if_neg e5]
    by_cases e6 : u = wFence
    · subst e6; exact rins_fence h hE
    rw [if_neg e6]
    by_cases e7 : u = wOut
    · subst e7; exact rins_out h hE hbl hz
    rw [if_neg e7]
    by_cases e8 : u = wJmp
    · subst e8; exact rins_jmp h hE hbl hz
    rw [if_neg e8]
    by_cases e9 : u = wJz
    · subst e9; exact rins_jz h hE hbl hz
    rw [if_neg e9]
    by_cases e10 : u = wTrap
    · subst e10; exact rins_trap h hE hbl hz
    rw [if_neg e10]
    by_cases e11 : u = wHalt
    · subst e11; exact rins_halt h hE
    rw [if_neg e11]
    exact rins_none h hE (opIx_none ho) (ne_list e1) (ne_list e2) (ne_list e3) (ne_list e4) (ne_list e5) (ne_list e6) (ne_list e7) (ne_list e8) (ne_list e9) (ne_list e10) (ne_list e11)

theorem ri_ok {u : ByteArray} {ic : Ic} {ws1 : List ByteArray} {T : TypeId} {p : Value} (h : LineAt w bl n bw ws) (hE : Env w) (hbl : 10 ≤ bl) (hz : SzOk ws) (hv : gIns u ws = some (ic, ws1)) (hT : encIns ic = .iface T p) :
    Calls Tryz.prog 140 #[.string u, ptr bl] w fun e w' => e = .returned (.iface T p) ∧ LineAt w' bl n bw ws1 ∧ Chg (lineM bl) w w' := by
  have k := readIns_any (u := u) h hE hbl hz
  rw [hv, ← hT] at *
  exact k
theorem ri_no {u : ByteArray} (h : LineAt w bl n bw ws) (hE : Env w) (hbl : 10 ≤ bl) (hz : SzOk ws) (hv : gIns u ws = none) :
    Calls Tryz.prog 140 #[.string u, ptr bl] w fun e w' => Fails 2 n bl w e w' := by
  have k := readIns_any (u := u) h hE hbl hz
  rw [hv] at k
  exact k

/-! What withLine does with a line that fails. -/

set_option maxRecDepth 100000 in
set_option maxHeartbeats 1000000 in
/-- A thread's head with something behind it. -/
theorem wl_head_more {u : ByteArray} {a : Option Addr} {k c : Nat} (h : LineAt w bl n bw (wThread :: u :: ws)) (hz : SzOk (u :: ws)) :
    Calls Tryz.prog 107 #[.slice a k c, ptr bl] w fun e w' => Fails 2 n bl w e w' := by
  have H0 := hid h
  clear h
  go_enter Tryz.func107, Tryz.ntmps107
  go_wp2_with fail
  refine (word_ok H0.out hz.1).mono ?_
  rintro e W1 ⟨rfl, h1, c1⟩
  have H1 := hid h1
  have C1 := hid c1
  clear h1 c1
  rw [show wThread = ⟨#[116, 104, 114, 101, 97, 100]⟩ from rfl]
  go_wp2_with fail
  refine (end_some H1.out).mono ?_
  intro e Wf hf
  obtain ⟨bf, rfl, hf'⟩ := hf.thru C1.out
  exact ⟨rfl, hf'⟩

set_option maxRecDepth 100000 in
set_option maxHeartbeats 1000000 in
/-- A fourth thread. -/
theorem wl_head_full {a : Option Addr} {c : Nat} (h : LineAt w bl n bw [wThread]) :
    Calls Tryz.prog 107 #[.slice a 3 c, ptr bl] w fun e w' => Fails 5 n bl w e w' := by
  have H0 := hid h
  clear h
  go_enter Tryz.func107, Tryz.ntmps107
  go_wp2_with fail
  refine (word_ok H0.out (by simp)).mono ?_
  rintro e W1 ⟨rfl, h1, c1⟩
  have H1 := hid h1
  have C1 := hid c1
  clear h1 c1
  rw [show wThread = ⟨#[116, 104, 114, 101, 97, 100]⟩ from rfl]
  go_wp2_with fail
  refine (end_ok H1.out).mono ?_
  rintro e W2 ⟨rfl, rfl⟩
  go_wp2_with fail
  refine (fail_any H1.out 5).mono ?_
  intro e Wf hf
  obtain ⟨bf, rfl, hf'⟩ := hf.thru C1.out
  exact ⟨rfl, hf'⟩

set_option maxRecDepth 100000 in
set_option maxHeartbeats 1000000 in
/-- No instruction. -/
theorem wl_ins_bad {u : ByteArray} {a : Option Addr} {k c : Nat} (h : LineAt w bl n bw (u :: ws)) (hE : Hid (Env w)) (hbl : 10 ≤ bl) (hz : SzOk (u :: ws)) (hu : u ≠ wThread) (hv : Hid (gIns u ws = none)) :
    Calls Tryz.prog 107 #[.slice a k c, ptr bl] w fun e w' => Fails 2 n bl w e w' := by
  have hne := ne_list hu
  have H0 := hid h
  clear h hu
  go_enter Tryz.func107, Tryz.ntmps107
  go_wp2_with fail
  refine (word_ok H0.out hz.len).mono ?_
  rintro e W1 ⟨rfl, h1, c1⟩
  have H1 := hid h1
  have C1 := hid c1
  clear h1 c1
  go_wp2_with fail
  refine (ri_no H1.out (hE.out.line C1.out hbl) hbl hz.tail hv.out).mono ?_
  intro e Wf hf
  obtain ⟨bf, rfl, hf'⟩ := hf.thru C1.out
  exact ⟨rfl, hf'⟩

set_option maxRecDepth 100000 in
set_option maxHeartbeats 1000000 in
/-- An instruction with something behind it. -/
theorem wl_ins_more {u u2 : ByteArray} {ws2 : List ByteArray} {ic : Ic} {a : Option Addr} {k c : Nat} (h : LineAt w bl n bw (u :: ws)) (hE : Hid (Env w)) (hbl : 10 ≤ bl) (hz : SzOk (u :: ws)) (hu : u ≠ wThread) (hv : Hid (gIns u ws = some (ic, u2 :: ws2))) :
    Calls Tryz.prog 107 #[.slice a k c, ptr bl] w fun e w' => Fails 2 n bl w e w' := by
  have hne := ne_list hu
  have H0 := hid h
  clear h hu
  go_enter Tryz.func107, Tryz.ntmps107
  go_wp2_with fail
  refine (word_ok H0.out hz.len).mono ?_
  rintro e W1 ⟨rfl, h1, c1⟩
  have H1 := hid h1
  have C1 := hid c1
  clear h1 c1
  go_wp2_with fail
  refine (ri_ok H1.out (hE.out.line C1.out hbl) hbl hz.tail hv.out rfl).mono ?_
  rintro e W2 ⟨rfl, h2, c2⟩
  have H2 := hid h2
  have C2 := hid (C1.out.trans c2)
  clear h2 c2
  go_wp2_with fail
  refine (end_some H2.out).mono ?_
  intro e Wf hf
  obtain ⟨bf, rfl, hf'⟩ := hf.thru C2.out
  exact ⟨rfl, hf'⟩

set_option maxRecDepth 100000 in
set_option maxHeartbeats 1000000 in
/-- An instruction with no thread above it. -/
theorem wl_ins_place {u : ByteArray} {ic : Ic} {a : Option Addr} {c : Nat} (h : LineAt w bl n bw (u :: ws)) (hE : Hid (Env w)) (hbl : 10 ≤ bl) (hz : SzOk (u :: ws)) (hu : u ≠ wThread) (hv : Hid (gIns u ws = some (ic, []))) :
    Calls Tryz.prog 107 #[.slice a 0 c, ptr bl] w fun e w' => Fails 3 n bl w e w' := by
  have hne := ne_list hu
  have H0 := hid h
  clear h hu
  go_enter Tryz.func107, Tryz.ntmps107
  go_wp2_with fail
  refine (word_ok H0.out hz.len).mono ?_
  rintro e W1 ⟨rfl, h1, c1⟩
  have H1 := hid h1
  have C1 := hid c1
  clear h1 c1
  go_wp2_with fail
  refine (ri_ok H1.out (hE.out.line C1.out hbl) hbl hz.tail hv.out rfl).mono ?_
  rintro e W2 ⟨rfl, h2, c2⟩
  have H2 := hid h2
  have C2 := hid (C1.out.trans c2)
  clear h2 c2
  go_wp2_with fail
  refine (end_ok H2.out).mono ?_
  rintro e W3 ⟨rfl, rfl⟩
  go_wp2_with fail
  refine (fail_any H2.out 3).mono ?_
  intro e Wf hf
  obtain ⟨bf, rfl, hf'⟩ := hf.thru C2.out
  exact ⟨rfl, hf'⟩

set_option maxRecDepth 100000 in
set_option maxHeartbeats 1000000 in
/-- A thread's instruction too many. -/
theorem wl_ins_full {u : ByteArray} {ic : Ic} {g k c : Nat} {ia : Option Addr} {icp : Nat} (h : LineAt w bl n bw (u :: ws)) (hE : Hid (Env w)) (hbl : 10 ≤ bl) (hz : SzOk (u :: ws)) (hu : u ≠ wThread) (hv : Hid (gIns u ws = some (ic, []))) (hk : k < 3)
    (hg : g ≠ bl) (hlt : g < w.heap.size) (hc : w.cell? ⟨g, k, none⟩ = some (.slice ia 4000 icp)) :
    Calls Tryz.prog 107 #[.slice (some ⟨g, 0, none⟩) (k + 1) c, ptr bl] w fun e w' => Fails 5 n bl w e w' := by
  have hne := ne_list hu
  have H0 := hid h
  have hk' : ¬ (k : Int) + 1 = 0 := by omega
  clear h hu
  go_enter Tryz.func107, Tryz.ntmps107
  go_wp2_with fail
  refine (word_ok H0.out hz.len).mono ?_
  rintro e W1 ⟨rfl, h1, c1⟩
  have H1 := hid h1
  have C1 := hid c1
  clear h1 c1
  go_wp2_with fail
  refine (ri_ok H1.out (hE.out.line C1.out hbl) hbl hz.tail hv.out rfl).mono ?_
  rintro e W2 ⟨rfl, h2, c2⟩
  have H2 := hid h2
  have C2 := hid (C1.out.trans c2)
  clear h2 c2
  go_wp2_with fail
  refine (end_ok H2.out).mono ?_
  rintro e W3 ⟨rfl, rfl⟩
  have hc3 := (C2.out.cell g k hlt (fun e => hg e.1)).trans hc
  go_wp2_with fail
  refine (fail_any H2.out 5).mono ?_
  intro e Wf hf
  obtain ⟨bf, rfl, hf'⟩ := hf.thru C2.out
  exact ⟨rfl, hf'⟩
end
end Go.Proofs.YtfhkfnoajbbfdaaGreatDoor

/- What a line makes of the threads read so far, whatever it holds. -/
namespace Go.Proofs.YtfhkfnoajbbfdaaGreatDoor
open Go.RowKit

/-- What a line makes of the threads read so far; or its fault. -/
def gLine (ws : List ByteArray) (acc : List (List Ic)) : Except Int (List (List Ic)) :=
  match ws with
  | [] => .error 2
  | u :: us =>
    if u = wThread then (match us with
      | [] => if acc.length = 3 then .error 5 else .ok (acc ++ [[]])
      | _ :: _ => .error 2)
    else match gIns u us with
      | none => .error 2
      | some (_, _ :: _) => .error 2
      | some (ic, []) => match acc.getLast? with
        | none => .error 3
        | some c => if c.length = 4000 then .error 5 else .ok (acc.dropLast ++ [c ++ [ic]])

section
variable {B bl bw bt : Nat} {n : Int} {W : World} {v : Value} {acc : List (List Ic)} {xs : List Value} {ws : List ByteArray}

set_option maxRecDepth 100000 in
set_option maxHeartbeats 1000000 in
theorem read1_fail {er : Int} (hc : W.cell? ⟨bt, 0, none⟩ = some v) (hcall : Hid (Calls Tryz.prog 107 #[v, ptr bl] W fun e w' => Fails er n bl W e w')) :
    Calls Tryz.prog 106 #[ptr bl, ptr bt] W fun e w' => Fails er n bl W e w' := by
  go_enter Tryz.func106, Tryz.ntmps106
  go_wp2_with fail
  refine hcall.out.mono ?_
  intro e Wf hf
  obtain ⟨bf, rfl, hf'⟩ := hf.thru (Chg.refl _ W)
  exact ⟨rfl, hf'⟩

set_option maxRecDepth 100000 in
set_option maxHeartbeats 1000000 in
theorem wl_nil {a : Option Addr} {k c : Nat} (h : LineAt W bl n bw []) :
    Calls Tryz.prog 107 #[.slice a k c, ptr bl] W fun e w' => Fails 2 n bl W e w' := by
  have H0 := hid h
  clear h
  go_enter Tryz.func107, Tryz.ntmps107
  go_wp2_with fail
  refine (word_none H0.out).mono ?_
  intro e Wf hf
  obtain ⟨bf, rfl, hf'⟩ := hf.thru (Chg.refl _ W)
  exact ⟨rfl, hf'⟩

/-- An instruction taken: out of readIns's contract in the worlds behind the line's first word. -/
theorem take_ins {acc0 : List (List Ic)} {c : List Ic} {ic : Ic} {u : ByteArray} {us : List ByteArray} (hB : B ≤ W.heap.size) (hL : LineAt W bl n bw (u :: us)) (hws : W.shape? bw = some (9, (u :: us).length)) (hbt : W.cell? ⟨bt, 0, none⟩ = some v) (hst : W.shape? bt = some (132, 1)) (hft : W.frozen? ⟨bt, 0, none⟩ = false)
    (h : RowsAt B W v (acc0 ++ [c]) xs) (hul : us.length < 1000000) (hut : u ≠ wThread) (hl3 : acc0.length < 3) (hcl : c.length < 4000)
    (hread : ∀ W1, LineAt W1 bl n bw us → Chg (lineM bl) W W1 → Calls Tryz.prog 140 #[.string u, ptr bl] W1 fun e w' => e = .returned (.iface (insT ic) (insV ic)) ∧ LineAt w' bl n bw [] ∧ Chg (lineM bl) W1 w') :
    Calls Tryz.prog 106 #[ptr bl, ptr bt] W fun e W' => e = .returned (.tuple #[]) ∧ ∃ v' xs', W'.cell? ⟨bt, 0, none⟩ = some v' ∧ RowsAt B W' v' (acc0 ++ [c ++ [ic]]) xs' ∧ Chg (takeM W B bl bt) W W' := by
  have nbl : ∀ g, v.ownBlock = some g → g ≠ bl ∧ g ≠ bw ∧ g ≠ bt := by
    intro g hg
    obtain ⟨c, hs⟩ := ownsRow_shape h.own g hg
    refine ⟨fun e => ?_, fun e => ?_, fun e => ?_⟩
    · rw [e, hL.sh] at hs; simp at hs
    · rw [e, hws] at hs; simp at hs
    · rw [e, hst] at hs; simp at hs
  have hlt : bt < W.heap.size := lt_of_shape hst
  have nbt : bt ≠ bl := fun e => by rw [e, hL.sh] at hst; simp at hst
  obtain ⟨g, cp, rfl⟩ : ∃ g cp, v = .slice (some ⟨g, 0, none⟩) (acc0.length + 1) cp := by
    rcases h.own.2 with ⟨e1, e2⟩ | ⟨g', cap', cur, e1, _⟩
    · simp at e2
    · exact ⟨g', cap', by simpa using e1⟩
  have hlen := h.len
  simp at hlen
  obtain ⟨iv, hiv⟩ : ∃ iv, xs[acc0.length]? = some iv := ⟨_, List.getElem?_eq_getElem (by omega)⟩
  obtain ⟨c', hc1, hc2⟩ := h.row _ _ hiv
  simp at hc1
  subst hc1
  have nib : ∀ g', iv.ownBlock = some g' → g' ≠ bl ∧ g' ≠ bw ∧ g' ≠ bt := by
    intro g' hg'
    obtain ⟨c', hs⟩ := ownsRow_shape hc2 g' hg'
    refine ⟨fun e => ?_, fun e => ?_, fun e => ?_⟩
    · rw [e, hL.sh] at hs; simp at hs
    · rw [e, hws] at hs; simp at hs
    · rw [e, hst] at hs; simp at hs
  have hown : W.ownsRow 0 140 1 (.slice (some ⟨g, 0, none⟩) (acc0.length + 1) cp) (acc0.length + 1) xs := by simpa using h.own
  have k1 := withLine_ins (T := insT ic) (p := insV ic) hL hul hut hl3 hread hown (fun e => (nbl g rfl).1 e) (fun e => (nbl g rfl).2.1 e) hiv hc2 hcl (fun e => (nib _ e).1 rfl) (fun e => (nib _ e).2.1 rfl)
  refine (read1_ok (R := fun a1 kk c1 w1 => ∃ xs1, RowsAt B w1 (.slice a1 kk c1) (acc0 ++ [c ++ [ic]]) xs1 ∧ w1.shape? bt = some (132, 1) ∧ Chg (fun q i => lineM bl q i ∨ iv.ownBlock = some q ∨ (q = g ∧ i = acc0.length)) W w1) hbt (k1.mono ?_)).mono ?_
  · rintro e w1 ⟨rfl, b, cap, h1, h2, h3, h4, h5⟩
    refine ⟨_, _, _, rfl, ⟨_, rowsAt_ins hB hL h hiv h1 h2 h3 h5, (h5.shape bt hlt).trans hst, h5⟩, (h5.cell bt 0 hlt ?_).trans hbt, (h5.frozen bt 0 hlt).trans hft⟩
    rintro (e | e | e)
    · exact nbt e.1
    · exact (nib _ e).2.2 rfl
    · exact (nbl g rfl).2.2 e.1.symm
  · rintro e W' ⟨rfl, a1, kk, c1, w1, ⟨xs1, h1, hs, h2⟩, h3, rfl⟩
    have hset : Chg (fun q i => q = bt ∧ i = 0) w1 (w1.setCell ⟨bt, 0, none⟩ (.slice a1 kk c1)) := (Chg.refl _ w1).setCell (fun _ => ⟨rfl, rfl⟩) _
    refine ⟨rfl, _, _, cell_set_eq h3 rfl, h1.keep hset ?_, (h2.mono ?_).setCell (fun _ => .inr (.inl rfl)) _⟩
    · rintro k i hk ⟨rfl, rfl⟩
      exact not_rowy_of hs (by decide) (by decide) hk
    · rintro q i hq (e | e | e)
      · exact .inl e.1
      · obtain ⟨c', hs⟩ := ownsRow_shape hc2 q e
        exact .inr (.inr ⟨h.lowr _ _ hiv q e, _, c', hs, .inr rfl⟩)
      · obtain ⟨c', hs⟩ := ownsRow_shape h.own q (by simp [Value.ownBlock, e.1])
        exact .inr (.inr ⟨h.low q (by simp [Value.ownBlock, e.1]), _, c', hs, .inl rfl⟩)

/-- A line taken, whatever it holds. -/
theorem take_tot (hB : B ≤ W.heap.size) (hG : 10 ≤ B) (hL : LineAt W bl n bw ws) (hbl : B ≤ bl) (hws : W.shape? bw = some (9, ws.length)) (hbt : W.cell? ⟨bt, 0, none⟩ = some v) (hst : W.shape? bt = some (132, 1)) (hft : W.frozen? ⟨bt, 0, none⟩ = false)
    (h : RowsAt B W v acc xs) (h3 : acc.length ≤ 3) (h4 : ∀ c ∈ acc, c.length ≤ 4000) (hE : Env W) (hz : SzOk ws) :
    Calls Tryz.prog 106 #[ptr bl, ptr bt] W fun e W' => match gLine ws acc with
      | .ok acc' => e = .returned (.tuple #[]) ∧ ∃ v' xs', W'.cell? ⟨bt, 0, none⟩ = some v' ∧ RowsAt B W' v' acc' xs' ∧ Chg (takeM W B bl bt) W W'
      | .error er => Fails er n bl W e W' := by
  obtain ⟨a, cp, hv⟩ : ∃ a cp, v = .slice a acc.length cp := by
    rcases h.own.2 with ⟨e1, e2⟩ | ⟨g', cap', cur, e1, _⟩
    · exact ⟨none, 0, by rw [e1, e2]⟩
    · exact ⟨_, _, e1⟩
  have hG' : 10 ≤ bl := Nat.le_trans hG hbl
  cases ws with
  | nil => exact read1_fail hbt (hv ▸ wl_nil hL)
  | cons u us =>
    by_cases hu : u = wThread
    · subst hu
      cases us with
      | cons u2 us => simp only [gLine, if_true]; exact read1_fail hbt (hv ▸ wl_head_more hL hz.tail)
      | nil =>
        by_cases hl : acc.length = 3
        · simp only [gLine, if_true, hl]
          rw [hl] at hv
          exact read1_fail hbt (hv ▸ wl_head_full hL)
        · simp only [gLine, if_true, if_neg hl]
          exact take_ok (wd := opWords) hB (by omega) hL hbl hws hbt hst hft h hE.words (.inl ⟨rfl, by omega, rfl⟩)
    · cases hi : gIns u us with
      | none => simp only [gLine, if_neg hu, hi]; exact read1_fail hbt (hv ▸ wl_ins_bad hL hE hG' hz hu hi)
      | some q =>
        obtain ⟨ic, us2⟩ := q
        cases us2 with
        | cons u2 us2 => simp only [gLine, if_neg hu, hi]; exact read1_fail hbt (hv ▸ wl_ins_more hL hE hG' hz hu hi)
        | nil =>
          rcases List.eq_nil_or_concat acc with rfl | ⟨acc0, c, rfl⟩
          · simp only [gLine, if_neg hu, hi, List.getLast?_nil]
            exact read1_fail hbt (hv ▸ wl_ins_place hL hE hG' hz hu hi)
          · simp only [List.concat_eq_append] at h h3 h4 hv ⊢
            have hl0 : acc0.length < 3 := by simp at h3; omega
            by_cases hf : c.length = 4000
            · simp only [gLine, if_neg hu, hi, List.getLast?_concat, hf, if_true]
              obtain ⟨g, cp', rfl⟩ : ∃ g cp', v = .slice (some ⟨g, 0, none⟩) (acc0.length + 1) cp' := by
                rcases h.own.2 with ⟨e1, e2⟩ | ⟨g', cap', cur, e1, _⟩
                · simp at e2
                · exact ⟨g', cap', by simpa using e1⟩
              have hlen := h.len
              simp at hlen
              obtain ⟨iv, hiv⟩ : ∃ iv, xs[acc0.length]? = some iv := ⟨_, List.getElem?_eq_getElem (by omega)⟩
              obtain ⟨c', hc1, hc2⟩ := h.row _ _ hiv
              simp at hc1
              subst hc1
              rw [hf] at hc2
              obtain ⟨ia, icp, rfl⟩ : ∃ ia icp, iv = .slice ia 4000 icp := by
                rcases hc2.2 with ⟨e1, e2⟩ | ⟨g', cap', cur, e1, _⟩
                · simp at e2
                · exact ⟨_, _, e1⟩
              have hown : W.ownsRow 0 140 1 (.slice (some ⟨g, 0, none⟩) (acc0.length + 1) cp') (acc0.length + 1) xs := by simpa using h.own
              obtain ⟨q1, _, q3⟩ := ownsRow_cell hown acc0.length (by omega)
              refine read1_fail hbt (wl_ins_full hL hE hG' hz hu hi hl0 (fun e => ?_) q3 (q1.trans hiv))
              obtain ⟨nn, hs⟩ := ownsRow_shape hown g rfl
              rw [e, hL.sh] at hs
              simp at hs
            · simp only [gLine, if_neg hu, hi, List.getLast?_concat, if_neg hf, List.dropLast_concat]
              have hc4 := h4 c (by simp)
              exact take_ins hB hL hws hbt hst hft h hz.len hu hl0 (by omega) (fun W1 hL1 hC1 => ri_ok hL1 (hE.line hC1 hG') hG' hz.tail hi rfl)
end
end Go.Proofs.YtfhkfnoajbbfdaaGreatDoor

/- text.Read, whatever the text is. -/
namespace Go.Proofs.YtfhkfnoajbbfdaaGreatDoor
open Go.RowKit

set_option maxRecDepth 100000 in
set_option maxHeartbeats 1000000 in
theorem read1x_stop (p : Addr) (bf : Nat) (u : Value) (w : World) (hc : (w.alloc (.cells #[.pointer (some ⟨bf, 0, none⟩)] 252)).cell? p = some u) (hz : (w.alloc (.cells #[.pointer (some ⟨bf, 0, none⟩)] 252)).frozen? p = false) :
    CallsD Tryz.prog 134 #[.pointer (some p)] (.panicking (stopV bf)) w fun e u' w' => e = .returned (.tuple #[]) ∧ u' = .panicking [{ v := .iface 252 (.agg #[.pointer (some ⟨bf, 0, none⟩)]), recovered := true }] ∧ w' = ((w.alloc (.cells #[.pointer (some ⟨bf, 0, none⟩)] 252)).setCell p (.iface 144 (.pointer (some ⟨bf, 0, none⟩)))) := by
  have hta : ∀ x w, (Instr.typeAssert (.iface 252 x) 20 252 true).run Tryz.prog w = .ok (.tuple #[x, .bool true]) w := fun _ _ => by kernel_rfl
  refine callsD_of_wpS Tryz.func134 rfl fun c₀ cs hu => ?_
  apply wpS_seq
  apply wpS_region
  simp [wpOpsS, go_sem, recoverD, hu, Tryz.ntmps134, Exit.thenS]
  apply wpS_of_wp
  go_wp2
  cases c₀
  simp_all [bodyPostS, results, Tryz.results134]

set_option maxRecDepth 100000 in
set_option maxHeartbeats 4000000 in
theorem textRead_gen (W : World) (s : ByteArray) (most : Int) (tk bt : Nat) (Inv : List UInt8 → Nat → World → Prop) (Bad : Nat → World → Prop)
    (hs : (s.size : Int) ≤ most) (hs2 : s.size ≤ 1000000)
    (hent : ∀ args w, (callFunc tk args).run Tryz.prog w = .ok (.enter tk args) w)
    (h0 : Hid (Inv s.data.toList 0 (W.alloc (.cells #[.nilIface] 96))))
    (hcut : Hid (∀ (r : List UInt8) (j : Nat) (w : World), r.length ≤ s.size → Inv r j w → Calls Tryz.prog 135 #[.string ⟨r.toArray⟩, .string ⟨#[10]⟩] w fun e w' => e = .returned (.tuple #[.string ⟨(Lib.cut r [10]).1.toArray⟩, .string ⟨(Lib.cut r [10]).2.1.toArray⟩, .bool (Lib.cut r [10]).2.2]) ∧ ∃ n, w' = w.drewN n))
    (hsplit : Hid (∀ (r : List UInt8) (j : Nat) (w : World) (l : List UInt8) (n : Nat), Inv r j w → l.length ≤ s.size → Calls Tryz.prog 136 #[.string ⟨l.toArray⟩, .string ⟨#[32]⟩] (w.drewN n) fun e w' => e = .returned (.slice (some ⟨w.heap.size, 0, none⟩) (wordsOf l).length (wordsOf l).length) ∧ w' = (w.drewN n).alloc (.cells ((wordsOf l).map Value.string).toArray 9)))
    (hstep : Hid (∀ (r : List UInt8) (j : Nat) (w : World), Inv r j w → (r ≠ [] ∨ j = 0) → ∃ l r' b, Lib.cut r [10] = (l, r', b) ∧ l.length ≤ r.length ∧
      (b = true → r'.length < r.length ∧ ∀ n, Calls Tryz.prog tk #[ptr (w.heap.size + 1), ptr bt] (((w.drewN n).alloc (.cells ((wordsOf l).map Value.string).toArray 9)).alloc (.cells #[.int .i64 (j + 1), .slice (some ⟨w.heap.size, 0, none⟩) (wordsOf l).length (wordsOf l).length] 257)) fun e w2 => (e = .returned (.tuple #[]) ∧ Inv r' (j + 1) w2) ∨ ∃ bf, e = .panicked (stopV bf) ∧ Bad bf w2) ∧
      (b = false → ∀ n bf w2, Fails 2 (j + 1) (w.heap.size + 1) (((w.drewN n).alloc (.cells ((wordsOf l).map Value.string).toArray 9)).alloc (.cells #[.int .i64 (j + 1), .slice (some ⟨w.heap.size, 0, none⟩) (wordsOf l).length (wordsOf l).length] 257)) (.panicked (stopV bf)) w2 → Bad bf w2)))
    (herr : Hid (∀ r j w, Inv r j w → w.cell? ⟨W.heap.size, 0, none⟩ = some .nilIface ∧ w.frozen? ⟨W.heap.size, 0, none⟩ = false))
    (hbad : Hid (∀ bf w, Bad bf w → W.heap.size < w.heap.size ∧ w.cell? ⟨W.heap.size, 0, none⟩ = some .nilIface ∧ w.frozen? ⟨W.heap.size, 0, none⟩ = false)) :
    Calls Tryz.prog 105 #[.string s, .int .i64 most, .func (.func tk) #[] #[ptr bt]] W fun e w' => (e = .returned .nilIface ∧ ∃ j w1, j ≠ 0 ∧ Inv [] j w1 ∧ w' = w1.setCell ⟨W.heap.size, 0, none⟩ .nilIface) ∨
      ∃ bf w2, e = .returned (.iface 144 (ptr bf)) ∧ Bad bf w2 ∧ w' = (w2.alloc (.cells #[ptr bf] 252)).setCell ⟨W.heap.size, 0, none⟩ (.iface 144 (ptr bf)) := by
  have hs' : ¬ most < (s.size : Int) := by omega
  have hmf : ∀ (fn : Fn) (first cap : Array Value) (w : World), (Instr.makeFunc fn first cap).run Tryz.prog w = .ok (.func fn first cap) w := fun _ _ _ _ => rfl
  have hfall : ∀ (bf : Nat) (w2 : World) (tm : Array Value), Hid (tm[6]?.getD undef = .pointer (some ⟨W.heap.size, 0, none⟩)) → Bad bf w2 → bodyPostD Tryz.prog Tryz.f105 (fun e w' => (e = .returned .nilIface ∧ ∃ j w1, j ≠ 0 ∧ Inv [] j w1 ∧ w' = w1.setCell ⟨W.heap.size, 0, none⟩ .nilIface) ∨
      ∃ bf w2, e = .returned (.iface 144 (ptr bf)) ∧ Bad bf w2 ∧ w' = (w2.alloc (.cells #[ptr bf] 252)).setCell ⟨W.heap.size, 0, none⟩ (.iface 144 (ptr bf))) (.panic (stopV bf)) { tmps := tm, defers := [{ target := .fn (.func 134) #[.pointer (some ⟨W.heap.size, 0, none⟩)], args := #[] }] } w2 := by
    intro bf w2 tm htm hB
    obtain ⟨b1, b2, b3⟩ := hbad.out bf w2 hB
    have c2 : (w2.alloc (.cells #[.pointer (some ⟨bf, 0, none⟩)] 252)).cell? ⟨W.heap.size, 0, none⟩ = some .nilIface := (World.cell?_alloc_past _ _ _ b1).trans b2
    refine leaves_cons (f := 134) (args := #[.pointer (some ⟨W.heap.size, 0, none⟩)]) (by simp) (by simp [go_sem]) ?_
    refine (read1x_stop ⟨W.heap.size, 0, none⟩ bf .nilIface w2 c2 ((World.frozen?_alloc_past _ _ _ b1).trans b3)).mono ?_
    rintro e u' w'' ⟨rfl, rfl, rfl⟩
    refine ⟨.iface 144 (ptr bf), ?_, .inr ⟨bf, w2, rfl, hB, rfl⟩⟩
    have h6 := htm.out
    simp [results, Tryz.results105, go_sem, h6, World.cell?_setCell_same _ _ _ c2]
  have HF := hid hfall
  clear hfall
  go_enter_defers Tryz.func105, Tryz.ntmps105
  go_wp2
  go_loopw [0, 7] (fun v0 v7 wr => ∃ (r : List UInt8) (j : Nat), v0 = .string ⟨r.toArray⟩ ∧ v7 = .int .i64 (j + 1) ∧ Inv r j wr ∧ j + r.length ≤ s.size) (fun v0 _ _ => strSize v0)
  case atStart => exact ⟨s.data.toList, 0, by simp, rfl, h0.out, by simp⟩
  case round =>
    obtain ⟨r, j, rfl, rfl, hi, hjl⟩ := hrel
    have HI := hid hi
    clear hi
    by_cases hr : r = [] ∧ j ≠ 0
    · obtain ⟨rfl, hj0⟩ := hr
      have hj : ¬ (j : Int) + 1 = 1 := by omega
      have hee : (ByteArray.mk ([] : List UInt8).toArray).toList.isEmpty = true := by rw [ByteArray.toList_eq]; rfl
      obtain ⟨e1, e2⟩ := herr.out _ _ _ HI.out
      have hjb : (((j : Int) + 1) == 1) = false := by simpa using hj
      go_wp2
      refine leaves_cons (f := 134) (args := #[.pointer (some ⟨W.heap.size, 0, none⟩)]) (by simp) (by simp [go_sem]) ?_
      refine (read1x_idle ⟨W.heap.size, 0, none⟩ _).mono ?_
      rintro e u' w'' ⟨rfl, rfl, rfl⟩
      refine ⟨.nilIface, ?_, .inl ⟨rfl, j, wr, hj0, HI.out, rfl⟩⟩
      simp [results, Tryz.results105, go_sem, World.cell?_setCell_same wr _ _ e1]
    · have hr' : r ≠ [] ∨ j = 0 := by
        by_cases e : r = []
        · exact .inr (Decidable.byContradiction fun h => hr ⟨e, h⟩)
        · exact .inl e
      obtain ⟨l, r', b, hcu, hll, hgo, hno⟩ := hstep.out r j wr HI.out hr'
      have HG := hid hgo
      have HN := hid hno
      clear hgo hno
      have hj6 : j ≤ 1000000 := by omega
      have hwr : wrap64 ((j : Int) + 1 + 1) = (j : Int) + 1 + 1 := by
        unfold wrap64; omega
      have hL : LineAt (((wr.drewN 0).alloc (.cells ((wordsOf l).map Value.string).toArray 9)).alloc (.cells #[.int .i64 (j + 1), .slice (some ⟨wr.heap.size, 0, none⟩) (wordsOf l).length (wordsOf l).length] 257)) (wr.heap.size + 1) (j + 1) wr.heap.size (wordsOf l) := lineAt_new (w := wr.drewN 0)
      have hcase : ((((j : Int) + 1) == 1) = true) ∨ ((((j : Int) + 1) == 1) = false ∧ r.isEmpty = false) := by
        by_cases e : j = 0
        · left; subst e; rfl
        · right
          refine ⟨by simpa using (show ¬ (j : Int) + 1 = 1 by omega), ?_⟩
          rcases hr' with h | h
          · simpa using h
          · exact absurd h e
      clear hL
      rcases hcase with hjb | ⟨hjb, hie⟩
      all_goals
        go_wp2_with fail
        refine (hcut.out r j wr (by omega) HI.out).mono ?_
        rintro e w1 ⟨rfl, n, rfl⟩
        rw [hcu]
        go_wp2_with fail
        refine (hsplit.out r j wr l n HI.out (by omega)).mono ?_
        rintro e w1 ⟨rfl, rfl⟩
        cases b with
        | false =>
          have hL : LineAt (((wr.drewN n).alloc (.cells ((wordsOf l).map Value.string).toArray 9)).alloc (.cells #[.int .i64 (j + 1), .slice (some ⟨wr.heap.size, 0, none⟩) (wordsOf l).length (wordsOf l).length] 257)) (wr.heap.size + 1) (j + 1) wr.heap.size (wordsOf l) := lineAt_new (w := wr.drewN n)
          have HN2 := hid (HN.out rfl n)
          clear HN HG
          go_wp2_with fail
          refine (fail_any hL 2).mono ?_
          rintro e w2 ⟨bf, rfl, hf⟩
          exact HF.out bf w2 _ rfl (HN2.out bf w2 ⟨bf, rfl, hf⟩)
        | true =>
          obtain ⟨hlt, hcall⟩ := HG.out rfl
          have HC := hid (hcall n)
          clear hcall HG HN
          go_wp2_with fail
          refine HC.out.mono ?_
          rintro e w2 (⟨rfl, h2⟩ | ⟨bf, rfl, h2⟩)
          · have H2 := hid h2
            clear h2 HC HI
            go_wp2
            go_roundw
            case rel => exact ⟨r', j + 1, rfl, by go_num, H2.out, by omega⟩
            case measure => show r'.toArray.size < r.toArray.size; simpa using hlt
          · exact HF.out bf w2 _ rfl h2
end Go.Proofs.YtfhkfnoajbbfdaaGreatDoor
