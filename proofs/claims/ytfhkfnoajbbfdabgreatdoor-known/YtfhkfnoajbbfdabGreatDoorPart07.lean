import Derived.Test.YtfhkfnoajbbfdabGreatDoorPart06
import Derived.Test.YtfhkfnoajbbfdabGreatDoorPart02
/- The readers of a line's words, whatever these are. -/
namespace Go.Proofs.YtfhkfnoajbbfdabGreatDoor
open Go.RowKit

/-- Not too many words, none too long. -/
def SzOk (ws : List ByteArray) : Prop := ws.length < 1000000 ∧ ∀ u ∈ ws, u.size < 4294967281

theorem SzOk.tail {u : ByteArray} {ws : List ByteArray} (h : SzOk (u :: ws)) : SzOk ws := ⟨by have := h.1; simp at this; omega, fun v hv => h.2 v (List.mem_cons_of_mem _ hv)⟩
theorem SzOk.head {u : ByteArray} {ws : List ByteArray} (h : SzOk (u :: ws)) : u.size < 4294967281 := h.2 u (List.mem_cons_self)
theorem SzOk.len {u : ByteArray} {ws : List ByteArray} (h : SzOk (u :: ws)) : ws.length < 1000000 := h.tail.1

def gReg : List ByteArray → Option (Nat × List ByteArray)
  | [] => none
  | u :: ws => (regVal u).map fun r => (r, ws)
def gNum : List ByteArray → Option (Int × List ByteArray)
  | [] => none
  | u :: ws => (numVal u).map fun v => (v, ws)
def gVal : List ByteArray → Option (Vl × List ByteArray)
  | [] => none
  | u :: ws => match regVal u with
    | some r => some (⟨true, r⟩, ws)
    | none => (numVal u).map fun v => (⟨false, v⟩, ws)
def gIn (lo hi : Int) (ws : List ByteArray) : Option (Int × List ByteArray) := (gNum ws).bind fun p => if lo ≤ p.1 ∧ p.1 ≤ hi then some p else none
def gCell (ws : List ByteArray) : Option ((Vl × Int) × List ByteArray) := (gVal ws).bind fun p => (gNum p.2).map fun q => ((p.1, q.1), q.2)

section
variable {w : World} {bl bw : Nat} {n : Int} {ws : List ByteArray}

set_option maxRecDepth 100000 in
set_option maxHeartbeats 1000000 in
theorem readRegister_tot (h : LineAt w bl n bw ws) (hz : SzOk ws) :
    Calls Tryz.prog 123 #[ptr bl] w fun e w' => Rds bl n bw w ((gReg ws).map fun p => (.int .i64 p.1, p.2)) e w' := by
  have H := hid h
  clear h
  cases ws with
  | nil =>
    go_enter Tryz.func123, Tryz.ntmps123
    go_wp2_with fail
    refine (word_none H.out).mono ?_
    rintro e w1 ⟨bf, rfl, h1⟩
    exact ⟨rfl, bf, rfl, h1⟩
  | cons u ws =>
    cases hr : regVal u with
    | some r =>
      have e : ((gReg (u :: ws)).map fun p => ((.int .i64 p.1 : Value), p.2)) = some (.int .i64 r, ws) := by simp [gReg, hr]
      rw [e]
      go_enter Tryz.func123, Tryz.ntmps123
      go_wp2_with fail
      refine (word_ok H.out hz.len).mono ?_
      rintro e w1 ⟨rfl, h1, c1⟩
      have H1 := hid h1
      have C1 := hid c1
      clear h1 c1
      go_wp2_with fail
      refine (registerNamed_any w1 u).mono ?_
      rintro e w2 ⟨rfl, rfl⟩
      rw [hr]
      go_wp2
      go_ret
      exact ⟨rfl, H1.out, C1.out⟩
    | none =>
      have e : ((gReg (u :: ws)).map fun p => ((.int .i64 p.1 : Value), p.2)) = none := by simp [gReg, hr]
      rw [e]
      go_enter Tryz.func123, Tryz.ntmps123
      go_wp2_with fail
      refine (word_ok H.out hz.len).mono ?_
      rintro e w1 ⟨rfl, h1, c1⟩
      have H1 := hid h1
      have C1 := hid c1
      clear h1 c1
      go_wp2_with fail
      refine (registerNamed_any w1 u).mono ?_
      rintro e w2 ⟨rfl, rfl⟩
      rw [hr]
      go_wp2_with fail
      refine (fail_any H1.out 2).mono ?_
      intro e w3 h3
      obtain ⟨bf, rfl, h4⟩ := h3.after C1.out
      exact ⟨rfl, bf, rfl, h4⟩

set_option maxRecDepth 100000 in
set_option maxHeartbeats 1000000 in
theorem lineNumber_tot (h : LineAt w bl n bw ws) (hE : Hid (Env w)) (hbl : 10 ≤ bl) (hz : SzOk ws) :
    Calls Tryz.prog 174 #[ptr bl] w fun e w' => Rds bl n bw w ((gNum ws).map fun p => (.int .i64 p.1, p.2)) e w' := by
  have H := hid h
  clear h
  cases ws with
  | nil =>
    go_enter Tryz.func174, Tryz.ntmps174
    go_wp2_with fail
    refine (word_none H.out).mono ?_
    rintro e w1 ⟨bf, rfl, h1⟩
    exact ⟨rfl, bf, rfl, h1⟩
  | cons u ws =>
    cases hr : numVal u with
    | some r =>
      have e : ((gNum (u :: ws)).map fun p => ((.int .i64 p.1 : Value), p.2)) = some (.int .i64 r, ws) := by simp [gNum, hr]
      rw [e]
      go_enter Tryz.func174, Tryz.ntmps174
      go_wp2_with fail
      refine (word_ok H.out hz.len).mono ?_
      rintro e w1 ⟨rfl, h1, c1⟩
      have H1 := hid h1
      have C1 := hid c1
      clear h1 c1
      go_wp2_with fail
      refine (number_any (hE.out.line C1.out hbl) u hz.head).mono ?_
      rintro e w2 ⟨rfl, b2⟩
      have H2 := hid (H1.out.below b2)
      have C2 := hid (C1.out.trans (Chg.of_below b2))
      clear b2 H1 C1
      rw [hr]
      go_wp2
      go_ret
      exact ⟨rfl, H2.out, C2.out⟩
    | none =>
      have e : ((gNum (u :: ws)).map fun p => ((.int .i64 p.1 : Value), p.2)) = none := by simp [gNum, hr]
      rw [e]
      go_enter Tryz.func174, Tryz.ntmps174
      go_wp2_with fail
      refine (word_ok H.out hz.len).mono ?_
      rintro e w1 ⟨rfl, h1, c1⟩
      have H1 := hid h1
      have C1 := hid c1
      clear h1 c1
      go_wp2_with fail
      refine (number_any (hE.out.line C1.out hbl) u hz.head).mono ?_
      rintro e w2 ⟨rfl, b2⟩
      have H2 := hid (H1.out.below b2)
      have C2 := hid (C1.out.trans (Chg.of_below b2))
      clear b2 H1 C1
      rw [hr]
      go_wp2_with fail
      refine (fail_any H2.out 2).mono ?_
      intro e w3 h3
      obtain ⟨bf, rfl, h4⟩ := h3.after C2.out
      exact ⟨rfl, bf, rfl, h4⟩

set_option maxRecDepth 100000 in
set_option maxHeartbeats 1000000 in
theorem readValue_tot (h : LineAt w bl n bw ws) (hE : Hid (Env w)) (hbl : 10 ≤ bl) (hz : SzOk ws) :
    Calls Tryz.prog 124 #[ptr bl] w fun e w' => Rds bl n bw w ((gVal ws).map fun p => (encVl p.1, p.2)) e w' := by
  have H := hid h
  clear h
  cases ws with
  | nil =>
    go_enter Tryz.func124, Tryz.ntmps124
    go_wp2_with fail
    refine (word_none H.out).mono ?_
    rintro e w1 ⟨bf, rfl, h1⟩
    exact ⟨rfl, bf, rfl, h1⟩
  | cons u ws =>
    cases hr : regVal u with
    | some r =>
      have e : ((gVal (u :: ws)).map fun p => (encVl p.1, p.2)) = some (.iface 264 (.int .i64 r), ws) := by simp [gVal, hr, encVl]
      rw [e]
      go_enter Tryz.func124, Tryz.ntmps124
      go_wp2_with fail
      refine (word_ok H.out hz.len).mono ?_
      rintro e w1 ⟨rfl, h1, c1⟩
      have H1 := hid h1
      have C1 := hid c1
      clear h1 c1
      go_wp2_with fail
      refine (registerNamed_any w1 u).mono ?_
      rintro e w2 ⟨rfl, rfl⟩
      rw [hr]
      go_wp2
      go_ret
      exact ⟨rfl, H1.out, C1.out⟩
    | none =>
      cases hv : numVal u with
      | some v =>
        have e : ((gVal (u :: ws)).map fun p => (encVl p.1, p.2)) = some (.iface 359 (.int .i64 v), ws) := by simp [gVal, hr, hv, encVl]
        rw [e]
        go_enter Tryz.func124, Tryz.ntmps124
        go_wp2_with fail
        refine (word_ok H.out hz.len).mono ?_
        rintro e w1 ⟨rfl, h1, c1⟩
        have H1 := hid h1
        have C1 := hid c1
        clear h1 c1
        go_wp2_with fail
        refine (registerNamed_any w1 u).mono ?_
        rintro e w2 ⟨rfl, rfl⟩
        rw [hr]
        go_wp2_with fail
        refine (number_any (hE.out.line C1.out hbl) u hz.head).mono ?_
        rintro e w2 ⟨rfl, b2⟩
        have H2 := hid (H1.out.below b2)
        have C2 := hid (C1.out.trans (Chg.of_below b2))
        clear b2 H1 C1
        rw [hv]
        go_wp2
        go_ret
        exact ⟨rfl, H2.out, C2.out⟩
      | none =>
        have e : ((gVal (u :: ws)).map fun p => (encVl p.1, p.2)) = none := by simp [gVal, hr, hv]
        rw [e]
        go_enter Tryz.func124, Tryz.ntmps124
        go_wp2_with fail
        refine (word_ok H.out hz.len).mono ?_
        rintro e w1 ⟨rfl, h1, c1⟩
        have H1 := hid h1
        have C1 := hid c1
        clear h1 c1
        go_wp2_with fail
        refine (registerNamed_any w1 u).mono ?_
        rintro e w2 ⟨rfl, rfl⟩
        rw [hr]
        go_wp2_with fail
        refine (number_any (hE.out.line C1.out hbl) u hz.head).mono ?_
        rintro e w2 ⟨rfl, b2⟩
        have H2 := hid (H1.out.below b2)
        have C2 := hid (C1.out.trans (Chg.of_below b2))
        clear b2 H1 C1
        rw [hv]
        go_wp2_with fail
        refine (fail_any H2.out 2).mono ?_
        intro e w3 h3
        obtain ⟨bf, rfl, h4⟩ := h3.after C2.out
        exact ⟨rfl, bf, rfl, h4⟩
end
end Go.Proofs.YtfhkfnoajbbfdabGreatDoor

/- The readers, each way apart. -/
namespace Go.Proofs.YtfhkfnoajbbfdabGreatDoor
open Go.RowKit

theorem encVl_form (x : Vl) : ∃ T p, encVl x = .iface T p := by
  unfold encVl
  split
  · exact ⟨_, _, rfl⟩
  · exact ⟨_, _, rfl⟩

section
variable {w : World} {bl bw : Nat} {n : Int} {ws ws1 : List ByteArray} {x : Vl} {T : TypeId} {p : Value} {r : Nat} {v : Int}

theorem gReg_sz (hv : gReg ws = some (r, ws1)) (hz : SzOk ws) : SzOk ws1 := by
  cases ws with
  | nil => simp [gReg] at hv
  | cons u ws => simp [gReg] at hv; obtain ⟨_, _, _, e⟩ := hv; exact e ▸ hz.tail
theorem gNum_sz (hv : gNum ws = some (v, ws1)) (hz : SzOk ws) : SzOk ws1 := by
  cases ws with
  | nil => simp [gNum] at hv
  | cons u ws => simp [gNum] at hv; obtain ⟨_, _, _, e⟩ := hv; exact e ▸ hz.tail
theorem gVal_sz (hv : gVal ws = some (x, ws1)) (hz : SzOk ws) : SzOk ws1 := by
  cases ws with
  | nil => simp [gVal] at hv
  | cons u ws =>
    simp only [gVal] at hv
    split at hv
    · simp at hv; exact hv.2 ▸ hz.tail
    · simp at hv; obtain ⟨_, _, _, e⟩ := hv; exact e ▸ hz.tail
theorem gIn_sz {lo hi : Int} (hv : gIn lo hi ws = some (v, ws1)) (hz : SzOk ws) : SzOk ws1 := by
  unfold gIn at hv
  cases h : gNum ws with
  | none => simp [h] at hv
  | some q =>
    simp [h] at hv
    exact gNum_sz (v := q.1) (by rw [h]; exact congrArg some (Prod.ext rfl (by rw [hv.2]))) hz
theorem gCell_sz {c : Vl × Int} (hv : gCell ws = some (c, ws1)) (hz : SzOk ws) : SzOk ws1 := by
  unfold gCell at hv
  cases h : gVal ws with
  | none => simp [h] at hv
  | some q =>
    cases h2 : gNum q.2 with
    | none => simp [h, h2] at hv
    | some q2 =>
      simp [h, h2] at hv
      exact gNum_sz (v := q2.1) (by rw [h2]; exact congrArg some (Prod.ext rfl hv.2)) (gVal_sz (x := q.1) (ws1 := q.2) h hz)

theorem rr_ok (h : LineAt w bl n bw ws) (hz : SzOk ws) (hv : gReg ws = some (r, ws1)) :
    Calls Tryz.prog 123 #[ptr bl] w fun e w' => e = .returned (.int .i64 r) ∧ LineAt w' bl n bw ws1 ∧ Chg (lineM bl) w w' := by
  have k := readRegister_tot h hz
  rw [hv] at k
  exact k
theorem rr_no (h : LineAt w bl n bw ws) (hz : SzOk ws) (hv : gReg ws = none) :
    Calls Tryz.prog 123 #[ptr bl] w fun e w' => Fails 2 n bl w e w' := by
  have k := readRegister_tot h hz
  rw [hv] at k
  exact k
theorem rv_ok (h : LineAt w bl n bw ws) (hE : Env w) (hbl : 10 ≤ bl) (hz : SzOk ws) (hv : gVal ws = some (x, ws1)) (hT : encVl x = .iface T p) :
    Calls Tryz.prog 124 #[ptr bl] w fun e w' => e = .returned (.iface T p) ∧ LineAt w' bl n bw ws1 ∧ Chg (lineM bl) w w' := by
  have k := readValue_tot h hE hbl hz
  rw [hv, ← hT] at *
  exact k
theorem rv_no (h : LineAt w bl n bw ws) (hE : Env w) (hbl : 10 ≤ bl) (hz : SzOk ws) (hv : gVal ws = none) :
    Calls Tryz.prog 124 #[ptr bl] w fun e w' => Fails 2 n bl w e w' := by
  have k := readValue_tot h hE hbl hz
  rw [hv] at k
  exact k
theorem rn_ok (h : LineAt w bl n bw ws) (hE : Env w) (hbl : 10 ≤ bl) (hz : SzOk ws) (hv : gNum ws = some (v, ws1)) :
    Calls Tryz.prog 174 #[ptr bl] w fun e w' => e = .returned (.int .i64 v) ∧ LineAt w' bl n bw ws1 ∧ Chg (lineM bl) w w' := by
  have k := lineNumber_tot h hE hbl hz
  rw [hv] at k
  exact k
theorem rn_no (h : LineAt w bl n bw ws) (hE : Env w) (hbl : 10 ≤ bl) (hz : SzOk ws) (hv : gNum ws = none) :
    Calls Tryz.prog 174 #[ptr bl] w fun e w' => Fails 2 n bl w e w' := by
  have k := lineNumber_tot h hE hbl hz
  rw [hv] at k
  exact k

set_option maxRecDepth 100000 in
set_option maxHeartbeats 1000000 in
theorem rw_ok {lo hi : Int} (h : LineAt w bl n bw ws) (hE : Env w) (hbl : 10 ≤ bl) (hz : SzOk ws) (hv : gIn lo hi ws = some (v, ws1)) :
    Calls Tryz.prog 127 #[ptr bl, .int .i64 lo, .int .i64 hi] w fun e w' => e = .returned (.int .i64 v) ∧ LineAt w' bl n bw ws1 ∧ Chg (lineM bl) w w' := by
  have H := hid h
  have HE := hid hE
  clear h hE
  obtain ⟨hn, h1, h2⟩ : gNum ws = some (v, ws1) ∧ ¬ v < lo ∧ ¬ hi < v := by
    unfold gIn at hv
    cases h : gNum ws with
    | none => simp [h] at hv
    | some q =>
      simp [h] at hv
      obtain ⟨⟨a, b⟩, rfl⟩ := hv
      exact ⟨rfl, by omega, by omega⟩
  go_enter Tryz.func127, Tryz.ntmps127
  go_wp2_with fail
  refine (rn_ok H.out HE.out hbl hz hn).mono ?_
  rintro e w1 ⟨rfl, h3, c1⟩
  have H1 := hid h3
  have C1 := hid c1
  clear h3 c1
  go_wp2
  go_ret
  exact ⟨rfl, H1.out, C1.out⟩

set_option maxRecDepth 100000 in
set_option maxHeartbeats 1000000 in
theorem rw_no {lo hi : Int} (h : LineAt w bl n bw ws) (hE : Env w) (hbl : 10 ≤ bl) (hz : SzOk ws) (hv : gIn lo hi ws = none) :
    Calls Tryz.prog 127 #[ptr bl, .int .i64 lo, .int .i64 hi] w fun e w' => Fails 2 n bl w e w' := by
  have H := hid h
  have HE := hid hE
  clear h hE
  cases hn : gNum ws with
  | none =>
    go_enter Tryz.func127, Tryz.ntmps127
    go_wp2_with fail
    refine (rn_no H.out HE.out hbl hz hn).mono ?_
    rintro e w1 ⟨bf, rfl, h1⟩
    exact ⟨rfl, bf, rfl, h1⟩
  | some q =>
    obtain ⟨v, ws1⟩ := q
    have hq : v < lo ∨ (¬ v < lo ∧ hi < v) := by
      simp [gIn, hn] at hv
      omega
    rcases hq with hq | ⟨hq1, hq2⟩
    all_goals
      go_enter Tryz.func127, Tryz.ntmps127
      go_wp2_with fail
      refine (rn_ok H.out HE.out hbl hz hn).mono ?_
      rintro e w1 ⟨rfl, h3, c1⟩
      have H1 := hid h3
      have C1 := hid c1
      clear h3 c1
      go_wp2_with fail
      refine (fail_any H1.out 2).mono ?_
      intro e w3 h3
      obtain ⟨bf, rfl, h4⟩ := h3.after C1.out
      exact ⟨rfl, bf, rfl, h4⟩

set_option maxRecDepth 100000 in
set_option maxHeartbeats 1000000 in
theorem rp_ok (h : LineAt w bl n bw ws) (hE : Env w) (hbl : 10 ≤ bl) (hz : SzOk ws) (hv : gIn 0 4000 ws = some (v, ws1)) :
    Calls Tryz.prog 126 #[ptr bl] w fun e w' => e = .returned (.int .i64 v) ∧ LineAt w' bl n bw ws1 ∧ Chg (lineM bl) w w' := by
  have H := hid h
  have HE := hid hE
  clear h hE
  have hb : 0 ≤ v ∧ v ≤ 4000 := by
    unfold gIn at hv
    cases h : gNum ws with
    | none => simp [h] at hv
    | some q =>
      simp [h] at hv
      obtain ⟨⟨a, b⟩, rfl⟩ := hv
      exact ⟨a, b⟩
  go_enter Tryz.func126, Tryz.ntmps126
  go_wp2_with fail
  refine (rw_ok H.out HE.out hbl hz hv).mono ?_
  rintro e w1 ⟨rfl, h3, c1⟩
  have H1 := hid h3
  have C1 := hid c1
  clear h3 c1
  go_wp2
  go_ret
  exact ⟨rfl, H1.out, C1.out⟩

set_option maxRecDepth 100000 in
set_option maxHeartbeats 1000000 in
theorem rp_no (h : LineAt w bl n bw ws) (hE : Env w) (hbl : 10 ≤ bl) (hz : SzOk ws) (hv : gIn 0 4000 ws = none) :
    Calls Tryz.prog 126 #[ptr bl] w fun e w' => Fails 2 n bl w e w' := by
  have H := hid h
  have HE := hid hE
  clear h hE
  go_enter Tryz.func126, Tryz.ntmps126
  go_wp2_with fail
  refine (rw_no H.out HE.out hbl hz hv).mono ?_
  rintro e w1 ⟨bf, rfl, h1⟩
  exact ⟨rfl, bf, rfl, h1⟩

set_option maxRecDepth 100000 in
set_option maxHeartbeats 1000000 in
theorem rc_ok (h : LineAt w bl n bw ws) (hE : Env w) (hbl : 10 ≤ bl) (hz : SzOk ws) (hv : gCell ws = some ((x, v), ws1)) (hT : encVl x = .iface T p) :
    Calls Tryz.prog 125 #[ptr bl] w fun e w' => e = .returned (.agg #[.iface T p, .int .i64 v]) ∧ LineAt w' bl n bw ws1 ∧ Chg (lineM bl) w w' := by
  have H := hid h
  have HE := hid hE
  clear h hE
  obtain ⟨ws2, h1, h2⟩ : ∃ ws2, gVal ws = some (x, ws2) ∧ gNum ws2 = some (v, ws1) := by
    unfold gCell at hv
    cases h : gVal ws with
    | none => simp [h] at hv
    | some q =>
      cases h2 : gNum q.2 with
      | none => simp [h, h2] at hv
      | some q2 =>
        simp [h, h2] at hv
        obtain ⟨⟨rfl, rfl⟩, rfl⟩ := hv
        exact ⟨q.2, rfl, h2⟩
  go_enter Tryz.func125, Tryz.ntmps125
  go_wp2_with fail
  have hb0 : Below w.heap.size w (w.alloc (.cells #[.nilIface, .int .i64 0] 274)) := (Below.refl _ w).alloc (Nat.le_refl _) _
  refine (rv_ok (H.out.below hb0) (HE.out.below hb0) hbl hz h1 hT).mono ?_
  rintro e w1 ⟨rfl, g1, c1⟩
  have hbn : ¬ lineM bl w.heap.size 0 ∧ ¬ lineM bl w.heap.size 1 := ⟨fun e => by have := H.out.lt; omega, fun e => by have := H.out.lt; omega⟩
  have hsz : w.heap.size < (w.alloc (.cells #[.nilIface, .int .i64 0] 274)).heap.size := by show w.heap.size < (w.heap.push _).size; rw [Array.size_push]; omega
  have k0 := (c1.cell w.heap.size 0 hsz hbn.1).trans (World.cell?_alloc_new w #[.nilIface, .int .i64 0] 274 0)
  have k1 := (c1.cell w.heap.size 1 hsz hbn.2).trans (World.cell?_alloc_new w #[.nilIface, .int .i64 0] 274 1)
  have f0 := c1.frozen w.heap.size 0 hsz
  have f1 := c1.frozen w.heap.size 1 hsz
  have H1 := hid g1
  have C1 := hid ((Chg.of_below hb0).trans c1)
  have Z1 := hid (Nat.lt_of_lt_of_le hsz c1.size)
  clear g1 c1 hb0
  go_wp2_with fail
  refine (rn_ok H1.out (HE.out.line C1.out hbl) hbl (gVal_sz h1 hz) h2).mono ?_
  rintro e w2 ⟨rfl, g2, c2⟩
  have k0' := (c2.cell w.heap.size 0 Z1.out hbn.1).trans k0
  have k1' := (c2.cell w.heap.size 1 Z1.out hbn.2).trans k1
  have f0' := (c2.frozen w.heap.size 0 Z1.out).trans f0
  have f1' := (c2.frozen w.heap.size 1 Z1.out).trans f1
  simp at k0' k1' f0' f1'
  have H2 := hid g2
  have C2 := hid (C1.out.trans c2)
  clear g2 c2 H1 C1 k0 k1 f0 f1
  go_wp2
  have d1 : Chg (fun k _ => k = w.heap.size) w2 ((w2.setCell ⟨w.heap.size, 0, none⟩ (.iface T p)).setCell ⟨w.heap.size, 1, none⟩ (.int .i64 v)) :=
    ((Chg.refl (fun k _ => k = w.heap.size) w2).setCell (b := w.heap.size) (o := 0) (fun _ => rfl) _).setCell (b := w.heap.size) (o := 1) (fun _ => rfl) _
  have d2 : Chg (lineM bl) w ((w2.setCell ⟨w.heap.size, 0, none⟩ (.iface T p)).setCell ⟨w.heap.size, 1, none⟩ (.int .i64 v)) :=
    (C2.out.setCell (fun h => absurd h (Nat.lt_irrefl _)) _).setCell (fun h => absurd h (Nat.lt_irrefl _)) _
  have g1 := H2.out.keep d1 (fun _ e => by have := H.out.lt; omega) (fun _ e => by have := H.out.ltw; omega)
  have e0 : ((w2.setCell ⟨w.heap.size, 0, none⟩ (.iface T p)).setCell ⟨w.heap.size, 1, none⟩ (.int .i64 v)).cell? ⟨w.heap.size, 0, none⟩ = some (.iface T p) :=
    (cell_set_ne (.inr (by decide))).trans (cell_set_eq k0' rfl)
  have e1 : ((w2.setCell ⟨w.heap.size, 0, none⟩ (.iface T p)).setCell ⟨w.heap.size, 1, none⟩ (.int .i64 v)).cell? ⟨w.heap.size, 1, none⟩ = some (.int .i64 v) :=
    cell_set_eq ((cell_set_ne (.inr (by decide))).trans k1') rfl
  generalize (w2.setCell ⟨w.heap.size, 0, none⟩ (.iface T p)).setCell ⟨w.heap.size, 1, none⟩ (.int .i64 v) = w3 at *
  refine bodyPost_ret (v := .agg #[.iface T p, .int .i64 v]) (by simp [results, Tryz.results125, go_sem, e0, e1]) rfl ⟨rfl, g1, d2⟩

set_option maxRecDepth 100000 in
set_option maxHeartbeats 1000000 in
theorem rc_no (h : LineAt w bl n bw ws) (hE : Env w) (hbl : 10 ≤ bl) (hz : SzOk ws) (hv : gCell ws = none) :
    Calls Tryz.prog 125 #[ptr bl] w fun e w' => Fails 2 n bl w e w' := by
  have H := hid h
  have HE := hid hE
  clear h hE
  cases h1 : gVal ws with
  | none =>
    go_enter Tryz.func125, Tryz.ntmps125
    go_wp2_with fail
    have hb0 : Below w.heap.size w (w.alloc (.cells #[.nilIface, .int .i64 0] 274)) := (Below.refl _ w).alloc (Nat.le_refl _) _
    refine (rv_no (H.out.below hb0) (HE.out.below hb0) hbl hz h1).mono ?_
    intro e w3 h3
    obtain ⟨bf, rfl, h4⟩ := h3.after (Chg.of_below hb0)
    exact ⟨rfl, bf, rfl, h4⟩
  | some q =>
    obtain ⟨x, ws2⟩ := q
    have h2 : gNum ws2 = none := by
      cases h2 : gNum ws2 with
      | none => rfl
      | some q2 => simp [gCell, h1, h2] at hv
    obtain ⟨T, p, hT⟩ := encVl_form x
    go_enter Tryz.func125, Tryz.ntmps125
    go_wp2_with fail
    have hb0 : Below w.heap.size w (w.alloc (.cells #[.nilIface, .int .i64 0] 274)) := (Below.refl _ w).alloc (Nat.le_refl _) _
    refine (rv_ok (H.out.below hb0) (HE.out.below hb0) hbl hz h1 hT).mono ?_
    rintro e w1 ⟨rfl, h3, c1⟩
    have H1 := hid h3
    have C1 := hid ((Chg.of_below hb0).trans c1)
    clear h3 c1 hb0
    go_wp2_with fail
    refine (rn_no H1.out (HE.out.line C1.out hbl) hbl (gVal_sz h1 hz) h2).mono ?_
    intro e w3 h3
    obtain ⟨bf, rfl, h4⟩ := h3.after C1.out
    exact ⟨rfl, bf, rfl, h4⟩
end
end Go.Proofs.YtfhkfnoajbbfdabGreatDoor

/- readIns, whatever the words are. -/
namespace Go.Proofs.YtfhkfnoajbbfdabGreatDoor
open Go.RowKit

def wTrap : ByteArray := ⟨#[116, 114, 97, 112]⟩

theorem Fails.thru {w w1 w' : World} {bl : Nat} {er n : Int} {e : Ending} (h : Fails er n bl w1 e w') (c : Chg (lineM bl) w w1) : ∃ bf, e = .panicked (stopV bf) ∧ Fails er n bl w (.panicked (stopV bf)) w' := by
  obtain ⟨bf, rfl, h4⟩ := h.after c
  exact ⟨bf, rfl, bf, rfl, h4⟩

section
variable {w : World} {bl bw : Nat} {n : Int} {ws : List ByteArray}

theorem ops_first : ∀ k, k < 12 → ∀ j, j < k → opWords j ≠ opWords k := by decide

def gfence (ws : List ByteArray) : Option (Ic × List ByteArray) := some ({ k := 6, op := 0, d := 0, a := ⟨false, 0⟩, b := ⟨false, 0⟩, c := ⟨false, 0⟩, n := 0 }, ws)

set_option maxRecDepth 100000 in
set_option maxHeartbeats 1000000 in
theorem rins_fence (h : LineAt w bl n bw ws) (hE : Hid (Env w)) :
    Calls Tryz.prog 87 #[.string wFence, ptr bl] w fun e w' => Rds bl n bw w ((gfence ws).map fun p => (encIns p.1, p.2)) e w' := by
  have H0 := hid h
  clear h
  have hq : wFence = ⟨#[102, 101, 110, 99, 101]⟩ := rfl
  rw [show ((gfence ws).map fun p => (encIns p.1, p.2)) = some (.iface 285 (.agg #[]), ws) from by simp [gfence, encIns, insT, insV]]
  go_enter Tryz.func87, Tryz.ntmps87
  go_wp2_with fail
  refine (named_none w wFence opWords hE.out.words (by decide : ∀ j, j < 12 → opWords j ≠ wFence)).mono ?_
  rintro e W0 ⟨rfl, hW0⟩
  subst W0
  rw [hq]
  clear hq
  have C0 := hid (Chg.refl (lineM bl) w)
  go_wp2
  go_ret
  exact ⟨rfl, H0.out, C0.out⟩

def ghalt (ws : List ByteArray) : Option (Ic × List ByteArray) := some ({ k := 10, op := 0, d := 0, a := ⟨false, 0⟩, b := ⟨false, 0⟩, c := ⟨false, 0⟩, n := 10 }, ws)

set_option maxRecDepth 100000 in
set_option maxHeartbeats 1000000 in
theorem rins_halt (h : LineAt w bl n bw ws) (hE : Hid (Env w)) :
    Calls Tryz.prog 87 #[.string wHalt, ptr bl] w fun e w' => Rds bl n bw w ((ghalt ws).map fun p => (encIns p.1, p.2)) e w' := by
  have H0 := hid h
  clear h
  have hq : wHalt = ⟨#[104, 97, 108, 116]⟩ := rfl
  rw [show ((ghalt ws).map fun p => (encIns p.1, p.2)) = some (.iface 295 (.agg #[.int .i64 10]), ws) from by simp [ghalt, encIns, insT, insV]]
  go_enter Tryz.func87, Tryz.ntmps87
  go_wp2_with fail
  refine (named_none w wHalt opWords hE.out.words (by decide : ∀ j, j < 12 → opWords j ≠ wHalt)).mono ?_
  rintro e W0 ⟨rfl, hW0⟩
  subst W0
  rw [hq]
  clear hq
  have C0 := hid (Chg.refl (lineM bl) w)
  go_wp2
  go_ret
  exact ⟨rfl, H0.out, C0.out⟩

def gout (ws : List ByteArray) : Option (Ic × List ByteArray) := (gVal ws).map fun p1 => ({ k := 7, op := 0, d := 0, a := p1.1, b := ⟨false, 0⟩, c := ⟨false, 0⟩, n := 0 }, p1.2)

set_option maxRecDepth 100000 in
set_option maxHeartbeats 1000000 in
theorem rins_out (h : LineAt w bl n bw ws) (hE : Hid (Env w)) (hbl : 10 ≤ bl) (hz : SzOk ws) :
    Calls Tryz.prog 87 #[.string wOut, ptr bl] w fun e w' => Rds bl n bw w ((gout ws).map fun p => (encIns p.1, p.2)) e w' := by
  have H0 := hid h
  clear h
  have hq : wOut = ⟨#[111, 117, 116]⟩ := rfl
  have Z0 := hid hz
  clear hz
  cases hv : gVal ws with
  | none =>
    rw [show ((gout ws).map fun p => (encIns p.1, p.2)) = none from by simp [gout, hv]]
    go_enter Tryz.func87, Tryz.ntmps87
    go_wp2_with fail
    refine (named_none w wOut opWords hE.out.words (by decide : ∀ j, j < 12 → opWords j ≠ wOut)).mono ?_
    rintro e W0 ⟨rfl, hW0⟩
    subst W0
    rw [hq]
    clear hq
    have C0 := hid (Chg.refl (lineM bl) w)
    go_wp2_with fail
    refine (rv_no H0.out (hE.out.line C0.out hbl) hbl Z0.out hv).mono ?_
    intro e Wf hf
    obtain ⟨bf, rfl, hf'⟩ := hf.thru C0.out
    exact ⟨rfl, hf'⟩
  | some q =>
    obtain ⟨x1, ws1⟩ := q
    have E1 := hid hv
    have Z1 := hid (gVal_sz hv Z0.out)
    clear hv
    obtain ⟨t1, v1, T1⟩ := encVl_form x1
    rw [show ((gout ws).map fun p => (encIns p.1, p.2)) = some (.iface 287 (.agg #[.iface t1 v1]), ws1) from by simp [gout, E1.out, encIns, insT, insV, T1]]
    go_enter Tryz.func87, Tryz.ntmps87
    go_wp2_with fail
    refine (named_none w wOut opWords hE.out.words (by decide : ∀ j, j < 12 → opWords j ≠ wOut)).mono ?_
    rintro e W0 ⟨rfl, hW0⟩
    subst W0
    rw [hq]
    clear hq
    have C0 := hid (Chg.refl (lineM bl) w)
    go_wp2_with fail
    refine (rv_ok H0.out (hE.out.line C0.out hbl) hbl Z0.out E1.out T1).mono ?_
    rintro e W1 ⟨rfl, h', c'⟩
    have H1 := hid h'
    have C1 := hid (C0.out.trans c')
    clear h' c' H0
    go_wp2
    go_ret
    exact ⟨rfl, H1.out, C1.out⟩

def gstore (ws : List ByteArray) : Option (Ic × List ByteArray) := (gCell ws).bind fun p1 => (gVal p1.2).map fun p2 => ({ k := 3, op := 0, d := 0, a := p1.1.1, b := p2.1, c := ⟨false, 0⟩, n := p1.1.2 }, p2.2)

set_option maxRecDepth 100000 in
set_option maxHeartbeats 1000000 in
theorem rins_store (h : LineAt w bl n bw ws) (hE : Hid (Env w)) (hbl : 10 ≤ bl) (hz : SzOk ws) :
    Calls Tryz.prog 87 #[.string wStore, ptr bl] w fun e w' => Rds bl n bw w ((gstore ws).map fun p => (encIns p.1, p.2)) e w' := by
  have H0 := hid h
  clear h
  have hq : wStore = ⟨#[115, 116, 111, 114, 101]⟩ := rfl
  have Z0 := hid hz
  clear hz
  cases hv : gCell ws with
  | none =>
    rw [show ((gstore ws).map fun p => (encIns p.1, p.2)) = none from by simp [gstore, hv]]
    go_enter Tryz.func87, Tryz.ntmps87
    go_wp2_with fail
    refine (named_none w wStore opWords hE.out.words (by decide : ∀ j, j < 12 → opWords j ≠ wStore)).mono ?_
    rintro e W0 ⟨rfl, hW0⟩
    subst W0
    rw [hq]
    clear hq
    have C0 := hid (Chg.refl (lineM bl) w)
    go_wp2_with fail
    refine (rc_no H0.out (hE.out.line C0.out hbl) hbl Z0.out hv).mono ?_
    intro e Wf hf
    obtain ⟨bf, rfl, hf'⟩ := hf.thru C0.out
    exact ⟨rfl, hf'⟩
  | some q =>
    obtain ⟨⟨x1, y1⟩, ws1⟩ := q
    have E1 := hid hv
    have Z1 := hid (gCell_sz hv Z0.out)
    clear hv
    obtain ⟨t1, v1, T1⟩ := encVl_form x1
    cases hv : gVal ws1 with
    | none =>
      rw [show ((gstore ws).map fun p => (encIns p.1, p.2)) = none from by simp [gstore, E1.out, hv]]
      go_enter Tryz.func87, Tryz.ntmps87
      go_wp2_with fail
      refine (named_none w wStore opWords hE.out.words (by decide : ∀ j, j < 12 → opWords j ≠ wStore)).mono ?_
      rintro e W0 ⟨rfl, hW0⟩
      subst W0
      rw [hq]
      clear hq
      have C0 := hid (Chg.refl (lineM bl) w)
      go_wp2_with fail
      refine (rc_ok H0.out (hE.out.line C0.out hbl) hbl Z0.out E1.out T1).mono ?_
      rintro e W1 ⟨rfl, h', c'⟩
      have H1 := hid h'
      have C1 := hid (C0.out.trans c')
      clear h' c' H0
      go_wp2_with fail
      refine (rv_no H1.out (hE.out.line C1.out hbl) hbl Z1.out hv).mono ?_
      intro e Wf hf
      obtain ⟨bf, rfl, hf'⟩ := hf.thru C1.out
      exact ⟨rfl, hf'⟩
    | some q =>
      obtain ⟨x2, ws2⟩ := q
      have E2 := hid hv
      have Z2 := hid (gVal_sz hv Z1.out)
      clear hv
      obtain ⟨t2, v2, T2⟩ := encVl_form x2
      rw [show ((gstore ws).map fun p => (encIns p.1, p.2)) = some (.iface 279 (.agg #[.iface t1 v1, .int .i64 y1, .iface t2 v2]), ws2) from by simp [gstore, E1.out, E2.out, encIns, insT, insV, T1, T2]]
      go_enter Tryz.func87, Tryz.ntmps87
      go_wp2_with fail
      refine (named_none w wStore opWords hE.out.words (by decide : ∀ j, j < 12 → opWords j ≠ wStore)).mono ?_
      rintro e W0 ⟨rfl, hW0⟩
      subst W0
      rw [hq]
      clear hq
      have C0 := hid (Chg.refl (lineM bl) w)
      go_wp2_with fail
      refine (rc_ok H0.out (hE.out.line C0.out hbl) hbl Z0.out E1.out T1).mono ?_
      rintro e W1 ⟨rfl, h', c'⟩
      have H1 := hid h'
      have C1 := hid (C0.out.trans c')
      clear h' c' H0
      go_wp2_with fail
      refine (rv_ok H1.out (hE.out.line C1.out hbl) hbl Z1.out E2.out T2).mono ?_
      rintro e W2 ⟨rfl, h', c'⟩
      have H2 := hid h'
      have C2 := hid (C1.out.trans c')
      clear h' c' H1
      go_wp2
      go_ret
      exact ⟨rfl, H2.out, C2.out⟩

def gload (ws : List ByteArray) : Option (Ic × List ByteArray) := (gReg ws).bind fun p1 => (gCell p1.2).map fun p2 => ({ k := 2, op := 0, d := p1.1, a := p2.1.1, b := ⟨false, 0⟩, c := ⟨false, 0⟩, n := p2.1.2 }, p2.2)

set_option maxRecDepth 100000 in
set_option maxHeartbeats 1000000 in
theorem rins_load (h : LineAt w bl n bw ws) (hE : Hid (Env w)) (hbl : 10 ≤ bl) (hz : SzOk ws) :
    Calls Tryz.prog 87 #[.string wLoad, ptr bl] w fun e w' => Rds bl n bw w ((gload ws).map fun p => (encIns p.1, p.2)) e w' := by
  have H0 := hid h
  clear h
  have hq : wLoad = ⟨#[108, 111, 97, 100]⟩ := rfl
  have Z0 := hid hz
  clear hz
  cases hv : gReg ws with
  | none =>
    rw [show ((gload ws).map fun p => (encIns p.1, p.2)) = none from by simp [gload, hv]]
    go_enter Tryz.func87, Tryz.ntmps87
    go_wp2_with fail
    refine (named_none w wLoad opWords hE.out.words (by decide : ∀ j, j < 12 → opWords j ≠ wLoad)).mono ?_
    rintro e W0 ⟨rfl, hW0⟩
    subst W0
    rw [hq]
    clear hq
    have C0 := hid (Chg.refl (lineM bl) w)
    go_wp2_with fail
    refine (rr_no H0.out Z0.out hv).mono ?_
    intro e Wf hf
    obtain ⟨bf, rfl, hf'⟩ := hf.thru C0.out
    exact ⟨rfl, hf'⟩
  | some q =>
    obtain ⟨x1, ws1⟩ := q
    have E1 := hid hv
    have Z1 := hid (gReg_sz hv Z0.out)
    clear hv
    cases hv : gCell ws1 with
    | none =>
      rw [show ((gload ws).map fun p => (encIns p.1, p.2)) = none from by simp [gload, E1.out, hv]]
      go_enter Tryz.func87, Tryz.ntmps87
      go_wp2_with fail
      refine (named_none w wLoad opWords hE.out.words (by decide : ∀ j, j < 12 → opWords j ≠ wLoad)).mono ?_
      rintro e W0 ⟨rfl, hW0⟩
      subst W0
      rw [hq]
      clear hq
      have C0 := hid (Chg.refl (lineM bl) w)
      go_wp2_with fail
      refine (rr_ok H0.out Z0.out E1.out).mono ?_
      rintro e W1 ⟨rfl, h', c'⟩
      have H1 := hid h'
      have C1 := hid (C0.out.trans c')
      clear h' c' H0
      go_wp2_with fail
      refine (rc_no H1.out (hE.out.line C1.out hbl) hbl Z1.out hv).mono ?_
      intro e Wf hf
      obtain ⟨bf, rfl, hf'⟩ := hf.thru C1.out
      exact ⟨rfl, hf'⟩
    | some q =>
      obtain ⟨⟨x2, y2⟩, ws2⟩ := q
      have E2 := hid hv
      have Z2 := hid (gCell_sz hv Z1.out)
      clear hv
      obtain ⟨t2, v2, T2⟩ := encVl_form x2
      rw [show ((gload ws).map fun p => (encIns p.1, p.2)) = some (.iface 277 (.agg #[.int .i64 x1, .iface t2 v2, .int .i64 y2]), ws2) from by simp [gload, E1.out, E2.out, encIns, insT, insV, T2]]
      go_enter Tryz.func87, Tryz.ntmps87
      go_wp2_with fail
      refine (named_none w wLoad opWords hE.out.words (by decide : ∀ j, j < 12 → opWords j ≠ wLoad)).mono ?_
      rintro e W0 ⟨rfl, hW0⟩
      subst W0
      rw [hq]
      clear hq
      have C0 := hid (Chg.refl (lineM bl) w)
      go_wp2_with fail
      refine (rr_ok H0.out Z0.out E1.out).mono ?_
      rintro e W1 ⟨rfl, h', c'⟩
      have H1 := hid h'
      have C1 := hid (C0.out.trans c')
      clear h' c' H0
      go_wp2_with fail
      refine (rc_ok H1.out (hE.out.line C1.out hbl) hbl Z1.out E2.out T2).mono ?_
      rintro e W2 ⟨rfl, h', c'⟩
      have H2 := hid h'
      have C2 := hid (C1.out.trans c')
      clear h' c' H1
      go_wp2
      go_ret
      exact ⟨rfl, H2.out, C2.out⟩

def gxadd (ws : List ByteArray) : Option (Ic × List ByteArray) := (gReg ws).bind fun p1 => (gCell p1.2).bind fun p2 => (gVal p2.2).map fun p3 => ({ k := 5, op := 0, d := p1.1, a := p2.1.1, b := p3.1, c := ⟨false, 0⟩, n := p2.1.2 }, p3.2)

set_option maxRecDepth 100000 in
set_option maxHeartbeats 1000000 in
theorem rins_xadd (h : LineAt w bl n bw ws) (hE : Hid (Env w)) (hbl : 10 ≤ bl) (hz : SzOk ws) :
    Calls Tryz.prog 87 #[.string wXadd, ptr bl] w fun e w' => Rds bl n bw w ((gxadd ws).map fun p => (encIns p.1, p.2)) e w' := by
  have H0 := hid h
  clear h
  have hq : wXadd = ⟨#[120, 97, 100, 100]⟩ := rfl
  have Z0 := hid hz
  clear hz
  cases hv : gReg ws with
  | none =>
    rw [show ((gxadd ws).map fun p => (encIns p.1, p.2)) = none from by simp [gxadd, hv]]
    go_enter Tryz.func87, Tryz.ntmps87
    go_wp2_with fail
    refine (named_none w wXadd opWords hE.out.words (by decide : ∀ j, j < 12 → opWords j ≠ wXadd)).mono ?_
    rintro e W0 ⟨rfl, hW0⟩
    subst W0
    rw [hq]
    clear hq
    have C0 := hid (Chg.refl (lineM bl) w)
    go_wp2_with fail
    refine (rr_no H0.out Z0.out hv).mono ?_
    intro e Wf hf
    obtain ⟨bf, rfl, hf'⟩ := hf.thru C0.out
    exact ⟨rfl, hf'⟩
  | some q =>
    obtain ⟨x1, ws1⟩ := q
    have E1 := hid hv
    have Z1 := hid (gReg_sz hv Z0.out)
    clear hv
    cases hv : gCell ws1 with
    | none =>
      rw [show ((gxadd ws).map fun p => (encIns p.1, p.2)) = none from by simp [gxadd, E1.out, hv]]
      go_enter Tryz.func87, Tryz.ntmps87
      go_wp2_with fail
      refine (named_none w wXadd opWords hE.out.words (by decide : ∀ j, j < 12 → opWords j ≠ wXadd)).mono ?_
      rintro e W0 ⟨rfl, hW0⟩
      subst W0
      rw [hq]
      clear hq
      have C0 := hid (Chg.refl (lineM bl) w)
      go_wp2_with fail
      refine (rr_ok H0.out Z0.out E1.out).mono ?_
      rintro e W1 ⟨rfl, h', c'⟩
      have H1 := hid h'
      have C1 := hid (C0.out.trans c')
      clear h' c' H0
      go_wp2_with fail
      refine (rc_no H1.out (hE.out.line C1.out hbl) hbl Z1.out hv).mono ?_
      intro e Wf hf
      obtain ⟨bf, rfl, hf'⟩ := hf.thru C1.out
      exact ⟨rfl, hf'⟩
    | some q =>
      obtain ⟨⟨x2, y2⟩, ws2⟩ := q
      have E2 := hid hv
      have Z2 := hid (gCell_sz hv Z1.out)
      clear hv
      obtain ⟨t2, v2, T2⟩ := encVl_form x2
      cases hv : gVal ws2 with
      | none =>
        rw [show ((gxadd ws).map fun p => (encIns p.1, p.2)) = none from by simp [gxadd, E1.out, E2.out, hv]]
        go_enter Tryz.func87, Tryz.ntmps87
        go_wp2_with fail
        refine (named_none w wXadd opWords hE.out.words (by decide : ∀ j, j < 12 → opWords j ≠ wXadd)).mono ?_
        rintro e W0 ⟨rfl, hW0⟩
        subst W0
        rw [hq]
        clear hq
        have C0 := hid (Chg.refl (lineM bl) w)
        go_wp2_with fail
        refine (rr_ok H0.out Z0.out E1.out).mono ?_
        rintro e W1 ⟨rfl, h', c'⟩
        have H1 := hid h'
        have C1 := hid (C0.out.trans c')
        clear h' c' H0
        go_wp2_with fail
        refine (rc_ok H1.out (hE.out.line C1.out hbl) hbl Z1.out E2.out T2).mono ?_
        rintro e W2 ⟨rfl, h', c'⟩
        have H2 := hid h'
        have C2 := hid (C1.out.trans c')
        clear h' c' H1
        go_wp2_with fail
        refine (rv_no H2.out (hE.out.line C2.out hbl) hbl Z2.out hv).mono ?_
        intro e Wf hf
        obtain ⟨bf, rfl, hf'⟩ := hf.thru C2.out
        exact ⟨rfl, hf'⟩
      | some q =>
        obtain ⟨x3, ws3⟩ := q
        have E3 := hid hv
        have Z3 := hid (gVal_sz hv Z2.out)
        clear hv
        obtain ⟨t3, v3, T3⟩ := encVl_form x3
        rw [show ((gxadd ws).map fun p => (encIns p.1, p.2)) = some (.iface 283 (.agg #[.int .i64 x1, .iface t2 v2, .int .i64 y2, .iface t3 v3]), ws3) from by simp [gxadd, E1.out, E2.out, E3.out, encIns, insT, insV, T2, T3]]
        go_enter Tryz.func87, Tryz.ntmps87
        go_wp2_with fail
        refine (named_none w wXadd opWords hE.out.words (by decide : ∀ j, j < 12 → opWords j ≠ wXadd)).mono ?_
        rintro e W0 ⟨rfl, hW0⟩
        subst W0
        rw [hq]
        clear hq
        have C0 := hid (Chg.refl (lineM bl) w)
        go_wp2_with fail
        refine (rr_ok H0.out Z0.out E1.out).mono ?_
        rintro e W1 ⟨rfl, h', c'⟩
        have H1 := hid h'
        have C1 := hid (C0.out.trans c')
        clear h' c' H0
        go_wp2_with fail
        refine (rc_ok H1.out (hE.out.line C1.out hbl) hbl Z1.out E2.out T2).mono ?_
        rintro e W2 ⟨rfl, h', c'⟩
        have H2 := hid h'
        have C2 := hid (C1.out.trans c')
        clear h' c' H1
        go_wp2_with fail
        refine (rv_ok H2.out (hE.out.line C2.out hbl) hbl Z2.out E3.out T3).mono ?_
        rintro e W3 ⟨rfl, h', c'⟩
        have H3 := hid h'
        have C3 := hid (C2.out.trans c')
        clear h' c' H2
        go_wp2
        go_ret
        exact ⟨rfl, H3.out, C3.out⟩

def gcas (ws : List ByteArray) : Option (Ic × List ByteArray) := (gReg ws).bind fun p1 => (gCell p1.2).bind fun p2 => (gVal p2.2).bind fun p3 => (gVal p3.2).map fun p4 => ({ k := 4, op := 0, d := p1.1, a := p2.1.1, b := p3.1, c := p4.1, n := p2.1.2 }, p4.2)

set_option maxRecDepth 100000 in
set_option maxHeartbeats 1000000 in
theorem rins_cas (h : LineAt w bl n bw ws) (hE : Hid (Env w)) (hbl : 10 ≤ bl) (hz : SzOk ws) :
    Calls Tryz.prog 87 #[.string wCas, ptr bl] w fun e w' => Rds bl n bw w ((gcas ws).map fun p => (encIns p.1, p.2)) e w' := by
  have H0 := hid h
  clear h
  have hq : wCas = ⟨#[99, 97, 115]⟩ := rfl
  have Z0 := hid hz
  clear hz
  cases hv : gReg ws with
  | none =>
    rw [show ((gcas ws).map fun p => (encIns p.1, p.2)) = none from by simp [gcas, hv]]
    go_enter Tryz.func87, Tryz.ntmps87
    go_wp2_with fail
    refine (named_none w wCas opWords hE.out.words (by decide : ∀ j, j < 12 → opWords j ≠ wCas)).mono ?_
    rintro e W0 ⟨rfl, hW0⟩
    subst W0
    rw [hq]
    clear hq
    have C0 := hid (Chg.refl (lineM bl) w)
    go_wp2_with fail
    refine (rr_no H0.out Z0.out hv).mono ?_
    intro e Wf hf
    obtain ⟨bf, rfl, hf'⟩ := hf.thru C0.out
    exact ⟨rfl, hf'⟩
  | some q =>
    obtain ⟨x1, ws1⟩ := q
    have E1 := hid hv
    have Z1 := hid (gReg_sz hv Z0.out)
    clear hv
    cases hv : gCell ws1 with
    | none =>
      rw [show ((gcas ws).map fun p => (encIns p.1, p.2)) = none from by simp [gcas, E1.out, hv]]
      go_enter Tryz.func87, Tryz.ntmps87
      go_wp2_with fail
      refine (named_none w wCas opWords hE.out.words (by decide : ∀ j, j < 12 → opWords j ≠ wCas)).mono ?_
      rintro e W0 ⟨rfl, hW0⟩
      subst W0
      rw [hq]
      clear hq
      have C0 := hid (Chg.refl (lineM bl) w)
      go_wp2_with fail
      refine (rr_ok H0.out Z0.out E1.out).mono ?_
      rintro e W1 ⟨rfl, h', c'⟩
      have H1 := hid h'
      have C1 := hid (C0.out.trans c')
      clear h' c' H0
      go_wp2_with fail
      refine (rc_no H1.out (hE.out.line C1.out hbl) hbl Z1.out hv).mono ?_
      intro e Wf hf
      obtain ⟨bf, rfl, hf'⟩ := hf.thru C1.out
      exact ⟨rfl, hf'⟩
    | some q =>
      obtain ⟨⟨x2, y2⟩, ws2⟩ := q
      have E2 := hid hv
      have Z2 := hid (gCell_sz hv Z1.out)
      clear hv
      obtain ⟨t2, v2, T2⟩ := encVl_form x2
      cases hv : gVal ws2 with
      | none =>
        rw [show ((gcas ws).map fun p => (encIns p.1, p.2)) = none from by simp [gcas, E1.out, E2.out, hv]]
        go_enter Tryz.func87, Tryz.ntmps87
        go_wp2_with fail
        refine (named_none w wCas opWords hE.out.words (by decide : ∀ j, j < 12 → opWords j ≠ wCas)).mono ?_
        rintro e W0 ⟨rfl, hW0⟩
        subst W0
        rw [hq]
        clear hq
        have C0 := hid (Chg.refl (lineM bl) w)
        go_wp2_with fail
        refine (rr_ok H0.out Z0.out E1.out).mono ?_
        rintro e W1 ⟨rfl, h', c'⟩
        have H1 := hid h'
        have C1 := hid (C0.out.trans c')
        clear h' c' H0
        go_wp2_with fail
        refine (rc_ok H1.out (hE.out.line C1.out hbl) hbl Z1.out E2.out T2).mono ?_
        rintro e W2 ⟨rfl, h', c'⟩
        have H2 := hid h'
        have C2 := hid (C1.out.trans c')
        clear h' c' H1
        go_wp2_with fail
        refine (rv_no H2.out (hE.out.line C2.out hbl) hbl Z2.out hv).mono ?_
        intro e Wf hf
        obtain ⟨bf, rfl, hf'⟩ := hf.thru C2.out
        exact ⟨rfl, hf'⟩
      | some q =>
        obtain ⟨x3, ws3⟩ := q
        have E3 := hid hv
        have Z3 := hid (gVal_sz hv Z2.out)
        clear hv
        obtain ⟨t3, v3, T3⟩ := encVl_form x3
        cases hv : gVal ws3 with
        | none =>
          rw [show ((gcas ws).map fun p => (encIns p.1, p.2)) = none from by simp [gcas, E1.out, E2.out, E3.out, hv]]
          go_enter Tryz.func87, Tryz.ntmps87
          go_wp2_with fail
          refine (named_none w wCas opWords hE.out.words (by decide : ∀ j, j < 12 → opWords j ≠ wCas)).mono ?_
          rintro e W0 ⟨rfl, hW0⟩
          subst W0
          rw [hq]
          clear hq
          have C0 := hid (Chg.refl (lineM bl) w)
          go_wp2_with fail
          refine (rr_ok H0.out Z0.out E1.out).mono ?_
          rintro e W1 ⟨rfl, h', c'⟩
          have H1 := hid h'
          have C1 := hid (C0.out.trans c')
          clear h' c' H0
          go_wp2_with fail
          refine (rc_ok H1.out (hE.out.line C1.out hbl) hbl Z1.out E2.out T2).mono ?_
          rintro e W2 ⟨rfl, h', c'⟩
          have H2 := hid h'
          have C2 := hid (C1.out.trans c')
          clear h' c' H1
          go_wp2_with fail
          refine (rv_ok H2.out (hE.out.line C2.out hbl) hbl Z2.out E3.out T3).mono ?_
          rintro e W3 ⟨rfl, h', c'⟩
          have H3 := hid h'
          have C3 := hid (C2.out.trans c')
          clear h' c' H2
          go_wp2_with fail
          refine (rv_no H3.out (hE.out.line C3.out hbl) hbl Z3.out hv).mono ?_
          intro e Wf hf
          obtain ⟨bf, rfl, hf'⟩ := hf.thru C3.out
          exact ⟨rfl, hf'⟩
        | some q =>
          obtain ⟨x4, ws4⟩ := q
          have E4 := hid hv
          have Z4 := hid (gVal_sz hv Z3.out)
          clear hv
          obtain ⟨t4, v4, T4⟩ := encVl_form x4
          rw [show ((gcas ws).map fun p => (encIns p.1, p.2)) = some (.iface 281 (.agg #[.int .i64 x1, .iface t2 v2, .int .i64 y2, .iface t3 v3, .iface t4 v4]), ws4) from by simp [gcas, E1.out, E2.out, E3.out, E4.out, encIns, insT, insV, T2, T3, T4]]
          go_enter Tryz.func87, Tryz.ntmps87
          go_wp2_with fail
          refine (named_none w wCas opWords hE.out.words (by decide : ∀ j, j < 12 → opWords j ≠ wCas)).mono ?_
          rintro e W0 ⟨rfl, hW0⟩
          subst W0
          rw [hq]
          clear hq
          have C0 := hid (Chg.refl (lineM bl) w)
          go_wp2_with fail
          refine (rr_ok H0.out Z0.out E1.out).mono ?_
          rintro e W1 ⟨rfl, h', c'⟩
          have H1 := hid h'
          have C1 := hid (C0.out.trans c')
          clear h' c' H0
          go_wp2_with fail
          refine (rc_ok H1.out (hE.out.line C1.out hbl) hbl Z1.out E2.out T2).mono ?_
          rintro e W2 ⟨rfl, h', c'⟩
          have H2 := hid h'
          have C2 := hid (C1.out.trans c')
          clear h' c' H1
          go_wp2_with fail
          refine (rv_ok H2.out (hE.out.line C2.out hbl) hbl Z2.out E3.out T3).mono ?_
          rintro e W3 ⟨rfl, h', c'⟩
          have H3 := hid h'
          have C3 := hid (C2.out.trans c')
          clear h' c' H2
          go_wp2_with fail
          refine (rv_ok H3.out (hE.out.line C3.out hbl) hbl Z3.out E4.out T4).mono ?_
          rintro e W4 ⟨rfl, h', c'⟩
          have H4 := hid h'
          have C4 := hid (C3.out.trans c')
          clear h' c' H3
          go_wp2
          go_ret
          exact ⟨rfl, H4.out, C4.out⟩

def gmov (ws : List ByteArray) : Option (Ic × List ByteArray) := (gReg ws).bind fun p1 => (gVal p1.2).map fun p2 => ({ k := 0, op := 0, d := p1.1, a := p2.1, b := ⟨false, 0⟩, c := ⟨false, 0⟩, n := 0 }, p2.2)

set_option maxRecDepth 100000 in
set_option maxHeartbeats 1000000 in
theorem rins_mov (h : LineAt w bl n bw ws) (hE : Hid (Env w)) (hbl : 10 ≤ bl) (hz : SzOk ws) :
    Calls Tryz.prog 87 #[.string wMov, ptr bl] w fun e w' => Rds bl n bw w ((gmov ws).map fun p => (encIns p.1, p.2)) e w' := by
  have H0 := hid h
  clear h
  have hq : wMov = ⟨#[109, 111, 118]⟩ := rfl
  have Z0 := hid hz
  clear hz
  cases hv : gReg ws with
  | none =>
    rw [show ((gmov ws).map fun p => (encIns p.1, p.2)) = none from by simp [gmov, hv]]
    go_enter Tryz.func87, Tryz.ntmps87
    go_wp2_with fail
    refine (named_none w wMov opWords hE.out.words (by decide : ∀ j, j < 12 → opWords j ≠ wMov)).mono ?_
    rintro e W0 ⟨rfl, hW0⟩
    subst W0
    rw [hq]
    clear hq
    have C0 := hid (Chg.refl (lineM bl) w)
    go_wp2_with fail
    refine (rr_no H0.out Z0.out hv).mono ?_
    intro e Wf hf
    obtain ⟨bf, rfl, hf'⟩ := hf.thru C0.out
    exact ⟨rfl, hf'⟩
  | some q =>
    obtain ⟨x1, ws1⟩ := q
    have E1 := hid hv
    have Z1 := hid (gReg_sz hv Z0.out)
    clear hv
    cases hv : gVal ws1 with
    | none =>
      rw [show ((gmov ws).map fun p => (encIns p.1, p.2)) = none from by simp [gmov, E1.out, hv]]
      go_enter Tryz.func87, Tryz.ntmps87
      go_wp2_with fail
      refine (named_none w wMov opWords hE.out.words (by decide : ∀ j, j < 12 → opWords j ≠ wMov)).mono ?_
      rintro e W0 ⟨rfl, hW0⟩
      subst W0
      rw [hq]
      clear hq
      have C0 := hid (Chg.refl (lineM bl) w)
      go_wp2_with fail
      refine (rr_ok H0.out Z0.out E1.out).mono ?_
      rintro e W1 ⟨rfl, h', c'⟩
      have H1 := hid h'
      have C1 := hid (C0.out.trans c')
      clear h' c' H0
      go_wp2_with fail
      refine (rv_no H1.out (hE.out.line C1.out hbl) hbl Z1.out hv).mono ?_
      intro e Wf hf
      obtain ⟨bf, rfl, hf'⟩ := hf.thru C1.out
      exact ⟨rfl, hf'⟩
    | some q =>
      obtain ⟨x2, ws2⟩ := q
      have E2 := hid hv
      have Z2 := hid (gVal_sz hv Z1.out)
      clear hv
      obtain ⟨t2, v2, T2⟩ := encVl_form x2
      rw [show ((gmov ws).map fun p => (encIns p.1, p.2)) = some (.iface 272 (.agg #[.int .i64 x1, .iface t2 v2]), ws2) from by simp [gmov, E1.out, E2.out, encIns, insT, insV, T2]]
      go_enter Tryz.func87, Tryz.ntmps87
      go_wp2_with fail
      refine (named_none w wMov opWords hE.out.words (by decide : ∀ j, j < 12 → opWords j ≠ wMov)).mono ?_
      rintro e W0 ⟨rfl, hW0⟩
      subst W0
      rw [hq]
      clear hq
      have C0 := hid (Chg.refl (lineM bl) w)
      go_wp2_with fail
      refine (rr_ok H0.out Z0.out E1.out).mono ?_
      rintro e W1 ⟨rfl, h', c'⟩
      have H1 := hid h'
      have C1 := hid (C0.out.trans c')
      clear h' c' H0
      go_wp2_with fail
      refine (rv_ok H1.out (hE.out.line C1.out hbl) hbl Z1.out E2.out T2).mono ?_
      rintro e W2 ⟨rfl, h', c'⟩
      have H2 := hid h'
      have C2 := hid (C1.out.trans c')
      clear h' c' H1
      go_wp2
      go_ret
      exact ⟨rfl, H2.out, C2.out⟩

def gjmp (ws : List ByteArray) : Option (Ic × List ByteArray) := (gIn 0 4000 ws).map fun p1 => ({ k := 8, op := 0, d := 0, a := ⟨false, 0⟩, b := ⟨false, 0⟩, c := ⟨false, 0⟩, n := p1.1 }, p1.2)

set_option maxRecDepth 100000 in
set_option maxHeartbeats 1000000 in
theorem rins_jmp (h : LineAt w bl n bw ws) (hE : Hid (Env w)) (hbl : 10 ≤ bl) (hz : SzOk ws) :
    Calls Tryz.prog 87 #[.string wJmp, ptr bl] w fun e w' => Rds bl n bw w ((gjmp ws).map fun p => (encIns p.1, p.2)) e w' := by
  have H0 := hid h
  clear h
  have hq : wJmp = ⟨#[106, 109, 112]⟩ := rfl
  have Z0 := hid hz
  clear hz
  cases hv : gIn 0 4000 ws with
  | none =>
    rw [show ((gjmp ws).map fun p => (encIns p.1, p.2)) = none from by simp [gjmp, hv]]
    go_enter Tryz.func87, Tryz.ntmps87
    go_wp2_with fail
    refine (named_none w wJmp opWords hE.out.words (by decide : ∀ j, j < 12 → opWords j ≠ wJmp)).mono ?_
    rintro e W0 ⟨rfl, hW0⟩
    subst W0
    rw [hq]
    clear hq
    have C0 := hid (Chg.refl (lineM bl) w)
    go_wp2_with fail
    refine (rp_no H0.out (hE.out.line C0.out hbl) hbl Z0.out hv).mono ?_
    intro e Wf hf
    obtain ⟨bf, rfl, hf'⟩ := hf.thru C0.out
    exact ⟨rfl, hf'⟩
  | some q =>
    obtain ⟨x1, ws1⟩ := q
    have E1 := hid hv
    have Z1 := hid (gIn_sz hv Z0.out)
    clear hv
    rw [show ((gjmp ws).map fun p => (encIns p.1, p.2)) = some (.iface 290 (.agg #[.int .i64 x1]), ws1) from by simp [gjmp, E1.out, encIns, insT, insV]]
    go_enter Tryz.func87, Tryz.ntmps87
    go_wp2_with fail
    refine (named_none w wJmp opWords hE.out.words (by decide : ∀ j, j < 12 → opWords j ≠ wJmp)).mono ?_
    rintro e W0 ⟨rfl, hW0⟩
    subst W0
    rw [hq]
    clear hq
    have C0 := hid (Chg.refl (lineM bl) w)
    go_wp2_with fail
    refine (rp_ok H0.out (hE.out.line C0.out hbl) hbl Z0.out E1.out).mono ?_
    rintro e W1 ⟨rfl, h', c'⟩
    have H1 := hid h'
    have C1 := hid (C0.out.trans c')
    clear h' c' H0
    go_wp2
    go_ret
    exact ⟨rfl, H1.out, C1.out⟩

def gjz (ws : List ByteArray) : Option (Ic × List ByteArray) := (gVal ws).bind fun p1 => (gIn 0 4000 p1.2).map fun p2 => ({ k := 9, op := 0, d := 0, a := p1.1, b := ⟨false, 0⟩, c := ⟨false, 0⟩, n := p2.1 }, p2.2)

set_option maxRecDepth 100000 in
set_option maxHeartbeats 1000000 in
theorem rins_jz (h : LineAt w bl n bw ws) (hE : Hid (Env w)) (hbl : 10 ≤ bl) (hz : SzOk ws) :
    Calls Tryz.prog 87 #[.string wJz, ptr bl] w fun e w' => Rds bl n bw w ((gjz ws).map fun p => (encIns p.1, p.2)) e w' := by
  have H0 := hid h
  clear h
  have hq : wJz = ⟨#[106, 122]⟩ := rfl
  have Z0 := hid hz
  clear hz
  cases hv : gVal ws with
  | none =>
    rw [show ((gjz ws).map fun p => (encIns p.1, p.2)) = none from by simp [gjz, hv]]
    go_enter Tryz.func87, Tryz.ntmps87
    go_wp2_with fail
    refine (named_none w wJz opWords hE.out.words (by decide : ∀ j, j < 12 → opWords j ≠ wJz)).mono ?_
    rintro e W0 ⟨rfl, hW0⟩
    subst W0
    rw [hq]
    clear hq
    have C0 := hid (Chg.refl (lineM bl) w)
    go_wp2_with fail
    refine (rv_no H0.out (hE.out.line C0.out hbl) hbl Z0.out hv).mono ?_
    intro e Wf hf
    obtain ⟨bf, rfl, hf'⟩ := hf.thru C0.out
    exact ⟨rfl, hf'⟩
  | some q =>
    obtain ⟨x1, ws1⟩ := q
    have E1 := hid hv
    have Z1 := hid (gVal_sz hv Z0.out)
    clear hv
    obtain ⟨t1, v1, T1⟩ := encVl_form x1
    cases hv : gIn 0 4000 ws1 with
    | none =>
      rw [show ((gjz ws).map fun p => (encIns p.1, p.2)) = none from by simp [gjz, E1.out, hv]]
      go_enter Tryz.func87, Tryz.ntmps87
      go_wp2_with fail
      refine (named_none w wJz opWords hE.out.words (by decide : ∀ j, j < 12 → opWords j ≠ wJz)).mono ?_
      rintro e W0 ⟨rfl, hW0⟩
      subst W0
      rw [hq]
      clear hq
      have C0 := hid (Chg.refl (lineM bl) w)
      go_wp2_with fail
      refine (rv_ok H0.out (hE.out.line C0.out hbl) hbl Z0.out E1.out T1).mono ?_
      rintro e W1 ⟨rfl, h', c'⟩
      have H1 := hid h'
      have C1 := hid (C0.out.trans c')
      clear h' c' H0
      go_wp2_with fail
      refine (rp_no H1.out (hE.out.line C1.out hbl) hbl Z1.out hv).mono ?_
      intro e Wf hf
      obtain ⟨bf, rfl, hf'⟩ := hf.thru C1.out
      exact ⟨rfl, hf'⟩
    | some q =>
      obtain ⟨x2, ws2⟩ := q
      have E2 := hid hv
      have Z2 := hid (gIn_sz hv Z1.out)
      clear hv
      rw [show ((gjz ws).map fun p => (encIns p.1, p.2)) = some (.iface 292 (.agg #[.iface t1 v1, .int .i64 x2]), ws2) from by simp [gjz, E1.out, E2.out, encIns, insT, insV, T1]]
      go_enter Tryz.func87, Tryz.ntmps87
      go_wp2_with fail
      refine (named_none w wJz opWords hE.out.words (by decide : ∀ j, j < 12 → opWords j ≠ wJz)).mono ?_
      rintro e W0 ⟨rfl, hW0⟩
      subst W0
      rw [hq]
      clear hq
      have C0 := hid (Chg.refl (lineM bl) w)
      go_wp2_with fail
      refine (rv_ok H0.out (hE.out.line C0.out hbl) hbl Z0.out E1.out T1).mono ?_
      rintro e W1 ⟨rfl, h', c'⟩
      have H1 := hid h'
      have C1 := hid (C0.out.trans c')
      clear h' c' H0
      go_wp2_with fail
      refine (rp_ok H1.out (hE.out.line C1.out hbl) hbl Z1.out E2.out).mono ?_
      rintro e W2 ⟨rfl, h', c'⟩
      have H2 := hid h'
      have C2 := hid (C1.out.trans c')
      clear h' c' H1
      go_wp2
      go_ret
      exact ⟨rfl, H2.out, C2.out⟩

def gtrap (ws : List ByteArray) : Option (Ic × List ByteArray) := (gIn 1 9 ws).map fun p1 => ({ k := 10, op := 0, d := 0, a := ⟨false, 0⟩, b := ⟨false, 0⟩, c := ⟨false, 0⟩, n := p1.1 }, p1.2)

set_option maxRecDepth 100000 in
set_option maxHeartbeats 1000000 in
theorem rins_trap (h : LineAt w bl n bw ws) (hE : Hid (Env w)) (hbl : 10 ≤ bl) (hz : SzOk ws) :
    Calls Tryz.prog 87 #[.string wTrap, ptr bl] w fun e w' => Rds bl n bw w ((gtrap ws).map fun p => (encIns p.1, p.2)) e w' := by
  have H0 := hid h
  clear h
  have hq : wTrap = ⟨#[116, 114, 97, 112]⟩ := rfl
  have Z0 := hid hz
  clear hz
  cases hv : gIn 1 9 ws with
  | none =>
    rw [show ((gtrap ws).map fun p => (encIns p.1, p.2)) = none from by simp [gtrap, hv]]
    go_enter Tryz.func87, Tryz.ntmps87
    go_wp2_with fail
    refine (named_none w wTrap opWords hE.out.words (by decide : ∀ j, j < 12 → opWords j ≠ wTrap)).mono ?_
    rintro e W0 ⟨rfl, hW0⟩
    subst W0
    rw [hq]
    clear hq
    have C0 := hid (Chg.refl (lineM bl) w)
    go_wp2_with fail
    refine (rw_no H0.out (hE.out.line C0.out hbl) hbl Z0.out hv).mono ?_
    intro e Wf hf
    obtain ⟨bf, rfl, hf'⟩ := hf.thru C0.out
    exact ⟨rfl, hf'⟩
  | some q =>
    obtain ⟨x1, ws1⟩ := q
    have E1 := hid hv
    have Z1 := hid (gIn_sz hv Z0.out)
    clear hv
    rw [show ((gtrap ws).map fun p => (encIns p.1, p.2)) = some (.iface 295 (.agg #[.int .i64 x1]), ws1) from by simp [gtrap, E1.out, encIns, insT, insV]]
    go_enter Tryz.func87, Tryz.ntmps87
    go_wp2_with fail
    refine (named_none w wTrap opWords hE.out.words (by decide : ∀ j, j < 12 → opWords j ≠ wTrap)).mono ?_
    rintro e W0 ⟨rfl, hW0⟩
    subst W0
    rw [hq]
    clear hq
    have C0 := hid (Chg.refl (lineM bl) w)
    go_wp2_with fail
    refine (rw_ok H0.out (hE.out.line C0.out hbl) hbl Z0.out E1.out).mono ?_
    rintro e W1 ⟨rfl, h', c'⟩
    have H1 := hid h'
    have C1 := hid (C0.out.trans c')
    clear h' c' H0
    go_wp2
    go_ret
    exact ⟨rfl, H1.out, C1.out⟩

def gop (op : Nat) (ws : List ByteArray) : Option (Ic × List ByteArray) := (gReg ws).bind fun p1 => (gVal p1.2).bind fun p2 => (gVal p2.2).map fun p3 => ({ k := 1, op := op, d := p1.1, a := p2.1, b := p3.1, c := ⟨false, 0⟩, n := 0 }, p3.2)

set_option maxRecDepth 100000 in
set_option maxHeartbeats 1000000 in
theorem rins_op {u : ByteArray} {op : Nat} (hop : op < 12) (hu : opWords op = u) (h : LineAt w bl n bw ws) (hE : Hid (Env w)) (hbl : 10 ≤ bl) (hz : SzOk ws) :
    Calls Tryz.prog 87 #[.string u, ptr bl] w fun e w' => Rds bl n bw w ((gop op ws).map fun p => (encIns p.1, p.2)) e w' := by
  have H0 := hid h
  clear h
  have Z0 := hid hz
  clear hz
  cases hv : gReg ws with
  | none =>
    rw [show ((gop op ws).map fun p => (encIns p.1, p.2)) = none from by simp [gop, hv]]
    go_enter Tryz.func87, Tryz.ntmps87
    go_wp2_with fail
    refine (named_at w u opWords hE.out.words op hop (hu ▸ ops_first op hop) hu).mono ?_
    rintro e W0 ⟨rfl, hW0⟩
    subst W0
    have C0 := hid (Chg.refl (lineM bl) w)
    go_wp2_with fail
    refine (rr_no H0.out Z0.out hv).mono ?_
    intro e Wf hf
    obtain ⟨bf, rfl, hf'⟩ := hf.thru C0.out
    exact ⟨rfl, hf'⟩
  | some q =>
    obtain ⟨x1, ws1⟩ := q
    have E1 := hid hv
    have Z1 := hid (gReg_sz hv Z0.out)
    clear hv
    cases hv : gVal ws1 with
    | none =>
      rw [show ((gop op ws).map fun p => (encIns p.1, p.2)) = none from by simp [gop, E1.out, hv]]
      go_enter Tryz.func87, Tryz.ntmps87
      go_wp2_with fail
      refine (named_at w u opWords hE.out.words op hop (hu ▸ ops_first op hop) hu).mono ?_
      rintro e W0 ⟨rfl, hW0⟩
      subst W0
      have C0 := hid (Chg.refl (lineM bl) w)
      go_wp2_with fail
      refine (rr_ok H0.out Z0.out E1.out).mono ?_
      rintro e W1 ⟨rfl, h', c'⟩
      have H1 := hid h'
      have C1 := hid (C0.out.trans c')
      clear h' c' H0
      go_wp2_with fail
      refine (rv_no H1.out (hE.out.line C1.out hbl) hbl Z1.out hv).mono ?_
      intro e Wf hf
      obtain ⟨bf, rfl, hf'⟩ := hf.thru C1.out
      exact ⟨rfl, hf'⟩
    | some q =>
      obtain ⟨x2, ws2⟩ := q
      have E2 := hid hv
      have Z2 := hid (gVal_sz hv Z1.out)
      clear hv
      obtain ⟨t2, v2, T2⟩ := encVl_form x2
      cases hv : gVal ws2 with
      | none =>
        rw [show ((gop op ws).map fun p => (encIns p.1, p.2)) = none from by simp [gop, E1.out, E2.out, hv]]
        go_enter Tryz.func87, Tryz.ntmps87
        go_wp2_with fail
        refine (named_at w u opWords hE.out.words op hop (hu ▸ ops_first op hop) hu).mono ?_
        rintro e W0 ⟨rfl, hW0⟩
        subst W0
        have C0 := hid (Chg.refl (lineM bl) w)
        go_wp2_with fail
        refine (rr_ok H0.out Z0.out E1.out).mono ?_
        rintro e W1 ⟨rfl, h', c'⟩
        have H1 := hid h'
        have C1 := hid (C0.out.trans c')
        clear h' c' H0
        go_wp2_with fail
        refine (rv_ok H1.out (hE.out.line C1.out hbl) hbl Z1.out E2.out T2).mono ?_
        rintro e W2 ⟨rfl, h', c'⟩
        have H2 := hid h'
        have C2 := hid (C1.out.trans c')
        clear h' c' H1
        go_wp2_with fail
        refine (rv_no H2.out (hE.out.line C2.out hbl) hbl Z2.out hv).mono ?_
        intro e Wf hf
        obtain ⟨bf, rfl, hf'⟩ := hf.thru C2.out
        exact ⟨rfl, hf'⟩
      | some q =>
        obtain ⟨x3, ws3⟩ := q
        have E3 := hid hv
        have Z3 := hid (gVal_sz hv Z2.out)
        clear hv
        obtain ⟨t3, v3, T3⟩ := encVl_form x3
        rw [show ((gop op ws).map fun p => (encIns p.1, p.2)) = some (.iface 270 (.agg #[.int .i64 op, .int .i64 x1, .iface t2 v2, .iface t3 v3]), ws3) from by simp [gop, E1.out, E2.out, E3.out, encIns, insT, insV, T2, T3]]
        go_enter Tryz.func87, Tryz.ntmps87
        go_wp2_with fail
        refine (named_at w u opWords hE.out.words op hop (hu ▸ ops_first op hop) hu).mono ?_
        rintro e W0 ⟨rfl, hW0⟩
        subst W0
        have C0 := hid (Chg.refl (lineM bl) w)
        go_wp2_with fail
        refine (rr_ok H0.out Z0.out E1.out).mono ?_
        rintro e W1 ⟨rfl, h', c'⟩
        have H1 := hid h'
        have C1 := hid (C0.out.trans c')
        clear h' c' H0
        go_wp2_with fail
        refine (rv_ok H1.out (hE.out.line C1.out hbl) hbl Z1.out E2.out T2).mono ?_
        rintro e W2 ⟨rfl, h', c'⟩
        have H2 := hid h'
        have C2 := hid (C1.out.trans c')
        clear h' c' H1
        go_wp2_with fail
        refine (rv_ok H2.out (hE.out.line C2.out hbl) hbl Z2.out E3.out T3).mono ?_
        rintro e W3 ⟨rfl, h', c'⟩
        have H3 := hid h'
        have C3 := hid (C2.out.trans c')
        clear h' c' H2
        go_wp2
        go_ret
        exact ⟨rfl, H3.out, C3.out⟩

end
end Go.Proofs.YtfhkfnoajbbfdabGreatDoor

/- readIns at any word; withLine at any line. -/
namespace Go.Proofs.YtfhkfnoajbbfdabGreatDoor
open Go.RowKit

def opIx (u : ByteArray) : Option Nat := (List.range 12).find? fun j => decide (opWords j = u)

theorem opIx_some {u : ByteArray} {k : Nat} (h : opIx u = some k) : k < 12 ∧ opWords k = u :=
  ⟨by simpa using List.mem_of_find?_eq_some h, by simpa using List.find?_some h⟩
theorem opIx_none {u : ByteArray} (h : opIx u = none) : ∀ j, j < 12 → opWords j ≠ u := by
  intro j hj
  have := List.find?_eq_none.1 h j (by simpa using hj)
  simpa using this

/-- What a line behind its first word makes. -/
def gIns (u : ByteArray) (ws : List ByteArray) : Option (Ic × List ByteArray) :=
  match opIx u with
  | some k => gop k ws
  | none =>
    if u = wMov then gmov ws else if u = wLoad then gload ws else if u = wStore then gstore ws else if u = wCas then gcas ws else if u = wXadd then gxadd ws else if u = wFence then gfence ws
    else if u = wOut then gout ws else if u = wJmp then gjmp ws else if u = wJz then gjz ws else if u = wTrap then gtrap ws else if u = wHalt then ghalt ws else none

section
variable {w : World} {bl bw : Nat} {n : Int} {ws : List ByteArray}

set_option maxRecDepth 100000 in
set_option maxHeartbeats 1000000 in
theorem rins_none {u : ByteArray} (h : LineAt w bl n bw ws) (hE : Hid (Env w)) (hn : Hid (∀ j, j < 12 → opWords j ≠ u))
    (q1 : (u.toList == [109, 111, 118]) = false) (q2 : (u.toList == [108, 111, 97, 100]) = false) (q3 : (u.toList == [115, 116, 111, 114, 101]) = false) (q4 : (u.toList == [99, 97, 115]) = false) (q5 : (u.toList == [120, 97, 100, 100]) = false) (q6 : (u.toList == [102, 101, 110, 99, 101]) = false)
    (q7 : (u.toList == [111, 117, 116]) = false) (q8 : (u.toList == [106, 109, 112]) = false) (q9 : (u.toList == [106, 122]) = false) (q10 : (u.toList == [116, 114, 97, 112]) = false) (q11 : (u.toList == [104, 97, 108, 116]) = false) :
    Calls Tryz.prog 87 #[.string u, ptr bl] w fun e w' => Fails 2 n bl w e w' := by
  have H0 := hid h
  clear h
  go_enter Tryz.func87, Tryz.ntmps87
  go_wp2_with fail
  refine (named_none w u opWords hE.out.words hn.out).mono ?_
  rintro e W0 ⟨rfl, hW0⟩
  subst W0
  go_wp2_with fail
  refine (fail_any H0.out 2).mono ?_
  intro e Wf hf
  obtain ⟨bf, rfl, hf'⟩ := hf.thru (Chg.refl _ w)
  exact ⟨rfl, hf'⟩

theorem ne_list {u : ByteArray} {l : List UInt8} (h : u ≠ ⟨l.toArray⟩) : (u.toList == l) = false := by
  have := ba_ne h
  rwa [show (ByteArray.mk l.toArray).toList = l from by rw [ByteArray.toList_eq]] at this

theorem readIns_any {u : ByteArray} (h : LineAt w bl n bw ws) (hE : Env w) (hbl : 10 ≤ bl) (hz : SzOk ws) :
    Calls Tryz.prog 87 #[.string u, ptr bl] w fun e w' => Rds bl n bw w ((gIns u ws).map fun p => (encIns p.1, p.2)) e w' := by
  unfold gIns
  cases ho : opIx u with
  | some k => exact rins_op (opIx_some ho).1 (opIx_some ho).2 h hE hbl hz
  | none =>
    simp only
    by_cases e1 : u = wMov
    · subst e1; exact rins_mov h hE hbl hz
    rw [if_neg e1]
    by_cases e2 : u = wLoad
    · subst e2; exact rins_load h hE hbl hz
    rw [if_neg e2]
    by_cases e3 : u = wStore
    · subst e3; exact rins_store h hE hbl hz
    rw [if_neg e3]
    by_cases e4 : u = wCas
    · subst e4; exact rins_cas h hE hbl hz
    rw [if_neg e4]
    by_cases e5 : u = wXadd
    · subst e5; exact rins_xadd h hE hbl hz
    rw [if_neg e5]
    by_cases e6 : u = wFence
    · subst e6; exact rins_fence h hE
    rw [if_neg e6]
    by_cases e7 : u = wOut
    · subst e7; exact rins_out h hE hbl hz
    rw [if_neg e7]
    by_cases e8 : u = wJmp
    · subst e8; exact rins_jmp h hE hbl hz
    rw [if_neg e8]
    by_cases e9 : u = wJz
    · subst e9; exact rins_jz h hE hbl hz
    rw [if_neg e9]
    by_cases e10 : u = wTrap
    · subst e10; exact rins_trap h hE hbl hz
    rw [if_neg e10]
    by_cases e11 : u = wHalt
    · subst e11; exact rins_halt h hE
    rw [if_neg e11]
    exact rins_none h hE (opIx_none ho) (ne_list e1) (ne_list e2) (ne_list e3) (ne_list e4) (ne_list e5) (ne_list e6) (ne_list e7) (ne_list e8) (ne_list e9) (ne_list e10) (ne_list e11)

theorem ri_ok {u : ByteArray} {ic : Ic} {ws1 : List ByteArray} {T : TypeId} {p : Value} (h : LineAt w bl n bw ws) (hE : Env w) (hbl : 10 ≤ bl) (hz : SzOk ws) (hv : gIns u ws = some (ic, ws1)) (hT : encIns ic = .iface T p) :
    Calls Tryz.prog 87 #[.string u, ptr bl] w fun e w' => e = .returned (.iface T p) ∧ LineAt w' bl n bw ws1 ∧ Chg (lineM bl) w w' := by
  have k := readIns_any (u := u) h hE hbl hz
  rw [hv, ← hT] at *
  exact k
theorem ri_no {u : ByteArray} (h : LineAt w bl n bw ws) (hE : Env w) (hbl : 10 ≤ bl) (hz : SzOk ws) (hv : gIns u ws = none) :
    Calls Tryz.prog 87 #[.string u, ptr bl] w fun e w' => Fails 2 n bl w e w' := by
  have k := readIns_any (u := u) h hE hbl hz
  rw [hv] at k
  exact k

/-! What withLine does with a line that fails. -/

set_option maxRecDepth 100000 in
set_option maxHeartbeats 1000000 in
/-- A thread's head with something behind it. -/
theorem wl_head_more {u : ByteArray} {a : Option Addr} {k c : Nat} (h : LineAt w bl n bw (wThread :: u :: ws)) (hz : SzOk (u :: ws)) :
    Calls Tryz.prog 57 #[.slice a k c, ptr bl] w fun e w' => Fails 2 n bl w e w' := by
  have H0 := hid h
  clear h
  go_enter Tryz.func57, Tryz.ntmps57
  go_wp2_with fail
  refine (word_ok H0.out hz.1).mono ?_
  rintro e W1 ⟨rfl, h1, c1⟩
  have H1 := hid h1
  have C1 := hid c1
  clear h1 c1
  rw [show wThread = ⟨#[116, 104, 114, 101, 97, 100]⟩ from rfl]
  go_wp2_with fail
  refine (end_some H1.out).mono ?_
  intro e Wf hf
  obtain ⟨bf, rfl, hf'⟩ := hf.thru C1.out
  exact ⟨rfl, hf'⟩

set_option maxRecDepth 100000 in
set_option maxHeartbeats 1000000 in
/-- A fourth thread. -/
theorem wl_head_full {a : Option Addr} {c : Nat} (h : LineAt w bl n bw [wThread]) :
    Calls Tryz.prog 57 #[.slice a 3 c, ptr bl] w fun e w' => Fails 5 n bl w e w' := by
  have H0 := hid h
  clear h
  go_enter Tryz.func57, Tryz.ntmps57
  go_wp2_with fail
  refine (word_ok H0.out (by simp)).mono ?_
  rintro e W1 ⟨rfl, h1, c1⟩
  have H1 := hid h1
  have C1 := hid c1
  clear h1 c1
  rw [show wThread = ⟨#[116, 104, 114, 101, 97, 100]⟩ from rfl]
  go_wp2_with fail
  refine (end_ok H1.out).mono ?_
  rintro e W2 ⟨rfl, rfl⟩
  go_wp2_with fail
  refine (fail_any H1.out 5).mono ?_
  intro e Wf hf
  obtain ⟨bf, rfl, hf'⟩ := hf.thru C1.out
  exact ⟨rfl, hf'⟩

set_option maxRecDepth 100000 in
set_option maxHeartbeats 1000000 in
/-- No instruction. -/
theorem wl_ins_bad {u : ByteArray} {a : Option Addr} {k c : Nat} (h : LineAt w bl n bw (u :: ws)) (hE : Hid (Env w)) (hbl : 10 ≤ bl) (hz : SzOk (u :: ws)) (hu : u ≠ wThread) (hv : Hid (gIns u ws = none)) :
    Calls Tryz.prog 57 #[.slice a k c, ptr bl] w fun e w' => Fails 2 n bl w e w' := by
  have hne := ne_list hu
  have H0 := hid h
  clear h hu
  go_enter Tryz.func57, Tryz.ntmps57
  go_wp2_with fail
  refine (word_ok H0.out hz.len).mono ?_
  rintro e W1 ⟨rfl, h1, c1⟩
  have H1 := hid h1
  have C1 := hid c1
  clear h1 c1
  go_wp2_with fail
  refine (ri_no H1.out (hE.out.line C1.out hbl) hbl hz.tail hv.out).mono ?_
  intro e Wf hf
  obtain ⟨bf, rfl, hf'⟩ := hf.thru C1.out
  exact ⟨rfl, hf'⟩

set_option maxRecDepth 100000 in
set_option maxHeartbeats 1000000 in
/-- An instruction with something behind it. -/
theorem wl_ins_more {u u2 : ByteArray} {ws2 : List ByteArray} {ic : Ic} {a : Option Addr} {k c : Nat} (h : LineAt w bl n bw (u :: ws)) (hE : Hid (Env w)) (hbl : 10 ≤ bl) (hz : SzOk (u :: ws)) (hu : u ≠ wThread) (hv : Hid (gIns u ws = some (ic, u2 :: ws2))) :
    Calls Tryz.prog 57 #[.slice a k c, ptr bl] w fun e w' => Fails 2 n bl w e w' := by
  have hne := ne_list hu
  have H0 := hid h
  clear h hu
  go_enter Tryz.func57, Tryz.ntmps57
  go_wp2_with fail
  refine (word_ok H0.out hz.len).mono ?_
  rintro e W1 ⟨rfl, h1, c1⟩
  have H1 := hid h1
  have C1 := hid c1
  clear h1 c1
  go_wp2_with fail
  refine (ri_ok H1.out (hE.out.line C1.out hbl) hbl hz.tail hv.out rfl).mono ?_
  rintro e W2 ⟨rfl, h2, c2⟩
  have H2 := hid h2
  have C2 := hid (C1.out.trans c2)
  clear h2 c2
  go_wp2_with fail
  refine (end_some H2.out).mono ?_
  intro e Wf hf
  obtain ⟨bf, rfl, hf'⟩ := hf.thru C2.out
  exact ⟨rfl, hf'⟩

set_option maxRecDepth 100000 in
set_option maxHeartbeats 1000000 in
/-- An instruction with no thread above it. -/
theorem wl_ins_place {u : ByteArray} {ic : Ic} {a : Option Addr} {c : Nat} (h : LineAt w bl n bw (u :: ws)) (hE : Hid (Env w)) (hbl : 10 ≤ bl) (hz : SzOk (u :: ws)) (hu : u ≠ wThread) (hv : Hid (gIns u ws = some (ic, []))) :
    Calls Tryz.prog 57 #[.slice a 0 c, ptr bl] w fun e w' => Fails 3 n bl w e w' := by
  have hne := ne_list hu
  have H0 := hid h
  clear h hu
  go_enter Tryz.func57, Tryz.ntmps57
  go_wp2_with fail
  refine (word_ok H0.out hz.len).mono ?_
  rintro e W1 ⟨rfl, h1, c1⟩
  have H1 := hid h1
  have C1 := hid c1
  clear h1 c1
  go_wp2_with fail
  refine (ri_ok H1.out (hE.out.line C1.out hbl) hbl hz.tail hv.out rfl).mono ?_
  rintro e W2 ⟨rfl, h2, c2⟩
  have H2 := hid h2
  have C2 := hid (C1.out.trans c2)
  clear h2 c2
  go_wp2_with fail
  refine (end_ok H2.out).mono ?_
  rintro e W3 ⟨rfl, rfl⟩
  go_wp2_with fail
  refine (fail_any H2.out 3).mono ?_
  intro e Wf hf
  obtain ⟨bf, rfl, hf'⟩ := hf.thru C2.out
  exact ⟨rfl, hf'⟩

set_option maxRecDepth 100000 in
set_option maxHeartbeats 1000000 in
/-- A thread's instruction too many. -/
theorem wl_ins_full {u : ByteArray} {ic : Ic} {g k c : Nat} {ia : Option Addr} {icp : Nat} (h : LineAt w bl n bw (u :: ws)) (hE : Hid (Env w)) (hbl : 10 ≤ bl) (hz : SzOk (u :: ws)) (hu : u ≠ wThread) (hv : Hid (gIns u ws = some (ic, []))) (hk : k < 3)
    (hg : g ≠ bl) (hlt : g < w.heap.size) (hc : w.cell? ⟨g, k, none⟩ = some (.slice ia 4000 icp)) :
    Calls Tryz.prog 57 #[.slice (some ⟨g, 0, none⟩) (k + 1) c, ptr bl] w fun e w' => Fails 5 n bl w e w' := by
  have hne := ne_list hu
  have H0 := hid h
  have hk' : ¬ (k : Int) + 1 = 0 := by omega
  clear h hu
  go_enter Tryz.func57, Tryz.ntmps57
  go_wp2_with fail
  refine (word_ok H0.out hz.len).mono ?_
  rintro e W1 ⟨rfl, h1, c1⟩
  have H1 := hid h1
  have C1 := hid c1
  clear h1 c1
  go_wp2_with fail
  refine (ri_ok H1.out (hE.out.line C1.out hbl) hbl hz.tail hv.out rfl).mono ?_
  rintro e W2 ⟨rfl, h2, c2⟩
  have H2 := hid h2
  have C2 := hid (C1.out.trans c2)
  clear h2 c2
  go_wp2_with fail
  refine (end_ok H2.out).mono ?_
  rintro e W3 ⟨rfl, rfl⟩
  have hc3 := (C2.out.cell g k hlt (fun e => hg e.1)).trans hc
  go_wp2_with fail
  refine (fail_any H2.out 5).mono ?_
  intro e Wf hf
  obtain ⟨bf, rfl, hf'⟩ := hf.thru C2.out
  exact ⟨rfl, hf'⟩
end
end Go.Proofs.YtfhkfnoajbbfdabGreatDoor

namespace Go.Proofs.YtfhkfnoajbbfdabGreatDoor
open Go.RowKit
/- A thread's address is not nil. -/
theorem nGive (b : Nat) (w : World) : (nilAhead 578 75 (ptr b) "Give").run Tryz.prog w = .ok (some false) w := by kernel_rfl
theorem nStore (b : Nat) (w : World) : (nilAhead 578 75 (ptr b) "Store").run Tryz.prog w = .ok (some false) w := by kernel_rfl
theorem nSetCell (b : Nat) (w : World) : (nilAhead 578 75 (ptr b) "SetCell").run Tryz.prog w = .ok (some false) w := by kernel_rfl
end Go.Proofs.YtfhkfnoajbbfdabGreatDoor
