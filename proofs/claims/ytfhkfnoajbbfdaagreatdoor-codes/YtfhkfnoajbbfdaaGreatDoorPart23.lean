import Derived.Test.YtfhkfnoajbbfdaaGreatDoorPart22
/- readIns, whatever the words are. -/
namespace Go.Proofs.YtfhkfnoajbbfdaaGreatDoor
open Go.RowKit

def wTrap : ByteArray := ⟨#[116, 114, 97, 112]⟩

theorem Fails.thru {w w1 w' : World} {bl : Nat} {er n : Int} {e : Ending} (h : Fails er n bl w1 e w') (c : Chg (lineM bl) w w1) : ∃ bf, e = .panicked (stopV bf) ∧ Fails er n bl w (.panicked (stopV bf)) w' := by
  obtain ⟨bf, rfl, h4⟩ := h.after c
  exact ⟨bf, rfl, bf, rfl, h4⟩

section
variable {w : World} {bl bw : Nat} {n : Int} {ws : List ByteArray}

theorem ops_first : ∀ k, k < 12 → ∀ j, j < k → opWords j ≠ opWords k := by decide

def gfence (ws : List ByteArray) : Option (Ic × List ByteArray) := some ({ k := 6, op := 0, d := 0, a := ⟨false, 0⟩, b := ⟨false, 0⟩, c := ⟨false, 0⟩, n := 0 }, ws)

set_option maxRecDepth 100000 in
set_option maxHeartbeats 1000000 in
theorem rins_fence (h : LineAt w bl n bw ws) (hE : Hid (Env w)) :
    Calls Tryz.prog 140 #[.string wFence, ptr bl] w fun e w' => Rds bl n bw w ((gfence ws).map fun p => (encIns p.1, p.2)) e w' := by
  have H0 := hid h
  clear h
  have hq : wFence = ⟨#[102, 101, 110, 99, 101]⟩ := rfl
  rw [show ((gfence ws).map fun p => (encIns p.1, p.2)) = some (.iface 321 (.agg #[]), ws) from by simp [gfence, encIns, insT, insV]]
  go_enter Tryz.func140, Tryz.ntmps140
  go_wp2_with fail
  refine (named_none w wFence opWords hE.out.words (by decide : ∀ j, j < 12 → opWords j ≠ wFence)).mono ?_
  rintro e W0 ⟨rfl, hW0⟩
  subst W0
  rw [hq]
  clear hq
  have C0 := hid (Chg.refl (lineM bl) w)
  go_wp2
  go_ret
  exact ⟨rfl, H0.out, C0.out⟩

def ghalt (ws : List ByteArray) : Option (Ic × List ByteArray) := some ({ k := 10, op := 0, d := 0, a := ⟨false, 0⟩, b := ⟨false, 0⟩, c := ⟨false, 0⟩, n := 10 }, ws)

set_option maxRecDepth 100000 in
set_option maxHeartbeats 1000000 in
theorem rins_halt (h : LineAt w bl n bw ws) (hE : Hid (Env w)) :
    Calls Tryz.prog 140 #[.string wHalt, ptr bl] w fun e w' => Rds bl n bw w ((ghalt ws).map fun p => (encIns p.1, p.2)) e w' := by
  have H0 := hid h
  clear h
  have hq : wHalt = ⟨#[104, 97, 108, 116]⟩ := rfl
  rw [show ((ghalt ws).map fun p => (encIns p.1, p.2)) = some (.iface 331 (.agg #[.int .i64 10]), ws) from by simp [ghalt, encIns, insT, insV]]
  go_enter Tryz.func140, Tryz.ntmps140
  go_wp2_with fail
  refine (named_none w wHalt opWords hE.out.words (by decide : ∀ j, j < 12 → opWords j ≠ wHalt)).mono ?_
  rintro e W0 ⟨rfl, hW0⟩
  subst W0
  rw [hq]
  clear hq
  have C0 := hid (Chg.refl (lineM bl) w)
  go_wp2
  go_ret
  exact ⟨rfl, H0.out, C0.out⟩

def gout (ws : List ByteArray) : Option (Ic × List ByteArray) := (gVal ws).map fun p1 => ({ k := 7, op := 0, d := 0, a := p1.1, b := ⟨false, 0⟩, c := ⟨false, 0⟩, n := 0 }, p1.2)

set_option maxRecDepth 100000 in
set_option maxHeartbeats 1000000 in
theorem rins_out (h : LineAt w bl n bw ws) (hE : Hid (Env w)) (hbl : 10 ≤ bl) (hz : SzOk ws) :
    Calls Tryz.prog 140 #[.string wOut, ptr bl] w fun e w' => Rds bl n bw w ((gout ws).map fun p => (encIns p.1, p.2)) e w' := by
  have H0 := hid h
  clear h
  have hq : wOut = ⟨#[111, 117, 116]⟩ := rfl
  have Z0 := hid hz
  clear hz
  cases hv : gVal ws with
  | none =>
    rw [show ((gout ws).map fun p => (encIns p.1, p.2)) = none from by simp [gout, hv]]
    go_enter Tryz.func140, Tryz.ntmps140
    go_wp2_with fail
    refine (named_none w wOut opWords hE.out.words (by decide : ∀ j, j < 12 → opWords j ≠ wOut)).mono ?_
    rintro e W0 ⟨rfl, hW0⟩
    subst W0
    rw [hq]
    clear hq
    have C0 := hid (Chg.refl (lineM bl) w)
    go_wp2_with fail
    refine (rv_no H0.out (hE.out.line C0.out hbl) hbl Z0.out hv).mono ?_
    intro e Wf hf
    obtain ⟨bf, rfl, hf'⟩ := hf.thru C0.out
    exact ⟨rfl, hf'⟩
  | some q =>
    obtain ⟨x1, ws1⟩ := q
    have E1 := hid hv
    have Z1 := hid (gVal_sz hv Z0.out)
    clear hv
    obtain ⟨t1, v1, T1⟩ := encVl_form x1
    rw [show ((gout ws).map fun p => (encIns p.1, p.2)) = some (.iface 323 (.agg #[.iface t1 v1]), ws1) from by simp [gout, E1.out, encIns, insT, insV, T1]]
    go_enter Tryz.func140, Tryz.ntmps140
    go_wp2_with fail
    refine (named_none w wOut opWords hE.out.words (by decide : ∀ j, j < 12 → opWords j ≠ wOut)).mono ?_
    rintro e W0 ⟨rfl, hW0⟩
    subst W0
    rw [hq]
    clear hq
    have C0 := hid (Chg.refl (lineM bl) w)
    go_wp2_with fail
    refine (rv_ok H0.out (hE.out.line C0.out hbl) hbl Z0.out E1.out T1).mono ?_
    rintro e W1 ⟨rfl, h', c'⟩
    have H1 := hid h'
    have C1 := hid (C0.out.trans c')
    clear h' c' H0
    go_wp2
    go_ret
    exact ⟨rfl, H1.out, C1.out⟩

def gstore (ws : List ByteArray) : Option (Ic × List ByteArray) := (gCell ws).bind fun p1 => (gVal p1.2).map fun p2 => ({ k := 3, op := 0, d := 0, a := p1.1.1, b := p2.1, c := ⟨false, 0⟩, n := p1.1.2 }, p2.2)

set_option maxRecDepth 100000 in
set_option maxHeartbeats 1000000 in
theorem rins_store (h : LineAt w bl n bw ws) (hE : Hid (Env w)) (hbl : 10 ≤ bl) (hz : SzOk ws) :
    Calls Tryz.prog 140 #[.string wStore, ptr bl] w fun e w' => Rds bl n bw w ((gstore ws).map fun p => (encIns p.1, p.2)) e w' := by
  have H0 := hid h
  clear h
  have hq : wStore = ⟨#[115, 116, 111, 114, 101]⟩ := rfl
  have Z0 := hid hz
  clear hz
  cases hv : gCell ws with
  | none =>
    rw [show ((gstore ws).map fun p => (encIns p.1, p.2)) = none from by simp [gstore, hv]]
    go_enter Tryz.func140, Tryz.ntmps140
    go_wp2_with fail
    refine (named_none w wStore opWords hE.out.words (by decide : ∀ j, j < 12 → opWords j ≠ wStore)).mono ?_
    rintro e W0 ⟨rfl, hW0⟩
    subst W0
    rw [hq]
    clear hq
    have C0 := hid (Chg.refl (lineM bl) w)
    go_wp2_with fail
    refine (rc_no H0.out (hE.out.line C0.out hbl) hbl Z0.out hv).mono ?_
    intro e Wf hf
    obtain ⟨bf, rfl, hf'⟩ := hf.thru C0.out
    exact ⟨rfl, hf'⟩
  | some q =>
    obtain ⟨⟨x1, y1⟩, ws1⟩ := q
    have E1 := hid hv
    have Z1 := hid (gCell_sz hv Z0.out)
    clear hv
    obtain ⟨t1, v1, T1⟩ := encVl_form x1
    cases hv : gVal ws1 with
    | none =>
      rw [show ((gstore ws).map fun p => (encIns p.1, p.2)) = none from by simp [gstore, E1.out, hv]]
      go_enter Tryz.func140, Tryz.ntmps140
      go_wp2_with fail
      refine (named_none w wStore opWords hE.out.words (by decide : ∀ j, j < 12 → opWords j ≠ wStore)).mono ?_
      rintro e W0 ⟨rfl, hW0⟩
      subst W0
      rw [hq]
      clear hq
      have C0 := hid (Chg.refl (lineM bl) w)
      go_wp2_with fail
      refine (rc_ok H0.out (hE.out.line C0.out hbl) hbl Z0.out E1.out T1).mono ?_
      rintro e W1 ⟨rfl, h', c'⟩
      have H1 := hid h'
      have C1 := hid (C0.out.trans c')
      clear h' c' H0
      go_wp2_with fail
      refine (rv_no H1.out (hE.out.line C1.out hbl) hbl Z1.out hv).mono ?_
      intro e Wf hf
      obtain ⟨bf, rfl, hf'⟩ := hf.thru C1.out
      exact ⟨rfl, hf'⟩
    | some q =>
      obtain ⟨x2, ws2⟩ := q
      have E2 := hid hv
      have Z2 := hid (gVal_sz hv Z1.out)
      clear hv
      obtain ⟨t2, v2, T2⟩ := encVl_form x2
      rw [show ((gstore ws).map fun p => (encIns p.1, p.2)) = some (.iface 315 (.agg #[.iface t1 v1, .int .i64 y1, .iface t2 v2]), ws2) from by simp [gstore, E1.out, E2.out, encIns, insT, insV, T1, T2]]
      go_enter Tryz.func140, Tryz.ntmps140
      go_wp2_with fail
      refine (named_none w wStore opWords hE.out.words (by decide : ∀ j, j < 12 → opWords j ≠ wStore)).mono ?_
      rintro e W0 ⟨rfl, hW0⟩
      subst W0
      rw [hq]
      clear hq
      have C0 := hid (Chg.refl (lineM bl) w)
      go_wp2_with fail
      refine (rc_ok H0.out (hE.out.line C0.out hbl) hbl Z0.out E1.out T1).mono ?_
      rintro e W1 ⟨rfl, h', c'⟩
      have H1 := hid h'
      have C1 := hid (C0.out.trans c')
      clear h' c' H0
      go_wp2_with fail
      refine (rv_ok H1.out (hE.out.line C1.out hbl) hbl Z1.out E2.out T2).mono ?_
      rintro e W2 ⟨rfl, h', c'⟩
      have H2 := hid h'
      have C2 := hid (C1.out.trans c')
      clear h' c' H1
      go_wp2
      go_ret
      exact ⟨rfl, H2.out, C2.out⟩

def gload (ws : List ByteArray) : Option (Ic × List ByteArray) := (gReg ws).bind fun p1 => (gCell p1.2).map fun p2 => ({ k := 2, op := 0, d := p1.1, a := p2.1.1, b := ⟨false, 0⟩, c := ⟨false, 0⟩, n := p2.1.2 }, p2.2)

set_option maxRecDepth 100000 in
set_option maxHeartbeats 1000000 in
theorem rins_load (h : LineAt w bl n bw ws) (hE : Hid (Env w)) (hbl : 10 ≤ bl) (hz : SzOk ws) :
    Calls Tryz.prog 140 #[.string wLoad, ptr bl] w fun e w' => Rds bl n bw w ((gload ws).map fun p => (encIns p.1, p.2)) e w' := by
  have H0 := hid h
  clear h
  have hq : wLoad = ⟨#[108, 111, 97, 100]⟩ := rfl
  have Z0 := hid hz
  clear hz
  cases hv : gReg ws with
  | none =>
    rw [show ((gload ws).map fun p => (encIns p.1, p.2)) = none from by simp [gload, hv]]
    go_enter Tryz.func140, Tryz.ntmps140
    go_wp2_with fail
    refine (named_none w wLoad opWords hE.out.words (by decide : ∀ j, j < 12 → opWords j ≠ wLoad)).mono ?_
    rintro e W0 ⟨rfl, hW0⟩
    subst W0
    rw [hq]
    clear hq
    have C0 := hid (Chg.refl (lineM bl) w)
    go_wp2_with fail
    refine (rr_no H0.out Z0.out hv).mono ?_
    intro e Wf hf
    obtain ⟨bf, rfl, hf'⟩ := hf.thru C0.out
    exact ⟨rfl, hf'⟩
  | some q =>
    obtain ⟨x1, ws1⟩ := q
    have E1 := hid hv
    have Z1 := hid (gReg_sz hv Z0.out)
    clear hv
    cases hv : gCell ws1 with
    | none =>
      rw [show ((gload ws).map fun p => (encIns p.1, p.2)) = none from by simp [gload, E1.out, hv]]
      go_enter Tryz.func140, Tryz.ntmps140
      go_wp2_with fail
      refine (named_none w wLoad opWords hE.out.words (by decide : ∀ j, j < 12 → opWords j ≠ wLoad)).mono ?_
      rintro e W0 ⟨rfl, hW0⟩
      subst W0
      rw [hq]
      clear hq
      have C0 := hid (Chg.refl (lineM bl) w)
      go_wp2_with fail
      refine (rr_ok H0.out Z0.out E1.out).mono ?_
      rintro e W1 ⟨rfl, h', c'⟩
      have H1 := hid h'
      have C1 := hid (C0.out.trans c')
      clear h' c' H0
      go_wp2_with fail
      refine (rc_no H1.out (hE.out.line C1.out hbl) hbl Z1.out hv).mono ?_
      intro e Wf hf
      obtain ⟨bf, rfl, hf'⟩ := hf.thru C1.out
      exact ⟨rfl, hf'⟩
    | some q =>
      obtain ⟨⟨x2, y2⟩, ws2⟩ := q
      have E2 := hid hv
      have Z2 := hid (gCell_sz hv Z1.out)
      clear hv
      obtain ⟨t2, v2, T2⟩ := encVl_form x2
      rw [show ((gload ws).map fun p => (encIns p.1, p.2)) = some (.iface 313 (.agg #[.int .i64 x1, .iface t2 v2, .int .i64 y2]), ws2) from by simp [gload, E1.out, E2.out, encIns, insT, insV, T2]]
      go_enter Tryz.func140, Tryz.ntmps140
      go_wp2_with fail
      refine (named_none w wLoad opWords hE.out.words (by decide : ∀ j, j < 12 → opWords j ≠ wLoad)).mono ?_
      rintro e W0 ⟨rfl, hW0⟩
      subst W0
      rw [hq]
      clear hq
      have C0 := hid (Chg.refl (lineM bl) w)
      go_wp2_with fail
      refine (rr_ok H0.out Z0.out E1.out).mono ?_
      rintro e W1 ⟨rfl, h', c'⟩
      have H1 := hid h'
      have C1 := hid (C0.out.trans c')
      clear h' c' H0
      go_wp2_with fail
      refine (rc_ok H1.out (hE.out.line C1.out hbl) hbl Z1.out E2.out T2).mono ?_
      rintro e W2 ⟨rfl, h', c'⟩
      have H2 := hid h'
      have C2 := hid (C1.out.trans c')
      clear h' c' H1
      go_wp2
      go_ret
      exact ⟨rfl, H2.out, C2.out⟩

def gxadd (ws : List ByteArray) : Option (Ic × List ByteArray) := (gReg ws).bind fun p1 => (gCell p1.2).bind fun p2 => (gVal p2.2).map fun p3 => ({ k := 5, op := 0, d := p1.1, a := p2.1.1, b := p3.1, c := ⟨false, 0⟩, n := p2.1.2 }, p3.2)

set_option maxRecDepth 100000 in
set_option maxHeartbeats 1000000 in
theorem rins_xadd (h : LineAt w bl n bw ws) (hE : Hid (Env w)) (hbl : 10 ≤ bl) (hz : SzOk ws) :
    Calls Tryz.prog 140 #[.string wXadd, ptr bl] w fun e w' => Rds bl n bw w ((gxadd ws).map fun p => (encIns p.1, p.2)) e w' := by
  have H0 := hid h
  clear h
  have hq : wXadd = ⟨#[120, 97, 100, 100]⟩ := rfl
  have Z0 := hid hz
  clear hz
  cases hv : gReg ws with
  | none =>
    rw [show ((gxadd ws).map fun p => (encIns p.1, p.2)) = none from by simp [gxadd, hv]]
    go_enter Tryz.func140, Tryz.ntmps140
    go_wp2_with fail
    refine (named_none w wXadd opWords hE.out.words (by decide : ∀ j, j < 12 → opWords j ≠ wXadd)).mono ?_
    rintro e W0 ⟨rfl, hW0⟩
    subst W0
    rw [hq]
    clear hq
    have C0 := hid (Chg.refl (lineM bl) w)
    go_wp2_with fail
    refine (rr_no H0.out Z0.out hv).mono ?_
    intro e Wf hf
    obtain ⟨bf, rfl, hf'⟩ := hf.thru C0.out
    exact ⟨rfl, hf'⟩
  | some q =>
    obtain ⟨x1, ws1⟩ := q
    have E1 := hid hv
    have Z1 := hid (gReg_sz hv Z0.out)
    clear hv
    cases hv : gCell ws1 with
    | none =>
      rw [show ((gxadd ws).map fun p => (encIns p.1, p.2)) = none from by simp [gxadd, E1.out, hv]]
      go_enter Tryz.func140, Tryz.ntmps140
      go_wp2_with fail
      refine (named_none w wXadd opWords hE.out.words (by decide : ∀ j, j < 12 → opWords j ≠ wXadd)).mono ?_
      rintro e W0 ⟨rfl, hW0⟩
      subst W0
      rw [hq]
      clear hq
      have C0 := hid (Chg.refl (lineM bl) w)
      go_wp2_with fail
      refine (rr_ok H0.out Z0.out E1.out).mono ?_
      rintro e W1 ⟨rfl, h', c'⟩
      have H1 := hid h'
      have C1 := hid (C0.out.trans c')
      clear h' c' H0
      go_wp2_with fail
      refine (rc_no H1.out (hE.out.line C1.out hbl) hbl Z1.out hv).mono ?_
      intro e Wf hf
      obtain ⟨bf, rfl, hf'⟩ := hf.thru C1.out
      exact ⟨rfl, hf'⟩
    | some q =>
      obtain ⟨⟨x2, y2⟩, ws2⟩ := q
      have E2 := hid hv
      have Z2 := hid (gCell_sz hv Z1.out)
      clear hv
      obtain ⟨t2, v2, T2⟩ := encVl_form x2
      cases hv : gVal ws2 with
      | none =>
        rw [show ((gxadd ws).map fun p => (encIns p.1, p.2)) = none from by simp [gxadd, E1.out, E2.out, hv]]
        go_enter Tryz.func140, Tryz.ntmps140
        go_wp2_with fail
        refine (named_none w wXadd opWords hE.out.words (by decide : ∀ j, j < 12 → opWords j ≠ wXadd)).mono ?_
        rintro e W0 ⟨rfl, hW0⟩
        subst W0
        rw [hq]
        clear hq
        have C0 := hid (Chg.refl (lineM bl) w)
        go_wp2_with fail
        refine (rr_ok H0.out Z0.out E1.out).mono ?_
        rintro e W1 ⟨rfl, h', c'⟩
        have H1 := hid h'
        have C1 := hid (C0.out.trans c')
        clear h' c' H0
        go_wp2_with fail
        refine (rc_ok H1.out (hE.out.line C1.out hbl) hbl Z1.out E2.out T2).mono ?_
        rintro e W2 ⟨rfl, h', c'⟩
        have H2 := hid h'
        have C2 := hid (C1.out.trans c')
        clear h' c' H1
        go_wp2_with fail
        refine (rv_no H2.out (hE.out.line C2.out hbl) hbl Z2.out hv).mono ?_
        intro e Wf hf
        obtain ⟨bf, rfl, hf'⟩ := hf.thru C2.out
        exact ⟨rfl, hf'⟩
      | some q =>
        obtain ⟨x3, ws3⟩ := q
        have E3 := hid hv
        have Z3 := hid (gVal_sz hv Z2.out)
        clear hv
        obtain ⟨t3, v3, T3⟩ := encVl_form x3
        rw [show ((gxadd ws).map fun p => (encIns p.1, p.2)) = some (.iface 319 (.agg #[.int .i64 x1, .iface t2 v2, .int .i64 y2, .iface t3 v3]), ws3) from by simp [gxadd, E1.out, E2.out, E3.out, encIns, insT, insV, T2, T3]]
        go_enter Tryz.func140, Tryz.ntmps140
        go_wp2_with fail
        refine (named_none w wXadd opWords hE.out.words (by decide : ∀ j, j < 12 → opWords j ≠ wXadd)).mono ?_
        rintro e W0 ⟨rfl, hW0⟩
        subst W0
        rw [hq]
        clear hq
        have C0 := hid (Chg.refl (lineM bl) w)
        go_wp2_with fail
        refine (rr_ok H0.out Z0.out E1.out).mono ?_
        rintro e W1 ⟨rfl, h', c'⟩
        have H1 := hid h'
        have C1 := hid (C0.out.trans c')
        clear h' c' H0
        go_wp2_with fail
        refine (rc_ok H1.out (hE.out.line C1.out hbl) hbl Z1.out E2.out T2).mono ?_
        rintro e W2 ⟨rfl, h', c'⟩
        have H2 := hid h'
        have C2 := hid (C1.out.trans c')
        clear h' c' H1
        go_wp2_with fail
        refine (rv_ok H2.out (hE.out.line C2.out hbl) hbl Z2.out E3.out T3).mono ?_
        rintro e W3 ⟨rfl, h', c'⟩
        have H3 := hid h'
        have C3 := hid (C2.out.trans c')
        clear h' c' H2
        go_wp2
        go_ret
        exact ⟨rfl, H3.out, C3.out⟩

def gcas (ws : List ByteArray) : Option (Ic × List ByteArray) := (gReg ws).bind fun p1 => (gCell p1.2).bind fun p2 => (gVal p2.2).bind fun p3 => (gVal p3.2).map fun p4 => ({ k := 4, op := 0, d := p1.1, a := p2.1.1, b := p3.1, c := p4.1, n := p2.1.2 }, p4.2)

set_option maxRecDepth 100000 in
set_option maxHeartbeats 1000000 in
theorem rins_cas (h : LineAt w bl n bw ws) (hE : Hid (Env w)) (hbl : 10 ≤ bl) (hz : SzOk ws) :
    Calls Tryz.prog 140 #[.string wCas, ptr bl] w fun e w' => Rds bl n bw w ((gcas ws).map fun p => (encIns p.1, p.2)) e w' := by
  have H0 := hid h
  clear h
  have hq : wCas = ⟨#[99, 97, 115]⟩ := rfl
  have Z0 := hid hz
  clear hz
  cases hv : gReg ws with
  | none =>
    rw [show ((gcas ws).map fun p => (encIns p.1, p.2)) = none from by simp [gcas, hv]]
    go_enter Tryz.func140, Tryz.ntmps140
    go_wp2_with fail
    refine (named_none w wCas opWords hE.out.words (by decide : ∀ j, j < 12 → opWords j ≠ wCas)).mono ?_
    rintro e W0 ⟨rfl, hW0⟩
    subst W0
    rw [hq]
    clear hq
    have C0 := hid (Chg.refl (lineM bl) w)
    go_wp2_with fail
    refine (rr_no H0.out Z0.out hv).mono ?_
    intro e Wf hf
    obtain ⟨bf, rfl, hf'⟩ := hf.thru C0.out
    exact ⟨rfl, hf'⟩
  | some q =>
    obtain ⟨x1, ws1⟩ := q
    have E1 := hid hv
    have Z1 := hid (gReg_sz hv Z0.out)
    clear hv
    cases hv : gCell ws1 with
    | none =>
      rw [show ((gcas ws).map fun p => (encIns p.1, p.2)) = none from by simp [gcas, E1.out, hv]]
      go_enter Tryz.func140, Tryz.ntmps140
      go_wp2_with fail
      refine (named_none w wCas opWords hE.out.words (by decide : ∀ j, j < 12 → opWords j ≠ wCas)).mono ?_
      rintro e W0 ⟨rfl, hW0⟩
      subst W0
      rw [hq]
      clear hq
      have C0 := hid (Chg.refl (lineM bl) w)
      go_wp2_with fail
      refine (rr_ok H0.out Z0.out E1.out).mono ?_
      rintro e W1 ⟨rfl, h', c'⟩
      have H1 := hid h'
      have C1 := hid (C0.out.trans c')
      clear h' c' H0
      go_wp2_with fail
      refine (rc_no H1.out (hE.out.line C1.out hbl) hbl Z1.out hv).mono ?_
      intro e Wf hf
      obtain ⟨bf, rfl, hf'⟩ := hf.thru C1.out
      exact ⟨rfl, hf'⟩
    | some q =>
      obtain ⟨⟨x2, y2⟩, ws2⟩ := q
      have E2 := hid hv
      have Z2 := hid (gCell_sz hv Z1.out)
      clear hv
      obtain ⟨t2, v2, T2⟩ := encVl_form x2
      cases hv : gVal ws2 with
      | none =>
        rw [show ((gcas ws).map fun p => (encIns p.1, p.2)) = none from by simp [gcas, E1.out, E2.out, hv]]
        go_enter Tryz.func140, Tryz.ntmps140
        go_wp2_with fail
        refine (named_none w wCas opWords hE.out.words (by decide : ∀ j, j < 12 → opWords j ≠ wCas)).mono ?_
        rintro e W0 ⟨rfl, hW0⟩
        subst W0
        rw [hq]
        clear hq
        have C0 := hid (Chg.refl (lineM bl) w)
        go_wp2_with fail
        refine (rr_ok H0.out Z0.out E1.out).mono ?_
        rintro e W1 ⟨rfl, h', c'⟩
        have H1 := hid h'
        have C1 := hid (C0.out.trans c')
        clear h' c' H0
        go_wp2_with fail
        refine (rc_ok H1.out (hE.out.line C1.out hbl) hbl Z1.out E2.out T2).mono ?_
        rintro e W2 ⟨rfl, h', c'⟩
        have H2 := hid h'
        have C2 := hid (C1.out.trans c')
        clear h' c' H1
        go_wp2_with fail
        refine (rv_no H2.out (hE.out.line C2.out hbl) hbl Z2.out hv).mono ?_
        intro e Wf hf
        obtain ⟨bf, rfl, hf'⟩ := hf.thru C2.out
        exact ⟨rfl, hf'⟩
      | some q =>
        obtain ⟨x3, ws3⟩ := q
        have E3 := hid hv
        have Z3 := hid (gVal_sz hv Z2.out)
        clear hv
        obtain ⟨t3, v3, T3⟩ := encVl_form x3
        cases hv : gVal ws3 with
        | none =>
          rw [show ((gcas ws).map fun p => (encIns p.1, p.2)) = none from by simp [gcas, E1.out, E2.out, E3.out, hv]]
          go_enter Tryz.func140, Tryz.ntmps140
          go_wp2_with fail
          refine (named_none w wCas opWords hE.out.words (by decide : ∀ j, j < 12 → opWords j ≠ wCas)).mono ?_
          rintro e W0 ⟨rfl, hW0⟩
          subst W0
          rw [hq]
          clear hq
          have C0 := hid (Chg.refl (lineM bl) w)
          go_wp2_with fail
          refine (rr_ok H0.out Z0.out E1.out).mono ?_
          rintro e W1 ⟨rfl, h', c'⟩
          have H1 := hid h'
          have C1 := hid (C0.out.trans c')
          clear h' c' H0
          go_wp2_with fail
          refine (rc_ok H1.out (hE.out.line C1.out hbl) hbl Z1.out E2.out T2).mono ?_
          rintro e W2 ⟨rfl, h', c'⟩
          have H2 := hid h'
          have C2 := hid (C1.out.trans c')
          clear h' c' H1
          go_wp2_with fail
          refine (rv_ok H2.out (hE.out.line C2.out hbl) hbl Z2.out E3.out T3).mono ?_
          rintro e W3 ⟨rfl, h', c'⟩
          have H3 := hid h'
          have C3 := hid (C2.out.trans c')
          clear h' c' H2
          go_wp2_with fail
          refine (rv_no H3.out (hE.out.line C3.out hbl) hbl Z3.out hv).mono ?_
          intro e Wf hf
          obtain ⟨bf, rfl, hf'⟩ := hf.thru C3.out
          exact ⟨rfl, hf'⟩
        | some q =>
          obtain ⟨x4, ws4⟩ := q
          have E4 := hid hv
          have Z4 := hid (gVal_sz hv Z3.out)
          clear hv
          obtain ⟨t4, v4, T4⟩ := encVl_form x4
          rw [show ((gcas ws).map fun p => (encIns p.1, p.2)) = some (.iface 317 (.agg #[.int .i64 x1, .iface t2 v2, .int .i64 y2, .iface t3 v3, .iface t4 v4]), ws4) from by simp [gcas, E1.out, E2.out, E3.out, E4.out, encIns, insT, insV, T2, T3, T4]]
          go_enter Tryz.func140, Tryz.ntmps140
          go_wp2_with fail
          refine (named_none w wCas opWords hE.out.words (by decide : ∀ j, j < 12 → opWords j ≠ wCas)).mono ?_
          rintro e W0 ⟨rfl, hW0⟩
          subst W0
          rw [hq]
          clear hq
          have C0 := hid (Chg.refl (lineM bl) w)
          go_wp2_with fail
          refine (rr_ok H0.out Z0.out E1.out).mono ?_
          rintro e W1 ⟨rfl, h', c'⟩
          have H1 := hid h'
          have C1 := hid (C0.out.trans c')
          clear h' c' H0
          go_wp2_with fail
          refine (rc_ok H1.out (hE.out.line C1.out hbl) hbl Z1.out E2.out T2).mono ?_
          rintro e W2 ⟨rfl, h', c'⟩
          have H2 := hid h'
          have C2 := hid (C1.out.trans c')
          clear h' c' H1
          go_wp2_with fail
          refine (rv_ok H2.out (hE.out.line C2.out hbl) hbl Z2.out E3.out T3).mono ?_
          rintro e W3 ⟨rfl, h', c'⟩
          have H3 := hid h'
          have C3 := hid (C2.out.trans c')
          clear h' c' H2
          go_wp2_with fail
          refine (rv_ok H3.out (hE.out.line C3.out hbl) hbl Z3.out E4.out T4).mono ?_
          rintro e W4 ⟨rfl, h', c'⟩
          have H4 := hid h'
          have C4 := hid (C3.out.trans c')
          clear h' c' H3
          go_wp2
          go_ret
          exact ⟨rfl, H4.out, C4.out⟩

def gmov (ws : List ByteArray) : Option (Ic × List ByteArray) := (gReg ws).bind fun p1 => (gVal p1.2).map fun p2 => ({ k := 0, op := 0, d := p1.1, a := p2.1, b := ⟨false, 0⟩, c := ⟨false, 0⟩, n := 0 }, p2.2)

set_option maxRecDepth 100000 in
set_option maxHeartbeats 1000000 in
theorem rins_mov (h : LineAt w bl n bw ws) (hE : Hid (Env w)) (hbl : 10 ≤ bl) (hz : SzOk ws) :
    Calls Tryz.prog 140 #[.string wMov, ptr bl] w fun e w' => Rds bl n bw w ((gmov ws).map fun p => (encIns p.1, p.2)) e w' := by
  have H0 := hid h
  clear h
  have hq : wMov = ⟨#[109, 111, 118]⟩ := rfl
  have Z0 := hid hz
  clear hz
  cases hv : gReg ws with
  | none =>
    rw [show ((gmov ws).map fun p => (encIns p.1, p.2)) = none from by simp [gmov, hv]]
    go_enter Tryz.func140, Tryz.ntmps140
    go_wp2_with fail
    refine (named_none w wMov opWords hE.out.words (by decide : ∀ j, j < 12 → opWords j ≠ wMov)).mono ?_
    rintro e W0 ⟨rfl, hW0⟩
    subst W0
    rw [hq]
    clear hq
    have C0 := hid (Chg.refl (lineM bl) w)
    go_wp2_with fail
    refine (rr_no H0.out Z0.out hv).mono ?_
    intro e Wf hf
    obtain ⟨bf, rfl, hf'⟩ := hf.thru C0.out
    exact ⟨rfl, hf'⟩
  | some q =>
    obtain ⟨x1, ws1⟩ := q
    have E1 := hid hv
    have Z1 := hid (gReg_sz hv Z0.out)
    clear hv
    cases hv : gVal ws1 with
    | none =>
      rw [show ((gmov ws).map fun p => (encIns p.1, p.2)) = none from by simp [gmov, E1.out, hv]]
      go_enter Tryz.func140, Tryz.ntmps140
      go_wp2_with fail
      refine (named_none w wMov opWords hE.out.words (by decide : ∀ j, j < 12 → opWords j ≠ wMov)).mono ?_
      rintro e W0 ⟨rfl, hW0⟩
      subst W0
      rw [hq]
      clear hq
      have C0 := hid (Chg.refl (lineM bl) w)
      go_wp2_with fail
      refine (rr_ok H0.out Z0.out E1.out).mono ?_
      rintro e W1 ⟨rfl, h', c'⟩
      have H1 := hid h'
      have C1 := hid (C0.out.trans c')
      clear h' c' H0
      go_wp2_with fail
      refine (rv_no H1.out (hE.out.line C1.out hbl) hbl Z1.out hv).mono ?_
      intro e Wf hf
      obtain ⟨bf, rfl, hf'⟩ := hf.thru C1.out
      exact ⟨rfl, hf'⟩
    | some q =>
      obtain ⟨x2, ws2⟩ := q
      have E2 := hid hv
      have Z2 := hid (gVal_sz hv Z1.out)
      clear hv
      obtain ⟨t2, v2, T2⟩ := encVl_form x2
      rw [show ((gmov ws).map fun p => (encIns p.1, p.2)) = some (.iface 308 (.agg #[.int .i64 x1, .iface t2 v2]), ws2) from by simp [gmov, E1.out, E2.out, encIns, insT, insV, T2]]
      go_enter Tryz.func140, Tryz.ntmps140
      go_wp2_with fail
      refine (named_none w wMov opWords hE.out.words (by decide : ∀ j, j < 12 → opWords j ≠ wMov)).mono ?_
      rintro e W0 ⟨rfl, hW0⟩
      subst W0
      rw [hq]
      clear hq
      have C0 := hid (Chg.refl (lineM bl) w)
      go_wp2_with fail
      refine (rr_ok H0.out Z0.out E1.out).mono ?_
      rintro e W1 ⟨rfl, h', c'⟩
      have H1 := hid h'
      have C1 := hid (C0.out.trans c')
      clear h' c' H0
      go_wp2_with fail
      refine (rv_ok H1.out (hE.out.line C1.out hbl) hbl Z1.out E2.out T2).mono ?_
      rintro e W2 ⟨rfl, h', c'⟩
      have H2 := hid h'
      have C2 := hid (C1.out.trans c')
      clear h' c' H1
      go_wp2
      go_ret
      exact ⟨rfl, H2.out, C2.out⟩

def gjmp (ws : List ByteArray) : Option (Ic × List ByteArray) := (gIn 0 4000 ws).map fun p1 => ({ k := 8, op := 0, d := 0, a := ⟨false, 0⟩, b := ⟨false, 0⟩, c := ⟨false, 0⟩, n := p1.1 }, p1.2)

set_option maxRecDepth 100000 in
set_option maxHeartbeats 1000000 in
theorem rins_jmp (h : LineAt w bl n bw ws) (hE : Hid (Env w)) (hbl : 10 ≤ bl) (hz : SzOk ws) :
    Calls Tryz.prog 140 #[.string wJmp, ptr bl] w fun e w' => Rds bl n bw w ((gjmp ws).map fun p => (encIns p.1, p.2)) e w' := by
  have H0 := hid h
  clear h
  have hq : wJmp = ⟨#[106, 109, 112]⟩ := rfl
  have Z0 := hid hz
  clear hz
  cases hv : gIn 0 4000 ws with
  | none =>
    rw [show ((gjmp ws).map fun p => (encIns p.1, p.2)) = none from by simp [gjmp, hv]]
    go_enter Tryz.func140, Tryz.ntmps140
    go_wp2_with fail
    refine (named_none w wJmp opWords hE.out.words (by decide : ∀ j, j < 12 → opWords j ≠ wJmp)).mono ?_
    rintro e W0 ⟨rfl, hW0⟩
    subst W0
    rw [hq]
    clear hq
    have C0 := hid (Chg.refl (lineM bl) w)
    go_wp2_with fail
    refine (rp_no H0.out (hE.out.line C0.out hbl) hbl Z0.out hv).mono ?_
    intro e Wf hf
    obtain ⟨bf, rfl, hf'⟩ := hf.thru C0.out
    exact ⟨rfl, hf'⟩
  | some q =>
    obtain ⟨x1, ws1⟩ := q
    have E1 := hid hv
    have Z1 := hid (gIn_sz hv Z0.out)
    clear hv
    rw [show ((gjmp ws).map fun p => (encIns p.1, p.2)) = some (.iface 326 (.agg #[.int .i64 x1]), ws1) from by simp [gjmp, E1.out, encIns, insT, insV]]
    go_enter Tryz.func140, Tryz.ntmps140
    go_wp2_with fail
    refine (named_none w wJmp opWords hE.out.words (by decide : ∀ j, j < 12 → opWords j ≠ wJmp)).mono ?_
    rintro e W0 ⟨rfl, hW0⟩
    subst W0
    rw [hq]
    clear hq
    have C0 := hid (Chg.refl (lineM bl) w)
    go_wp2_with fail
    refine (rp_ok H0.out (hE.out.line C0.out hbl) hbl Z0.out E1.out).mono ?_
    rintro e W1 ⟨rfl, h', c'⟩
    have H1 := hid h'
    have C1 := hid (C0.out.trans c')
    clear h' c' H0
    go_wp2
    go_ret
    exact ⟨rfl, H1.out, C1.out⟩

def gjz (ws : List ByteArray) : Option (Ic × List ByteArray) := (gVal ws).bind fun p1 => (gIn 0 4000 p1.2).map fun p2 => ({ k := 9, op := 0, d := 0, a := p1.1, b := ⟨false, 0⟩, c := ⟨false, 0⟩, n := p2.1 }, p2.2)

set_option maxRecDepth 100000 in
set_option maxHeartbeats 1000000 in
theorem rins_jz (h : LineAt w bl n bw ws) (hE : Hid (Env w)) (hbl : 10 ≤ bl) (hz : SzOk ws) :
    Calls Tryz.prog 140 #[.string wJz, ptr bl] w fun e w' => Rds bl n bw w ((gjz ws).map fun p => (encIns p.1, p.2)) e w' := by
  have H0 := hid h
  clear h
  have hq : wJz = ⟨#[106, 122]⟩ := rfl
  have Z0 := hid hz
  clear hz
  cases hv : gVal ws with
  | none =>
    rw [show ((gjz ws).map fun p => (encIns p.1, p.2)) = none from by simp [gjz, hv]]
    go_enter Tryz.func140, Tryz.ntmps140
    go_wp2_with fail
    refine (named_none w wJz opWords hE.out.words (by decide : ∀ j, j < 12 → opWords j ≠ wJz)).mono ?_
    rintro e W0 ⟨rfl, hW0⟩
    subst W0
    rw [hq]
    clear hq
    have C0 := hid (Chg.refl (lineM bl) w)
    go_wp2_with fail
    refine (rv_no H0.out (hE.out.line C0.out hbl) hbl Z0.out hv).mono ?_
    intro e Wf hf
    obtain ⟨bf, rfl, hf'⟩ := hf.thru C0.out
    exact ⟨rfl, hf'⟩
  | some q =>
    obtain ⟨x1, ws1⟩ := q
    have E1 := hid hv
    have Z1 := hid (gVal_sz hv Z0.out)
    clear hv
    obtain ⟨t1, v1, T1⟩ := encVl_form x1
    cases hv : gIn 0 4000 ws1 with
    | none =>
      rw [show ((gjz ws).map fun p => (encIns p.1, p.2)) = none from by simp [gjz, E1.out, hv]]
      go_enter Tryz.func140, Tryz.ntmps140
      go_wp2_with fail
      refine (named_none w wJz opWords hE.out.words (by decide : ∀ j, j < 12 → opWords j ≠ wJz)).mono ?_
      rintro e W0 ⟨rfl, hW0⟩
      subst W0
      rw [hq]
      clear hq
      have C0 := hid (Chg.refl (lineM bl) w)
      go_wp2_with fail
      refine (rv_ok H0.out (hE.out.line C0.out hbl) hbl Z0.out E1.out T1).mono ?_
      rintro e W1 ⟨rfl, h', c'⟩
      have H1 := hid h'
      have C1 := hid (C0.out.trans c')
      clear h' c' H0
      go_wp2_with fail
      refine (rp_no H1.out (hE.out.line C1.out hbl) hbl Z1.out hv).mono ?_
      intro e Wf hf
      obtain ⟨bf, rfl, hf'⟩ := hf.thru C1.out
      exact ⟨rfl, hf'⟩
    | some q =>
      obtain ⟨x2, ws2⟩ := q
      have E2 := hid hv
      have Z2 := hid (gIn_sz hv Z1.out)
      clear hv
      rw [show ((gjz ws).map fun p => (encIns p.1, p.2)) = some (.iface 328 (.agg #[.iface t1 v1, .int .i64 x2]), ws2) from by simp [gjz, E1.out, E2.out, encIns, insT, insV, T1]]
      go_enter Tryz.func140, Tryz.ntmps140
      go_wp2_with fail
      refine (named_none w wJz opWords hE.out.words (by decide : ∀ j, j < 12 → opWords j ≠ wJz)).mono ?_
      rintro e W0 ⟨rfl, hW0⟩
      subst W0
      rw [hq]
      clear hq
      have C0 := hid (Chg.refl (lineM bl) w)
      go_wp2_with fail
      refine (rv_ok H0.out (hE.out.line C0.out hbl) hbl Z0.out E1.out T1).mono ?_
      rintro e W1 ⟨rfl, h', c'⟩
      have H1 := hid h'
      have C1 := hid (C0.out.trans c')
      clear h' c' H0
      go_wp2_with fail
      refine (rp_ok H1.out (hE.out.line C1.out hbl) hbl Z1.out E2.out).mono ?_
      rintro e W2 ⟨rfl, h', c'⟩
      have H2 := hid h'
      have C2 := hid (C1.out.trans c')
      clear h' c' H1
      go_wp2
      go_ret
      exact ⟨rfl, H2.out, C2.out⟩

def gtrap (ws : List ByteArray) : Option (Ic × List ByteArray) := (gIn 1 9 ws).map fun p1 => ({ k := 10, op := 0, d := 0, a := ⟨false, 0⟩, b := ⟨false, 0⟩, c := ⟨false, 0⟩, n := p1.1 }, p1.2)

set_option maxRecDepth 100000 in
set_option maxHeartbeats 1000000 in
theorem rins_trap (h : LineAt w bl n bw ws) (hE : Hid (Env w)) (hbl : 10 ≤ bl) (hz : SzOk ws) :
    Calls Tryz.prog 140 #[.string wTrap, ptr bl] w fun e w' => Rds bl n bw w ((gtrap ws).map fun p => (encIns p.1, p.2)) e w' := by
  have H0 := hid h
  clear h
  have hq : wTrap = ⟨#[116, 114, 97, 112]⟩ := rfl
  have Z0 := hid hz
  clear hz
  cases hv : gIn 1 9 ws with
  | none =>
    rw [show ((gtrap ws).map fun p => (encIns p.1, p.2)) = none from by simp [gtrap, hv]]
    go_enter Tryz.func140, Tryz.ntmps140
    go_wp2_with fail
    refine (named_none w wTrap opWords hE.out.words (by decide : ∀ j, j < 12 → opWords j ≠ wTrap)).mono ?_
    rintro e W0 ⟨rfl, hW0⟩
    subst W0
    rw [hq]
    clear hq
    have C0 := hid (Chg.refl (lineM bl) w)
    go_wp2_with fail
    refine (rw_no H0.out (hE.out.line C0.out hbl) hbl Z0.out hv).mono ?_
    intro e Wf hf
    obtain ⟨bf, rfl, hf'⟩ := hf.thru C0.out
    exact ⟨rfl, hf'⟩
  | some q =>
    obtain ⟨x1, ws1⟩ := q
    have E1 := hid hv
    have Z1 := hid (gIn_sz hv Z0.out)
    clear hv
    rw [show ((gtrap ws).map fun p => (encIns p.1, p.2)) = some (.iface 331 (.agg #[.int .i64 x1]), ws1) from by simp [gtrap, E1.out, encIns, insT, insV]]
    go_enter Tryz.func140, Tryz.ntmps140
    go_wp2_with fail
    refine (named_none w wTrap opWords hE.out.words (by decide : ∀ j, j < 12 → opWords j ≠ wTrap)).mono ?_
    rintro e W0 ⟨rfl, hW0⟩
    subst W0
    rw [hq]
    clear hq
    have C0 := hid (Chg.refl (lineM bl) w)
    go_wp2_with fail
    refine (rw_ok H0.out (hE.out.line C0.out hbl) hbl Z0.out E1.out).mono ?_
    rintro e W1 ⟨rfl, h', c'⟩
    have H1 := hid h'
    have C1 := hid (C0.out.trans c')
    clear h' c' H0
    go_wp2
    go_ret
    exact ⟨rfl, H1.out, C1.out⟩

def gop (op : Nat) (ws : List ByteArray) : Option (Ic × List ByteArray) := (gReg ws).bind fun p1 => (gVal p1.2).bind fun p2 => (gVal p2.2).map fun p3 => ({ k := 1, op := op, d := p1.1, a := p2.1, b := p3.1, c := ⟨false, 0⟩, n := 0 }, p3.2)

set_option maxRecDepth 100000 in
set_option maxHeartbeats 1000000 in
theorem rins_op {u : ByteArray} {op : Nat} (hop : op < 12) (hu : opWords op = u) (h : LineAt w bl n bw ws) (hE : Hid (Env w)) (hbl : 10 ≤ bl) (hz : SzOk ws) :
    Calls Tryz.prog 140 #[.string u, ptr bl] w fun e w' => Rds bl n bw w ((gop op ws).map fun p => (encIns p.1, p.2)) e w' := by
  have H0 := hid h
  clear h
  have Z0 := hid hz
  clear hz
  cases hv : gReg ws with
  | none =>
    rw [show ((gop op ws).map fun p => (encIns p.1, p.2)) = none from by simp [gop, hv]]
    go_enter Tryz.func140, Tryz.ntmps140
    go_wp2_with fail
    refine (named_at w u opWords hE.out.words op hop (hu ▸ ops_first op hop) hu).mono ?_
    rintro e W0 ⟨rfl, hW0⟩
    subst W0
    have C0 := hid (Chg.refl (lineM bl) w)
    go_wp2_with fail
    refine (rr_no H0.out Z0.out hv).mono ?_
    intro e Wf hf
    obtain ⟨bf, rfl, hf'⟩ := hf.thru C0.out
    exact ⟨rfl, hf'⟩
  | some q =>
    obtain ⟨x1, ws1⟩ := q
    have E1 := hid hv
    have Z1 := hid (gReg_sz hv Z0.out)
    clear hv
    cases hv : gVal ws1 with
    | none =>
      rw [show ((gop op ws).map fun p => (encIns p.1, p.2)) = none from by simp [gop, E1.out, hv]]
      go_enter Tryz.func140, Tryz.ntmps140
      go_wp2_with fail
      refine (named_at w u opWords hE.out.words op hop (hu ▸ ops_first op hop) hu).mono ?_
      rintro e W0 ⟨rfl, hW0⟩
      subst W0
      have C0 := hid (Chg.refl (lineM bl) w)
      go_wp2_with fail
      refine (rr_ok H0.out Z0.out E1.out).mono ?_
      rintro e W1 ⟨rfl, h', c'⟩
      have H1 := hid h'
      have C1 := hid (C0.out.trans c')
      clear h' c' H0
      go_wp2_with fail
      refine (rv_no H1.out (hE.out.line C1.out hbl) hbl Z1.out hv).mono ?_
      intro e Wf hf
      obtain ⟨bf, rfl, hf'⟩ := hf.thru C1.out
      exact ⟨rfl, hf'⟩
    | some q =>
      obtain ⟨x2, ws2⟩ := q
      have E2 := hid hv
      have Z2 := hid (gVal_sz hv Z1.out)
      clear hv
      obtain ⟨t2, v2, T2⟩ := encVl_form x2
      cases hv : gVal ws2 with
      | none =>
        rw [show ((gop op ws).map fun p => (encIns p.1, p.2)) = none from by simp [gop, E1.out, E2.out, hv]]
        go_enter Tryz.func140, Tryz.ntmps140
        go_wp2_with fail
        refine (named_at w u opWords hE.out.words op hop (hu ▸ ops_first op hop) hu).mono ?_
        rintro e W0 ⟨rfl, hW0⟩
        subst W0
        have C0 := hid (Chg.refl (lineM bl) w)
        go_wp2_with fail
        refine (rr_ok H0.out Z0.out E1.out).mono ?_
        rintro e W1 ⟨rfl, h', c'⟩
        have H1 := hid h'
        have C1 := hid (C0.out.trans c')
        clear h' c' H0
        go_wp2_with fail
        refine (rv_ok H1.out (hE.out.line C1.out hbl) hbl Z1.out E2.out T2).mono ?_
        rintro e W2 ⟨rfl, h', c'⟩
        have H2 := hid h'
        have C2 := hid (C1.out.trans c')
        clear h' c' H1
        go_wp2_with fail
        refine (rv_no H2.out (hE.out.line C2.out hbl) hbl Z2.out hv).mono ?_
        intro e Wf hf
        obtain ⟨bf, rfl, hf'⟩ := hf.thru C2.out
        exact ⟨rfl, hf'⟩
      | some q =>
        obtain ⟨x3, ws3⟩ := q
        have E3 := hid hv
        have Z3 := hid (gVal_sz hv Z2.out)
        clear hv
        obtain ⟨t3, v3, T3⟩ := encVl_form x3
        rw [show ((gop op ws).map fun p => (encIns p.1, p.2)) = some (.iface 306 (.agg #[.int .i64 op, .int .i64 x1, .iface t2 v2, .iface t3 v3]), ws3) from by simp [gop, E1.out, E2.out, E3.out, encIns, insT, insV, T2, T3]]
        go_enter Tryz.func140, Tryz.ntmps140
        go_wp2_with fail
        refine (named_at w u opWords hE.out.words op hop (hu ▸ ops_first op hop) hu).mono ?_
        rintro e W0 ⟨rfl, hW0⟩
        subst W0
        have C0 := hid (Chg.refl (lineM bl) w)
        go_wp2_with fail
        refine (rr_ok H0.out Z0.out E1.out).mono ?_
        rintro e W1 ⟨rfl, h', c'⟩
        have H1 := hid h'
        have C1 := hid (C0.out.trans c')
        clear h' c' H0
        go_wp2_with fail
        refine (rv_ok H1.out (hE.out.line C1.out hbl) hbl Z1.out E2.out T2).mono ?_
        rintro e W2 ⟨rfl, h', c'⟩
        have H2 := hid h'
        have C2 := hid (C1.out.trans c')
        clear h' c' H1
        go_wp2_with fail
        refine (rv_ok H2.out (hE.out.line C2.out hbl) hbl Z2.out E3.out T3).mono ?_
        rintro e W3 ⟨rfl, h', c'⟩
        have H3 := hid h'
        have C3 := hid (C2.out.trans c')
        clear h' c' H2
        go_wp2
        go_ret
        exact ⟨rfl, H3.out, C3.out⟩

end
end Go.Proofs.YtfhkfnoajbbfdaaGreatDoor
