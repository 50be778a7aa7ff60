import Derived.Test.YtfhkfnoajbbfdaaGreatDoorPart07
/- readIns: each instruction's words. -/
namespace Go.Proofs.YtfhkfnoajbbfdaaGreatDoor
open Go.RowKit

section
variable {w : World} {bl bw : Nat} {n : Int} {ws : List ByteArray} {wd : Nat → ByteArray}

/-- A word that is a value, by what Go text makes of it. -/
def IsV (u : ByteArray) (T : TypeId) (p : Value) : Prop := ∃ x, encVl x = .iface T p ∧ IsVal u x

theorem readValue_v {u : ByteArray} {T : TypeId} {p : Value} (h : LineAt w bl n bw (u :: ws)) (hlen : ws.length < 1000000) (hu : IsV u T p) :
    Calls Tryz.prog 166 #[ptr bl] w fun e w' => e = .returned (.iface T p) ∧ LineAt w' bl n bw ws ∧ Chg (lineM bl) w w' := by
  obtain ⟨x, hx, hv⟩ := hu
  rw [← hx]
  exact readValue_ok h hlen hv

theorem readCell_v {u u2 : ByteArray} {T : TypeId} {p : Value} {v : Int} (h : LineAt w bl n bw (u :: u2 :: ws)) (hlen : ws.length < 900000) (hu : IsV u T p) (h2 : IsNum u2 v) :
    Calls Tryz.prog 167 #[ptr bl] w fun e w' => e = .returned (.agg #[.iface T p, .int .i64 v]) ∧ LineAt w' bl n bw ws ∧ Chg (lineM bl) w w' := by
  obtain ⟨x, hx, hv⟩ := hu
  rw [← hx]
  exact readCell_ok h hlen hv h2

def wFence : ByteArray := ⟨#[102, 101, 110, 99, 101]⟩
def wHalt : ByteArray := ⟨#[104, 97, 108, 116]⟩
def wStore : ByteArray := ⟨#[115, 116, 111, 114, 101]⟩
def wLoad : ByteArray := ⟨#[108, 111, 97, 100]⟩
def wXadd : ByteArray := ⟨#[120, 97, 100, 100]⟩
def wCas : ByteArray := ⟨#[99, 97, 115]⟩
def wOut : ByteArray := ⟨#[111, 117, 116]⟩
def wMov : ByteArray := ⟨#[109, 111, 118]⟩
def wJmp : ByteArray := ⟨#[106, 109, 112]⟩
def wJz : ByteArray := ⟨#[106, 122]⟩

set_option maxRecDepth 100000 in
set_option maxHeartbeats 1000000 in
theorem readIns_fence (h : LineAt w bl n bw (ws)) (hw : Hid (WordsAt w wd)) (hn : Hid (∀ j, j < 12 → wd j ≠ wFence))  :
    Calls Tryz.prog 140 #[.string wFence, ptr bl] w fun e w' => e = .returned (.iface 321 (.agg #[])) ∧ LineAt w' bl n bw ws ∧ Chg (lineM bl) w w' := by
  have H0 := hid h
  clear h
  have hq : wFence = ⟨#[102, 101, 110, 99, 101]⟩ := rfl
  go_enter Tryz.func140, Tryz.ntmps140
  go_wp2_with fail
  refine (named_none w wFence wd hw hn).mono ?_
  rintro e W0 ⟨rfl, rfl⟩
  rw [hq]
  clear hn hq hw
  have C0 := hid (Chg.refl (lineM bl) W0)
  go_wp2
  go_ret
  exact ⟨rfl, H0.out, C0.out⟩

set_option maxRecDepth 100000 in
set_option maxHeartbeats 1000000 in
theorem readIns_halt (h : LineAt w bl n bw (ws)) (hw : Hid (WordsAt w wd)) (hn : Hid (∀ j, j < 12 → wd j ≠ wHalt))  :
    Calls Tryz.prog 140 #[.string wHalt, ptr bl] w fun e w' => e = .returned (.iface 331 (.agg #[.int .i64 10])) ∧ LineAt w' bl n bw ws ∧ Chg (lineM bl) w w' := by
  have H0 := hid h
  clear h
  have hq : wHalt = ⟨#[104, 97, 108, 116]⟩ := rfl
  go_enter Tryz.func140, Tryz.ntmps140
  go_wp2_with fail
  refine (named_none w wHalt wd hw hn).mono ?_
  rintro e W0 ⟨rfl, rfl⟩
  rw [hq]
  clear hn hq hw
  have C0 := hid (Chg.refl (lineM bl) W0)
  go_wp2
  go_ret
  exact ⟨rfl, H0.out, C0.out⟩

set_option maxRecDepth 100000 in
set_option maxHeartbeats 1000000 in
theorem readIns_out {u1 : ByteArray} {T1 : TypeId} {p1 : Value} (h : LineAt w bl n bw (u1 :: ws)) (hlen : ws.length < 800000) (hw : Hid (WordsAt w wd)) (hn : Hid (∀ j, j < 12 → wd j ≠ wOut)) (h1 : Hid (IsV u1 T1 p1)) :
    Calls Tryz.prog 140 #[.string wOut, ptr bl] w fun e w' => e = .returned (.iface 323 (.agg #[.iface T1 p1])) ∧ LineAt w' bl n bw ws ∧ Chg (lineM bl) w w' := by
  have H0 := hid h
  clear h
  have hq : wOut = ⟨#[111, 117, 116]⟩ := rfl
  go_enter Tryz.func140, Tryz.ntmps140
  go_wp2_with fail
  refine (named_none w wOut wd hw hn).mono ?_
  rintro e W0 ⟨rfl, rfl⟩
  rw [hq]
  clear hn hq hw
  have C0 := hid (Chg.refl (lineM bl) W0)
  go_wp2_with fail
  refine (readValue_v H0.out (by first | omega | (simp only [List.length_cons]; omega)) h1.out).mono ?_
  rintro e W1 ⟨rfl, h', c'⟩
  have H1 := hid h'
  have C1 := hid (C0.out.trans c')
  clear h' c' H0 C0
  go_wp2
  go_ret
  exact ⟨rfl, H1.out, C1.out⟩

set_option maxRecDepth 100000 in
set_option maxHeartbeats 1000000 in
theorem readIns_store {u1 a1 : ByteArray} {T1 : TypeId} {p1 : Value} {v1 : Int} {u2 : ByteArray} {T2 : TypeId} {p2 : Value} (h : LineAt w bl n bw (u1 :: a1 :: u2 :: ws)) (hlen : ws.length < 800000) (hw : Hid (WordsAt w wd)) (hn : Hid (∀ j, j < 12 → wd j ≠ wStore)) (h1 : Hid (IsV u1 T1 p1)) (g1 : Hid (IsNum a1 v1)) (h2 : Hid (IsV u2 T2 p2)) :
    Calls Tryz.prog 140 #[.string wStore, ptr bl] w fun e w' => e = .returned (.iface 315 (.agg #[.iface T1 p1, .int .i64 v1, .iface T2 p2])) ∧ LineAt w' bl n bw ws ∧ Chg (lineM bl) w w' := by
  have H0 := hid h
  clear h
  have hq : wStore = ⟨#[115, 116, 111, 114, 101]⟩ := rfl
  go_enter Tryz.func140, Tryz.ntmps140
  go_wp2_with fail
  refine (named_none w wStore wd hw hn).mono ?_
  rintro e W0 ⟨rfl, rfl⟩
  rw [hq]
  clear hn hq hw
  have C0 := hid (Chg.refl (lineM bl) W0)
  go_wp2_with fail
  refine (readCell_v H0.out (by first | omega | (simp only [List.length_cons]; omega)) h1.out g1.out).mono ?_
  rintro e W1 ⟨rfl, h', c'⟩
  have H1 := hid h'
  have C1 := hid (C0.out.trans c')
  clear h' c' H0 C0
  go_wp2_with fail
  refine (readValue_v H1.out (by first | omega | (simp only [List.length_cons]; omega)) h2.out).mono ?_
  rintro e W2 ⟨rfl, h', c'⟩
  have H2 := hid h'
  have C2 := hid (C1.out.trans c')
  clear h' c' H1 C1
  go_wp2
  go_ret
  exact ⟨rfl, H2.out, C2.out⟩

set_option maxRecDepth 100000 in
set_option maxHeartbeats 1000000 in
theorem readIns_load {u1 : ByteArray} {r1 : Nat} {u2 a2 : ByteArray} {T2 : TypeId} {p2 : Value} {v2 : Int} (h : LineAt w bl n bw (u1 :: u2 :: a2 :: ws)) (hlen : ws.length < 800000) (hw : Hid (WordsAt w wd)) (hn : Hid (∀ j, j < 12 → wd j ≠ wLoad)) (h1 : Hid (IsReg u1 r1)) (h2 : Hid (IsV u2 T2 p2)) (g2 : Hid (IsNum a2 v2)) :
    Calls Tryz.prog 140 #[.string wLoad, ptr bl] w fun e w' => e = .returned (.iface 313 (.agg #[.int .i64 r1, .iface T2 p2, .int .i64 v2])) ∧ LineAt w' bl n bw ws ∧ Chg (lineM bl) w w' := by
  have H0 := hid h
  clear h
  have hq : wLoad = ⟨#[108, 111, 97, 100]⟩ := rfl
  go_enter Tryz.func140, Tryz.ntmps140
  go_wp2_with fail
  refine (named_none w wLoad wd hw hn).mono ?_
  rintro e W0 ⟨rfl, rfl⟩
  rw [hq]
  clear hn hq hw
  have C0 := hid (Chg.refl (lineM bl) W0)
  go_wp2_with fail
  refine (readRegister_ok H0.out (by first | omega | (simp only [List.length_cons]; omega)) h1.out).mono ?_
  rintro e W1 ⟨rfl, h', c'⟩
  have H1 := hid h'
  have C1 := hid (C0.out.trans c')
  clear h' c' H0 C0
  go_wp2_with fail
  refine (readCell_v H1.out (by first | omega | (simp only [List.length_cons]; omega)) h2.out g2.out).mono ?_
  rintro e W2 ⟨rfl, h', c'⟩
  have H2 := hid h'
  have C2 := hid (C1.out.trans c')
  clear h' c' H1 C1
  go_wp2
  go_ret
  exact ⟨rfl, H2.out, C2.out⟩

set_option maxRecDepth 100000 in
set_option maxHeartbeats 1000000 in
theorem readIns_xadd {u1 : ByteArray} {r1 : Nat} {u2 a2 : ByteArray} {T2 : TypeId} {p2 : Value} {v2 : Int} {u3 : ByteArray} {T3 : TypeId} {p3 : Value} (h : LineAt w bl n bw (u1 :: u2 :: a2 :: u3 :: ws)) (hlen : ws.length < 800000) (hw : Hid (WordsAt w wd)) (hn : Hid (∀ j, j < 12 → wd j ≠ wXadd)) (h1 : Hid (IsReg u1 r1)) (h2 : Hid (IsV u2 T2 p2)) (g2 : Hid (IsNum a2 v2)) (h3 : Hid (IsV u3 T3 p3)) :
    Calls Tryz.prog 140 #[.string wXadd, ptr bl] w fun e w' => e = .returned (.iface 319 (.agg #[.int .i64 r1, .iface T2 p2, .int .i64 v2, .iface T3 p3])) ∧ LineAt w' bl n bw ws ∧ Chg (lineM bl) w w' := by
  have H0 := hid h
  clear h
  have hq : wXadd = ⟨#[120, 97, 100, 100]⟩ := rfl
  go_enter Tryz.func140, Tryz.ntmps140
  go_wp2_with fail
  refine (named_none w wXadd wd hw hn).mono ?_
  rintro e W0 ⟨rfl, rfl⟩
  rw [hq]
  clear hn hq hw
  have C0 := hid (Chg.refl (lineM bl) W0)
  go_wp2_with fail
  refine (readRegister_ok H0.out (by first | omega | (simp only [List.length_cons]; omega)) h1.out).mono ?_
  rintro e W1 ⟨rfl, h', c'⟩
  have H1 := hid h'
  have C1 := hid (C0.out.trans c')
  clear h' c' H0 C0
  go_wp2_with fail
  refine (readCell_v H1.out (by first | omega | (simp only [List.length_cons]; omega)) h2.out g2.out).mono ?_
  rintro e W2 ⟨rfl, h', c'⟩
  have H2 := hid h'
  have C2 := hid (C1.out.trans c')
  clear h' c' H1 C1
  go_wp2_with fail
  refine (readValue_v H2.out (by first | omega | (simp only [List.length_cons]; omega)) h3.out).mono ?_
  rintro e W3 ⟨rfl, h', c'⟩
  have H3 := hid h'
  have C3 := hid (C2.out.trans c')
  clear h' c' H2 C2
  go_wp2
  go_ret
  exact ⟨rfl, H3.out, C3.out⟩

set_option maxRecDepth 100000 in
set_option maxHeartbeats 1000000 in
theorem readIns_cas {u1 : ByteArray} {r1 : Nat} {u2 a2 : ByteArray} {T2 : TypeId} {p2 : Value} {v2 : Int} {u3 : ByteArray} {T3 : TypeId} {p3 : Value} {u4 : ByteArray} {T4 : TypeId} {p4 : Value} (h : LineAt w bl n bw (u1 :: u2 :: a2 :: u3 :: u4 :: ws)) (hlen : ws.length < 800000) (hw : Hid (WordsAt w wd)) (hn : Hid (∀ j, j < 12 → wd j ≠ wCas)) (h1 : Hid (IsReg u1 r1)) (h2 : Hid (IsV u2 T2 p2)) (g2 : Hid (IsNum a2 v2)) (h3 : Hid (IsV u3 T3 p3)) (h4 : Hid (IsV u4 T4 p4)) :
    Calls Tryz.prog 140 #[.string wCas, ptr bl] w fun e w' => e = .returned (.iface 317 (.agg #[.int .i64 r1, .iface T2 p2, .int .i64 v2, .iface T3 p3, .iface T4 p4])) ∧ LineAt w' bl n bw ws ∧ Chg (lineM bl) w w' := by
  have H0 := hid h
  clear h
  have hq : wCas = ⟨#[99, 97, 115]⟩ := rfl
  go_enter Tryz.func140, Tryz.ntmps140
  go_wp2_with fail
  refine (named_none w wCas wd hw hn).mono ?_
  rintro e W0 ⟨rfl, rfl⟩
  rw [hq]
  clear hn hq hw
  have C0 := hid (Chg.refl (lineM bl) W0)
  go_wp2_with fail
  refine (readRegister_ok H0.out (by first | omega | (simp only [List.length_cons]; omega)) h1.out).mono ?_
  rintro e W1 ⟨rfl, h', c'⟩
  have H1 := hid h'
  have C1 := hid (C0.out.trans c')
  clear h' c' H0 C0
  go_wp2_with fail
  refine (readCell_v H1.out (by first | omega | (simp only [List.length_cons]; omega)) h2.out g2.out).mono ?_
  rintro e W2 ⟨rfl, h', c'⟩
  have H2 := hid h'
  have C2 := hid (C1.out.trans c')
  clear h' c' H1 C1
  go_wp2_with fail
  refine (readValue_v H2.out (by first | omega | (simp only [List.length_cons]; omega)) h3.out).mono ?_
  rintro e W3 ⟨rfl, h', c'⟩
  have H3 := hid h'
  have C3 := hid (C2.out.trans c')
  clear h' c' H2 C2
  go_wp2_with fail
  refine (readValue_v H3.out (by first | omega | (simp only [List.length_cons]; omega)) h4.out).mono ?_
  rintro e W4 ⟨rfl, h', c'⟩
  have H4 := hid h'
  have C4 := hid (C3.out.trans c')
  clear h' c' H3 C3
  go_wp2
  go_ret
  exact ⟨rfl, H4.out, C4.out⟩

set_option maxRecDepth 100000 in
set_option maxHeartbeats 1000000 in
theorem readIns_mov {u1 : ByteArray} {r1 : Nat} {u2 : ByteArray} {T2 : TypeId} {p2 : Value} (h : LineAt w bl n bw (u1 :: u2 :: ws)) (hlen : ws.length < 800000) (hw : Hid (WordsAt w wd)) (hn : Hid (∀ j, j < 12 → wd j ≠ wMov)) (h1 : Hid (IsReg u1 r1)) (h2 : Hid (IsV u2 T2 p2)) :
    Calls Tryz.prog 140 #[.string wMov, ptr bl] w fun e w' => e = .returned (.iface 308 (.agg #[.int .i64 r1, .iface T2 p2])) ∧ LineAt w' bl n bw ws ∧ Chg (lineM bl) w w' := by
  have H0 := hid h
  clear h
  have hq : wMov = ⟨#[109, 111, 118]⟩ := rfl
  go_enter Tryz.func140, Tryz.ntmps140
  go_wp2_with fail
  refine (named_none w wMov wd hw hn).mono ?_
  rintro e W0 ⟨rfl, rfl⟩
  rw [hq]
  clear hn hq hw
  have C0 := hid (Chg.refl (lineM bl) W0)
  go_wp2_with fail
  refine (readRegister_ok H0.out (by first | omega | (simp only [List.length_cons]; omega)) h1.out).mono ?_
  rintro e W1 ⟨rfl, h', c'⟩
  have H1 := hid h'
  have C1 := hid (C0.out.trans c')
  clear h' c' H0 C0
  go_wp2_with fail
  refine (readValue_v H1.out (by first | omega | (simp only [List.length_cons]; omega)) h2.out).mono ?_
  rintro e W2 ⟨rfl, h', c'⟩
  have H2 := hid h'
  have C2 := hid (C1.out.trans c')
  clear h' c' H1 C1
  go_wp2
  go_ret
  exact ⟨rfl, H2.out, C2.out⟩

set_option maxRecDepth 100000 in
set_option maxHeartbeats 1000000 in
theorem readIns_jmp {u1 : ByteArray} {v1 : Int} (h : LineAt w bl n bw (u1 :: ws)) (hlen : ws.length < 800000) (hw : Hid (WordsAt w wd)) (hn : Hid (∀ j, j < 12 → wd j ≠ wJmp)) (h1 : Hid (IsNum u1 v1)) (l1 : Hid (0 ≤ v1)) (m1 : Hid (v1 ≤ 4000)) :
    Calls Tryz.prog 140 #[.string wJmp, ptr bl] w fun e w' => e = .returned (.iface 326 (.agg #[.int .i64 v1])) ∧ LineAt w' bl n bw ws ∧ Chg (lineM bl) w w' := by
  have H0 := hid h
  clear h
  have hq : wJmp = ⟨#[106, 109, 112]⟩ := rfl
  go_enter Tryz.func140, Tryz.ntmps140
  go_wp2_with fail
  refine (named_none w wJmp wd hw hn).mono ?_
  rintro e W0 ⟨rfl, rfl⟩
  rw [hq]
  clear hn hq hw
  have C0 := hid (Chg.refl (lineM bl) W0)
  go_wp2_with fail
  refine (readPlace_ok H0.out (by first | omega | (simp only [List.length_cons]; omega)) h1.out l1.out m1.out).mono ?_
  rintro e W1 ⟨rfl, h', c'⟩
  have H1 := hid h'
  have C1 := hid (C0.out.trans c')
  clear h' c' H0 C0
  go_wp2
  go_ret
  exact ⟨rfl, H1.out, C1.out⟩

set_option maxRecDepth 100000 in
set_option maxHeartbeats 1000000 in
theorem readIns_jz {u1 : ByteArray} {T1 : TypeId} {p1 : Value} {u2 : ByteArray} {v2 : Int} (h : LineAt w bl n bw (u1 :: u2 :: ws)) (hlen : ws.length < 800000) (hw : Hid (WordsAt w wd)) (hn : Hid (∀ j, j < 12 → wd j ≠ wJz)) (h1 : Hid (IsV u1 T1 p1)) (h2 : Hid (IsNum u2 v2)) (l2 : Hid (0 ≤ v2)) (m2 : Hid (v2 ≤ 4000)) :
    Calls Tryz.prog 140 #[.string wJz, ptr bl] w fun e w' => e = .returned (.iface 328 (.agg #[.iface T1 p1, .int .i64 v2])) ∧ LineAt w' bl n bw ws ∧ Chg (lineM bl) w w' := by
  have H0 := hid h
  clear h
  have hq : wJz = ⟨#[106, 122]⟩ := rfl
  go_enter Tryz.func140, Tryz.ntmps140
  go_wp2_with fail
  refine (named_none w wJz wd hw hn).mono ?_
  rintro e W0 ⟨rfl, rfl⟩
  rw [hq]
  clear hn hq hw
  have C0 := hid (Chg.refl (lineM bl) W0)
  go_wp2_with fail
  refine (readValue_v H0.out (by first | omega | (simp only [List.length_cons]; omega)) h1.out).mono ?_
  rintro e W1 ⟨rfl, h', c'⟩
  have H1 := hid h'
  have C1 := hid (C0.out.trans c')
  clear h' c' H0 C0
  go_wp2_with fail
  refine (readPlace_ok H1.out (by first | omega | (simp only [List.length_cons]; omega)) h2.out l2.out m2.out).mono ?_
  rintro e W2 ⟨rfl, h', c'⟩
  have H2 := hid h'
  have C2 := hid (C1.out.trans c')
  clear h' c' H1 C1
  go_wp2
  go_ret
  exact ⟨rfl, H2.out, C2.out⟩

end
end Go.Proofs.YtfhkfnoajbbfdaaGreatDoor
