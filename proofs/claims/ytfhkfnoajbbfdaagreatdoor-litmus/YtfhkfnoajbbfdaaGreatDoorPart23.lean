import Derived.Test.YtfhkfnoajbbfdaaGreatDoorPart21
import Derived.Test.YtfhkfnoajbbfdaaGreatDoorPart22
namespace Go.Proofs.YtfhkfnoajbbfdaaGreatDoor
open Go.RowKit

theorem LI.pot_le {bt : Ic} {A : List (Th × List Ic)} {m : Nat → Int} (h : LI bt A m) : litPot A ≤ 100 := by
  obtain ⟨T0, T1, rfl, h0, h1, _⟩ := h
  have r0 := h0.range
  have r1 := h1.range
  simp only [litPot, List.map_cons, List.map_nil, List.sum_cons, List.sum_nil]
  omega

/-- What 'play' comes to at these picks, whatever machine of two it gets. -/
def PlaysOn (w : World) (pv : Value) : Prop := ∀ (bt : Ic) (D : Nat → Prop) (W : World) (bm : Nat) (A : List (Th × List Ic)) (m : Nat → Int), isBt bt → MRep D W bm A m → LI bt A m → (∀ k, W.heap.size ≤ k → D k) → (∀ k, k < w.heap.size → ¬ D k) → Below w.heap.size w W →
  Calls Tryz.prog 24 #[ptr bm, pv, .int .i64 2] W fun e w' => e = .returned (.tuple #[]) ∧ ∃ A' m', MRep D w' bm A' m' ∧ LI bt A' m' ∧ Chg (fun k _ => D k) W w'

set_option maxRecDepth 100000 in
set_option maxHeartbeats 4000000 in
theorem litmus_main (w : World) (pa : Option Addr) (len cap : Nat) (a : Int) (ha : Hid (-9223372036854775808 ≤ a)) (hlen : len ≤ 4096) (hplay : PlaysOn w (.slice pa len cap))
    (l0 : LoadsTo w (crossText btFence) [litCode 1 2 iFence, litCode 2 1 iFence]) (l1 : LoadsTo w (crossText btXadd) [litCode 1 2 iXadd9, litCode 2 1 iXadd9]) (l2 : LoadsTo w (crossText btCas) [litCode 1 2 iCas9, litCode 2 1 iCas9]) (l3 : LoadsTo w (crossText btNone) [litPlain 1 2, litPlain 2 1]) :
    Calls Tryz.prog 5 #[.slice pa len cap, .int .i64 a] w fun e w' => e = .returned (.bool true) ∧ Below w.heap.size w w' := by
  have HP := hid hplay
  have L0 := hid l0
  have L1 := hid l1
  have L2 := hid l2
  have L3 := hid l3
  have hlen' : ¬ (4096 : Int) < (len : Int) := by omega
  clear hplay l0 l1 l2 l3
  go_enter Tryz.func5, Tryz.ntmps5
  go_wp2_with fail
  refine (pick_any a 3 _ ha (by decide)).mono ?_
  rintro e w' ⟨r, rfl, r0, r1, rfl⟩
  obtain ⟨i, rfl⟩ := Int.eq_ofNat_of_zero_le r0
  have HB0 := hid (below_box w (.cells #[.string ⟨#[102, 101, 110, 99, 101, 10]⟩, .string ⟨#[120, 97, 100, 100, 32, 114, 49, 32, 57, 32, 48, 32, 49, 10]⟩, .string ⟨#[99, 97, 115, 32, 114, 49, 32, 57, 32, 48, 32, 48, 32, 48, 10]⟩] 9))
  obtain ⟨bs, bt, hbt, hL, hsz, hcell⟩ : ∃ bs bt, isBt bt ∧ LoadsTo w (crossText bs) [litCode 1 2 bt, litCode 2 1 bt] ∧ bs.size ≤ 100 ∧ (w.alloc (.cells #[.string ⟨#[102, 101, 110, 99, 101, 10]⟩, .string ⟨#[120, 97, 100, 100, 32, 114, 49, 32, 57, 32, 48, 32, 49, 10]⟩, .string ⟨#[99, 97, 115, 32, 114, 49, 32, 57, 32, 48, 32, 48, 32, 48, 10]⟩] 9)).cell? ⟨w.heap.size, i, none⟩ = some (.string bs) := by
    have hi : i = 0 ∨ i = 1 ∨ i = 2 := by omega
    rcases hi with rfl | rfl | rfl
    · exact ⟨btFence, iFence, .inl rfl, L0.out, by decide, World.cell?_alloc_at _ _ _ _ rfl⟩
    · exact ⟨btXadd, iXadd9, .inr (.inl rfl), L1.out, by decide, World.cell?_alloc_at _ _ _ _ rfl⟩
    · exact ⟨btCas, iCas9, .inr (.inr rfl), L2.out, by decide, World.cell?_alloc_at _ _ _ _ rfl⟩
  have HBT := hid hbt
  have HL := hid hL
  clear hbt hL L0 L1 L2 r0
  obtain ⟨W1, hW1⟩ : ∃ W1, w.alloc (.cells #[.string ⟨#[102, 101, 110, 99, 101, 10]⟩, .string ⟨#[120, 97, 100, 100, 32, 114, 49, 32, 57, 32, 48, 32, 49, 10]⟩, .string ⟨#[99, 97, 115, 32, 114, 49, 32, 57, 32, 48, 32, 48, 32, 48, 10]⟩] 9) = W1 := ⟨_, rfl⟩
  rw [hW1] at hcell HB0 ⊢
  clear hW1
  go_wp2_with fail
  refine (crossing_any bs hsz _).mono ?_
  rintro e Wa ⟨rfl, rfl⟩
  generalize crossText bs = ct at HL ⊢
  go_wp2_with fail
  refine (HL.out _ HB0.out).mono ?_
  rintro e W2 ⟨bm, rfl, hm, hb2⟩
  have M2 := hid hm
  have B2 := hid hb2
  clear hm hb2 HL hcell
  go_wp2_with fail
  refine (crossing_any btNone (by decide) _).mono ?_
  rintro e Wc ⟨rfl, rfl⟩
  generalize crossText btNone = ct0 at L3 ⊢
  have HB2 := hid (HB0.out.trans (B2.out.mono HB0.out.size))
  go_wp2_with fail
  refine (L3.out _ HB2.out).mono ?_
  rintro e W3 ⟨bn, rfl, hn, hb3⟩
  have N3 := hid hn
  have B3 := hid hb3
  have HB3 := hid (HB2.out.trans (hb3.mono HB2.out.size))
  clear hn hb3 L3
  have z1 := HB0.out.size
  have z2 := B2.out.size
  have z3 := B3.out.size
  obtain ⟨D, hDef⟩ : ∃ D : Nat → Prop, D = fun k => Wa.heap.size ≤ k ∧ ¬ (Wc.heap.size ≤ k ∧ k < W3.heap.size) := ⟨_, rfl⟩
  have M3 : Hid (MRep D W3 bm ([litCode 1 2 bt, litCode 2 1 bt].map fun c => (Th.init, c)) (fun _ => 0)) := (M2.out.newD (D' := D) (fun k h1 h2 => by rw [hDef]; exact ⟨h1, by omega⟩)).below B3.out
  have HD : Hid (∀ k, W3.heap.size ≤ k → D k) := fun k hk => by rw [hDef]; exact ⟨by omega, by omega⟩
  have HN : Hid (∀ k, D k → Wa.heap.size ≤ k ∧ ¬ (Wc.heap.size ≤ k ∧ k < W3.heap.size)) := fun k hk => by rw [hDef] at hk; exact hk
  clear hDef M2
  have hsm : w.heap.size ≤ W3.heap.size := by omega
  go_wp2_with fail
  refine (HP.out bt D W3 bm _ _ HBT.out M3.out lit_start HD.out (fun k hk hd => by have := (HN.out k hd).1; omega) HB3.out).mono ?_
  rintro e W4 ⟨rfl, A4, m4, m4r, l4, c4⟩
  have M4 := hid m4r
  have L4 := hid l4
  have C4 := hid c4
  have N4 := hid (N3.out.keep c4 (fun k h1 h2 _ hd => (HN.out k hd).2 ⟨h1, h2⟩))
  have HD4 : Hid (∀ k, W4.heap.size ≤ k → D k) := fun k hk => HD.out k (Nat.le_trans c4.size hk)
  clear m4r l4 c4 M3
  go_wp2_with fail
  refine (ends_two (I := LI bt) (fun A m i h => h.step HBT.out i) (fun A m i h => h.flush i) (fun A m h => h.ok HBT.out) (fun A m h => h.len) litPot (fun A m i h => (h.pot_step HBT.out i).1) (fun A m i h hi hs => (h.pot_step HBT.out i).2 hi hs) (fun A m i h => h.pot_flush i) M4.out L4.out HD4.out L4.out.pot_le).mono ?_
  rintro e W5 ⟨rfl, A5, m5, m5r, l5, c5, s0, s1⟩
  obtain ⟨T0, T1, rfl, o0, o1, hne⟩ := l5.fin s0 s1
  have C5 := hid (C4.out.trans c5)
  have N5 := hid (N3.out.keep C5.out (fun k h1 h2 _ hd => (HN.out k hd).2 ⟨h1, h2⟩))
  have M5 := hid m5r
  clear m5r l5 c5 s0 s1 N4 HD4 M4 L4 C4
  go_wp2_with fail
  refine (p_outT M5.out 0 0 rfl T0 _ rfl (T0.r 0) o0).mono ?_
  rintro e W6 ⟨rfl, b6, z6, k6⟩
  have B6 := hid b6
  clear b6
  go_wp2_with fail
  refine (p_outT (M5.out.below B6.out) 1 1 rfl T1 _ rfl (T1.r 0) o1).mono ?_
  rintro e W7 ⟨rfl, b7, z7, k7⟩
  have k6' := (b7.cell (p := ⟨W5.heap.size, 0, none⟩) z6).trans k6
  have B7 := hid b7
  clear b7 k6 o0 o1
  generalize T0.r 0 = u0 at hne k6'
  generalize T1.r 0 = u1 at hne k7
  have N7 : Hid (MRep (fun k => Wc.heap.size ≤ k) W7 bn A0 (fun _ => 0)) := (N5.out.below B6.out).below B7.out
  have C7 := hid ((C5.out.trans (Chg.of_below B6.out)).trans (Chg.of_below B7.out))
  have hcase : ((u0 == 0) = true ∧ (u1 == 0) = false) ∨ (u0 == 0) = false := by
    by_cases e0 : u0 = 0
    · exact .inl ⟨by simp [e0], by simp; exact fun e1 => hne ⟨e0, e1⟩⟩
    · exact .inr (by simp [e0])
  clear hne N5 M5
  rcases hcase with ⟨c0, c1⟩ | c0
  all_goals
    go_wp2_with fail
    refine (p_stepT N7.out (fun k hk => by have := C7.out.size; omega) 0 4 0 4 rfl rfl (by decide) (by decide) plain_run.2.1).mono ?_
    rintro e W8 ⟨rfl, n8, d8⟩
    rw [plain_run.1] at n8
    have N8 := hid n8
    have D8 := hid d8
    clear n8 d8
    go_wp2_with fail
    refine (p_stepT N8.out (fun k hk => by have := C7.out.size; have := D8.out.size; omega) 1 4 1 4 rfl rfl (by decide) (by decide) plain_run.2.2.2).mono ?_
    rintro e W9 ⟨rfl, n9, d9⟩
    rw [plain_run.2.2.1] at n9
    have N9 := hid n9
    have D9 := hid (D8.out.trans d9)
    clear n9 d9 N8 D8
    go_wp2_with fail
    refine (p_outT N9.out 0 0 rfl (T4 1) _ rfl 0 rfl).mono ?_
    rintro e Wd ⟨rfl, bd, zd, kd⟩
    have Bd := hid bd
    clear bd
    go_wp2_with fail
    refine (p_outT (N9.out.below Bd.out) 1 1 rfl (T4 2) _ rfl 0 rfl).mono ?_
    rintro e We ⟨rfl, be, ze, ke⟩
    have kd' := (be.cell (p := ⟨W9.heap.size, 0, none⟩) zd).trans kd
    have Be := hid be
    have Ne := hid (((N9.out.newD (D' := fun k => Wc.heap.size ≤ k ∧ (k < W9.heap.size ∨ We.heap.size ≤ k)) (fun k h1 h2 => ⟨h1, .inl h2⟩)).below Bd.out).below be)
    clear be kd
    go_wp2_with fail
    refine (p_peekT Ne.out 1 1 rfl (by decide) 0 rfl).mono ?_
    rintro e Wf ⟨rfl, rfl⟩
    go_wp2_with fail
    refine (p_waitingT Ne.out 0 0 rfl (T4 1) _ rfl 1 rfl).mono ?_
    rintro e Wg ⟨rfl, rfl⟩
    go_wp2_with fail
    refine (p_flushT Ne.out (fun k hk => ⟨by have := C7.out.size; have := D9.out.size; have := Bd.out.size; have := Be.out.size; omega, .inr hk⟩) 0 0 rfl (by decide)).mono ?_
    rintro e Wh ⟨rfl, nh, dh⟩
    rw [plain_flush] at nh
    have Nh := hid nh
    have Dh := hid dh
    clear nh dh
    have q1 := Be.out.size
    have q2 := Bd.out.size
    have kd2 := (Dh.out.cell W9.heap.size 0 (by omega) (fun e => by omega)).trans kd'
    have ke2 := (Dh.out.cell Wd.heap.size 0 ze (fun e => by omega)).trans ke
    clear kd' ke
    go_wp2_with fail
    refine (p_peekT Nh.out 1 1 rfl (by decide) 1 rfl).mono ?_
    rintro e Wi ⟨rfl, rfl⟩
    go_wp2
    go_ret
    refine ⟨rfl, ?_⟩
    have q3 := C7.out.size
    have q4 := D9.out.size
    have t1 := C7.out.below (B := w.heap.size) hsm (fun k i hd => by have := (HN.out k hd).1; omega)
    have t2 := D9.out.below (B := w.heap.size) (by omega) (fun k i hd => by omega)
    have t3 := Dh.out.below (B := w.heap.size) (by omega) (fun k i hd => by omega)
    exact HB3.out.trans (t1.trans (t2.trans ((Bd.out.mono (by omega)).trans ((Be.out.mono (by omega)).trans t3))))
end Go.Proofs.YtfhkfnoajbbfdaaGreatDoor

/- The four texts of Litmus: read. -/
namespace Go.Proofs.YtfhkfnoajbbfdaaGreatDoor
open Go.RowKit

theorem index_line (c : UInt8) : ∀ (l r : List UInt8), c ∉ l → Lib.index (l ++ c :: r) [c] = (l.length : Int)
  | [], r, _ => by rw [List.nil_append, Lib.index]; simp [List.isPrefixOf]
  | b :: l, r, h => by
    have hb : (c == b) = false := by simp at h; simpa using h.1
    have ih := index_line c l r (fun e => h (List.mem_cons_of_mem _ e))
    rw [List.cons_append, Lib.index, ih]
    have e1 : [c].isPrefixOf (b :: (l ++ c :: r)) = false := by simp [List.isPrefixOf, hb]
    have e2 : ((l.length : Int) == -1) = false := by rw [beq_eq_false_iff_ne]; omega
    rw [e1, e2]
    simp

theorem cut_line (l r : List UInt8) (h : (10 : UInt8) ∉ l) : Lib.cut (l ++ 10 :: r) [10] = (l, r, true) := by
  unfold Lib.cut
  rw [index_line 10 l r h, if_pos (by omega)]
  simp

def textOf : List (List UInt8) → List UInt8
  | [] => []
  | l :: ls => l ++ 10 :: textOf ls

/-- The lines, one after the other. -/
def StepsTo (wd : Nat → ByteArray) : List (List UInt8) → List (List Ic) → List (List Ic) → Prop
  | [], acc, fin => acc = fin
  | l :: ls, acc, fin => (10 : UInt8) ∉ l ∧ ∃ acc', LineTo wd (wordsOf l) acc acc' ∧ StepsTo wd ls acc' fin

theorem linesTo_of (wd : Nat → ByteArray) : ∀ (ls : List (List UInt8)) (acc fin : List (List Ic)), StepsTo wd ls acc fin → LinesTo wd ls (textOf ls) acc fin
  | [], _, _, h => ⟨rfl, h⟩
  | l :: ls, _, fin, ⟨h1, acc', h2, h3⟩ => ⟨textOf ls, acc', cut_line l _ h1, h2, linesTo_of wd ls acc' fin h3⟩

abbrev dg (n : UInt8) : ByteArray := ⟨#[n]⟩

theorem num0 : IsNum (dg 48) 0 := ⟨⟨dg 48, rfl, by decide, by decide, .inr rfl, by decide⟩, by decide, by kernel_rfl⟩
theorem num1 : IsNum (dg 49) 1 := ⟨⟨dg 49, rfl, by decide, by decide, .inl (by decide), by decide⟩, by decide, by kernel_rfl⟩
theorem num2 : IsNum (dg 50) 2 := ⟨⟨dg 50, rfl, by decide, by decide, .inl (by decide), by decide⟩, by decide, by kernel_rfl⟩
theorem num9 : IsNum (dg 57) 9 := ⟨⟨dg 57, rfl, by decide, by decide, .inl (by decide), by decide⟩, by decide, by kernel_rfl⟩
theorem valN {u : ByteArray} {n : Nat} (h : IsNum u n) (hs : u.size ≠ 2) : IsVal u (nm n) := .inr ⟨rfl, .inl hs, h⟩
theorem reg0 : IsReg ⟨#[114, 48]⟩ 0 := ⟨by decide, rfl⟩
theorem reg1 : IsReg ⟨#[114, 49]⟩ 1 := ⟨by decide, rfl⟩

def lThread : List UInt8 := [116, 104, 114, 101, 97, 100]
def lStore (x : UInt8) : List UInt8 := [115, 116, 111, 114, 101, 32, x, 32, 48, 32, 49]
def lLoad (x : UInt8) : List UInt8 := [108, 111, 97, 100, 32, 114, 48, 32, x, 32, 48]
def lOut : List UInt8 := [111, 117, 116, 32, 114, 48]
def lHalt : List UInt8 := [104, 97, 108, 116]
def lFence : List UInt8 := [102, 101, 110, 99, 101]
def lXadd : List UInt8 := [120, 97, 100, 100, 32, 114, 49, 32, 57, 32, 48, 32, 49]
def lCas : List UInt8 := [99, 97, 115, 32, 114, 49, 32, 57, 32, 48, 32, 48, 32, 48]

theorem wThread_of : wordsOf lThread = [wThread] := by kernel_rfl
theorem wStore1_of : wordsOf (lStore 49) = [wStore, dg 49, dg 48, dg 49] := by kernel_rfl
theorem wStore2_of : wordsOf (lStore 50) = [wStore, dg 50, dg 48, dg 49] := by kernel_rfl
theorem wLoad1_of : wordsOf (lLoad 49) = [wLoad, ⟨#[114, 48]⟩, dg 49, dg 48] := by kernel_rfl
theorem wLoad2_of : wordsOf (lLoad 50) = [wLoad, ⟨#[114, 48]⟩, dg 50, dg 48] := by kernel_rfl
theorem wOut_of : wordsOf lOut = [wOut, ⟨#[114, 48]⟩] := by kernel_rfl
theorem wHalt_of : wordsOf lHalt = [wHalt] := by kernel_rfl
theorem wFence_of : wordsOf lFence = [wFence] := by kernel_rfl
theorem wXadd_of : wordsOf lXadd = [wXadd, ⟨#[114, 49]⟩, dg 57, dg 48, dg 49] := by kernel_rfl
theorem wCas_of : wordsOf lCas = [wCas, ⟨#[114, 49]⟩, dg 57, dg 48, dg 48, dg 48] := by kernel_rfl

theorem nmV {u : ByteArray} {n : Nat} (h : IsVal u (nm n)) : IsV u 378 (.int .i64 n) := ⟨nm n, rfl, h⟩
theorem rgV {u : ByteArray} {n : Nat} (h : IsReg u n) : IsV u 300 (.int .i64 n) := ⟨⟨true, n⟩, rfl, .inl ⟨rfl, n, h, rfl⟩⟩

theorem rdStore {u : ByteArray} {x : Nat} (h : IsNum u x) (hs : u.size ≠ 2) : ReadsTo opWords [wStore, u, dg 48, dg 49] (iStore1 x) :=
  ⟨wStore, [u, dg 48, dg 49], _, _, rfl, by simp, by decide, rfl, fun _ _ _ _ hL hw => readIns_store hL (by decide) hw (by decide : ∀ j, j < 12 → opWords j ≠ wStore) (nmV (valN h hs)) num0 (nmV (n := 1) (valN num1 (by decide)))⟩
theorem rdLoad {u : ByteArray} {x : Nat} (h : IsNum u x) (hs : u.size ≠ 2) : ReadsTo opWords [wLoad, ⟨#[114, 48]⟩, u, dg 48] (iLoad0 x) :=
  ⟨wLoad, [⟨#[114, 48]⟩, u, dg 48], _, _, rfl, by simp, by decide, rfl, fun _ _ _ _ hL hw => readIns_load hL (by decide) hw (by decide : ∀ j, j < 12 → opWords j ≠ wLoad) reg0 (nmV (valN h hs)) num0⟩
theorem rdOut : ReadsTo opWords [wOut, ⟨#[114, 48]⟩] iOut0 :=
  ⟨wOut, [⟨#[114, 48]⟩], _, _, rfl, by decide, by decide, rfl, fun _ _ _ _ hL hw => readIns_out hL (by decide) hw (by decide : ∀ j, j < 12 → opWords j ≠ wOut) (rgV reg0)⟩
theorem rdHalt : ReadsTo opWords [wHalt] iHalt :=
  ⟨wHalt, [], _, _, rfl, by decide, by decide, rfl, fun _ _ _ _ hL hw => readIns_halt hL hw (by decide : ∀ j, j < 12 → opWords j ≠ wHalt)⟩
theorem rdFence : ReadsTo opWords [wFence] iFence :=
  ⟨wFence, [], _, _, rfl, by decide, by decide, rfl, fun _ _ _ _ hL hw => readIns_fence hL hw (by decide : ∀ j, j < 12 → opWords j ≠ wFence)⟩
theorem rdXadd : ReadsTo opWords [wXadd, ⟨#[114, 49]⟩, dg 57, dg 48, dg 49] iXadd9 :=
  ⟨wXadd, [⟨#[114, 49]⟩, dg 57, dg 48, dg 49], _, _, rfl, by decide, by decide, rfl, fun _ _ _ _ hL hw => readIns_xadd hL (by decide) hw (by decide : ∀ j, j < 12 → opWords j ≠ wXadd) reg1 (nmV (n := 9) (valN num9 (by decide))) num0 (nmV (n := 1) (valN num1 (by decide)))⟩
theorem rdCas : ReadsTo opWords [wCas, ⟨#[114, 49]⟩, dg 57, dg 48, dg 48, dg 48] iCas9 :=
  ⟨wCas, [⟨#[114, 49]⟩, dg 57, dg 48, dg 48, dg 48], _, _, rfl, by decide, by decide, rfl, fun _ _ _ _ hL hw => readIns_cas hL (by decide) hw (by decide : ∀ j, j < 12 → opWords j ≠ wCas) reg1 (nmV (n := 9) (valN num9 (by decide))) num0 (nmV (n := 0) (valN num0 (by decide))) (nmV (n := 0) (valN num0 (by decide)))⟩

theorem ln_head {l : List UInt8} {acc acc' : List (List Ic)} (h : wordsOf l = [wThread]) (hl : acc.length < 3) (he : acc' = acc ++ [[]]) : LineTo opWords (wordsOf l) acc acc' := .inl ⟨h, hl, he⟩
theorem ln_ins {l : List UInt8} {ws : List ByteArray} {acc0 : List (List Ic)} {c : List Ic} {ic : Ic} {acc acc' : List (List Ic)} (hw : wordsOf l = ws) (h : ReadsTo opWords ws ic) (h0 : acc = acc0 ++ [c]) (h1 : acc0.length < 3) (h2 : c.length < 4000) (h3 : acc' = acc0 ++ [c ++ [ic]]) : LineTo opWords (wordsOf l) acc acc' :=
  .inr ⟨acc0, c, ic, h0, h1, h2, h3, hw ▸ h⟩

theorem steps_lit {l : List UInt8} {bt : Ic} {ws : List ByteArray} (h10 : (10 : UInt8) ∉ l) (hw : wordsOf l = ws) (h : ReadsTo opWords ws bt) :
    StepsTo opWords [lThread, lStore 49, l, lLoad 50, lOut, lHalt, lThread, lStore 50, l, lLoad 49, lOut, lHalt] [] [litCode 1 2 bt, litCode 2 1 bt] :=
  ⟨by decide, [[]], ln_head wThread_of (by decide) rfl, by decide, [[iStore1 1]], ln_ins (acc0 := []) (c := []) wStore1_of (rdStore num1 (by decide)) rfl (by decide) (by decide) rfl,
   h10, [[iStore1 1, bt]], ln_ins (acc0 := []) (c := [iStore1 1]) hw h rfl (by decide) (by simp) rfl,
   by decide, [[iStore1 1, bt, iLoad0 2]], ln_ins (acc0 := []) (c := [iStore1 1, bt]) wLoad2_of (rdLoad num2 (by decide)) rfl (by decide) (by simp) rfl,
   by decide, [[iStore1 1, bt, iLoad0 2, iOut0]], ln_ins (acc0 := []) (c := [iStore1 1, bt, iLoad0 2]) wOut_of rdOut rfl (by decide) (by simp) rfl,
   by decide, [litCode 1 2 bt], ln_ins (acc0 := []) (c := [iStore1 1, bt, iLoad0 2, iOut0]) wHalt_of rdHalt rfl (by decide) (by simp) rfl,
   by decide, [litCode 1 2 bt, []], ln_head wThread_of (by simp) rfl, by decide, [litCode 1 2 bt, [iStore1 2]], ln_ins (acc0 := [litCode 1 2 bt]) (c := []) wStore2_of (rdStore num2 (by decide)) rfl (by simp) (by simp) rfl,
   h10, [litCode 1 2 bt, [iStore1 2, bt]], ln_ins (acc0 := [litCode 1 2 bt]) (c := [iStore1 2]) hw h rfl (by simp) (by simp) rfl,
   by decide, [litCode 1 2 bt, [iStore1 2, bt, iLoad0 1]], ln_ins (acc0 := [litCode 1 2 bt]) (c := [iStore1 2, bt]) wLoad1_of (rdLoad num1 (by decide)) rfl (by simp) (by simp) rfl,
   by decide, [litCode 1 2 bt, [iStore1 2, bt, iLoad0 1, iOut0]], ln_ins (acc0 := [litCode 1 2 bt]) (c := [iStore1 2, bt, iLoad0 1]) wOut_of rdOut rfl (by simp) (by simp) rfl,
   by decide, [litCode 1 2 bt, litCode 2 1 bt], ln_ins (acc0 := [litCode 1 2 bt]) (c := [iStore1 2, bt, iLoad0 1, iOut0]) wHalt_of rdHalt rfl (by simp) (by simp) rfl, rfl⟩

theorem steps_plain : StepsTo opWords [lThread, lStore 49, lLoad 50, lOut, lHalt, lThread, lStore 50, lLoad 49, lOut, lHalt] [] [litPlain 1 2, litPlain 2 1] :=
  ⟨by decide, [[]], ln_head wThread_of (by decide) rfl, by decide, [[iStore1 1]], ln_ins (acc0 := []) (c := []) wStore1_of (rdStore num1 (by decide)) rfl (by decide) (by decide) rfl,
   by decide, [[iStore1 1, iLoad0 2]], ln_ins (acc0 := []) (c := [iStore1 1]) wLoad2_of (rdLoad num2 (by decide)) rfl (by decide) (by simp) rfl,
   by decide, [[iStore1 1, iLoad0 2, iOut0]], ln_ins (acc0 := []) (c := [iStore1 1, iLoad0 2]) wOut_of rdOut rfl (by decide) (by simp) rfl,
   by decide, [litPlain 1 2], ln_ins (acc0 := []) (c := [iStore1 1, iLoad0 2, iOut0]) wHalt_of rdHalt rfl (by decide) (by simp) rfl,
   by decide, [litPlain 1 2, []], ln_head wThread_of (by simp) rfl, by decide, [litPlain 1 2, [iStore1 2]], ln_ins (acc0 := [litPlain 1 2]) (c := []) wStore2_of (rdStore num2 (by decide)) rfl (by simp) (by simp) rfl,
   by decide, [litPlain 1 2, [iStore1 2, iLoad0 1]], ln_ins (acc0 := [litPlain 1 2]) (c := [iStore1 2]) wLoad1_of (rdLoad num1 (by decide)) rfl (by simp) (by simp) rfl,
   by decide, [litPlain 1 2, [iStore1 2, iLoad0 1, iOut0]], ln_ins (acc0 := [litPlain 1 2]) (c := [iStore1 2, iLoad0 1]) wOut_of rdOut rfl (by simp) (by simp) rfl,
   by decide, [litPlain 1 2, litPlain 2 1], ln_ins (acc0 := [litPlain 1 2]) (c := [iStore1 2, iLoad0 1, iOut0]) wHalt_of rdHalt rfl (by simp) (by simp) rfl, rfl⟩

section
variable {w : World} {m : Int}
theorem loads_of {s : ByteArray} {ls : List (List UInt8)} {cs : List (List Ic)} (h3 : 3 ≤ w.heap.size) (hm : w.cell? ⟨1, 0, none⟩ = some (.int .i64 m)) (hw : WordsAt w opWords) (hs : s.size ≤ 131072) (ht : s.data.toList = textOf ls) (hne : textOf ls ≠ []) (hst : StepsTo opWords ls [] cs) (hc0 : 0 < cs.length) (hc3 : cs.length < 100000) : LoadsTo w s cs :=
  plain_load (mloads hs (ht ▸ hne) h3 hm hw (ht ▸ linesTo_of opWords ls [] cs hst) hc0 hc3)

theorem loads_fence (h3 : 3 ≤ w.heap.size) (hm : w.cell? ⟨1, 0, none⟩ = some (.int .i64 m)) (hw : WordsAt w opWords) : LoadsTo w (crossText btFence) [litCode 1 2 iFence, litCode 2 1 iFence] :=
  loads_of h3 hm hw (by decide) (by kernel_rfl) (by simp [textOf]) (steps_lit (l := lFence) (by decide) wFence_of rdFence) (by simp) (by simp)
theorem loads_xadd (h3 : 3 ≤ w.heap.size) (hm : w.cell? ⟨1, 0, none⟩ = some (.int .i64 m)) (hw : WordsAt w opWords) : LoadsTo w (crossText btXadd) [litCode 1 2 iXadd9, litCode 2 1 iXadd9] :=
  loads_of h3 hm hw (by decide) (by kernel_rfl) (by simp [textOf]) (steps_lit (l := lXadd) (by decide) wXadd_of rdXadd) (by simp) (by simp)
theorem loads_cas (h3 : 3 ≤ w.heap.size) (hm : w.cell? ⟨1, 0, none⟩ = some (.int .i64 m)) (hw : WordsAt w opWords) : LoadsTo w (crossText btCas) [litCode 1 2 iCas9, litCode 2 1 iCas9] :=
  loads_of h3 hm hw (by decide) (by kernel_rfl) (by simp [textOf]) (steps_lit (l := lCas) (by decide) wCas_of rdCas) (by simp) (by simp)
theorem loads_plain (h3 : 3 ≤ w.heap.size) (hm : w.cell? ⟨1, 0, none⟩ = some (.int .i64 m)) (hw : WordsAt w opWords) : LoadsTo w (crossText btNone) [litPlain 1 2, litPlain 2 1] :=
  loads_of h3 hm hw (by decide) (by kernel_rfl) (by simp [textOf]) steps_plain (by simp) (by simp)
end
end Go.Proofs.YtfhkfnoajbbfdaaGreatDoor
