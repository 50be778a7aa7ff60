import Derived.Test.YtfhkfnoajbbfdaaGreatDoorPart09
import Derived.WalkLawsBesides
import Derived.Test.YtfhkfnoajbbfdaaGreatDoorPart07
/- Reading a line, whatever it holds: what fails. -/
namespace Go.Proofs.YtfhkfnoajbbfdaaGreatDoor
open Go.RowKit

/-- The panic by which a line ends the reading. -/
abbrev stopV (bf : Nat) : List PanicEntry := [{ v := .iface 252 (.agg #[ptr bf]), recovered := false }]

/-- The reading has ended with this fault in this line; of what was there only the line has turned. -/
def Fails (er n : Int) (bl : Nat) (w : World) (e : Ending) (w' : World) : Prop :=
  ∃ bf, e = .panicked (stopV bf) ∧ w.heap.size ≤ bf ∧ w'.cell? ⟨bf, 0, none⟩ = some (.int .i64 er) ∧ w'.cell? ⟨bf, 1, none⟩ = some (.int .i64 n) ∧ Chg (lineM bl) w w'

set_option maxRecDepth 100000 in
set_option maxHeartbeats 1000000 in
theorem fail_any {w : World} {bl bw : Nat} {n : Int} {ws : List ByteArray} (h : LineAt w bl n bw ws) (er : Int) :
    Calls Tryz.prog 137 #[ptr bl, .int .i64 er] w fun e w' => Fails er n bl w e w' := by
  have hn := h.num
  have hlt := h.lt
  have H := hid h
  clear h
  go_enter Tryz.func137, Tryz.ntmps137
  go_wp2
  refine ⟨rfl, w.heap.size, rfl, Nat.le_refl _, World.cell?_alloc_new _ _ _ 0, World.cell?_alloc_new _ _ _ 1, (Chg.refl _ w).alloc _⟩

set_option maxRecDepth 100000 in
set_option maxHeartbeats 1000000 in
theorem word_none {w : World} {bl bw : Nat} {n : Int} (h : LineAt w bl n bw []) :
    Calls Tryz.prog 138 #[ptr bl] w fun e w' => Fails 2 n bl w e w' := by
  obtain ⟨o, cap, hl, hs, _⟩ := h.wds
  simp only [List.length_nil] at hs
  have H := hid h
  clear h
  go_enter Tryz.func138, Tryz.ntmps138
  go_wp2_with (go_at_call 163; go_in)
  refine (fail_any H.out 2).mono ?_
  rintro e w1 ⟨bf, rfl, h1⟩
  exact ⟨rfl, bf, rfl, h1⟩

theorem Fails.after {w w1 w' : World} {bl : Nat} {er n : Int} {e : Ending} (h : Fails er n bl w1 e w') (c : Chg (lineM bl) w w1) : Fails er n bl w e w' := by
  obtain ⟨bf, h1, h2, h3, h4, h5⟩ := h
  exact ⟨bf, h1, Nat.le_trans c.size h2, h3, h4, c.trans h5⟩

set_option maxRecDepth 100000 in
set_option maxHeartbeats 1000000 in
theorem end_some {w : World} {bl bw : Nat} {n : Int} {u : ByteArray} {ws : List ByteArray} (h : LineAt w bl n bw (u :: ws)) :
    Calls Tryz.prog 139 #[ptr bl] w fun e w' => Fails 2 n bl w e w' := by
  obtain ⟨o, cap, hl, hs, _⟩ := h.wds
  simp only [List.length_cons] at hs
  have H := hid h
  clear h
  go_enter Tryz.func139, Tryz.ntmps139
  go_wp2_with (go_at_call 163; go_in)
  refine (fail_any H.out 2).mono ?_
  rintro e w1 ⟨bf, rfl, h1⟩
  exact ⟨rfl, bf, rfl, h1⟩

/-- A reader's answer: a value, and the words that are left; or the line's end with ErrSyntax. -/
def Rds (bl : Nat) (n : Int) (bw : Nat) (w : World) (r : Option (Value × List ByteArray)) (e : Ending) (w' : World) : Prop :=
  match r with
  | some (v, ws) => e = .returned v ∧ LineAt w' bl n bw ws ∧ Chg (lineM bl) w w'
  | none => Fails 2 n bl w e w'

def rdWord : List ByteArray → Option (Value × List ByteArray)
  | [] => none
  | u :: ws => some (.string u, ws)

theorem word_tot {w : World} {bl bw : Nat} {n : Int} {ws : List ByteArray} (h : LineAt w bl n bw ws) (hlen : ws.length < 1000000) :
    Calls Tryz.prog 138 #[ptr bl] w fun e w' => Rds bl n bw w (rdWord ws) e w' := by
  cases ws with
  | nil => exact word_none h
  | cons u ws => exact word_ok h (by simp at hlen; omega)
end Go.Proofs.YtfhkfnoajbbfdaaGreatDoor

/- Numbers and registers, whatever a word is. -/
namespace Go.Proofs.YtfhkfnoajbbfdaaGreatDoor
open Go.RowKit

/-- What the readers ask of the package-level variables. -/
structure Env (w : World) : Prop where
  lo : 10 ≤ w.heap.size
  max : ∃ m, w.cell? ⟨1, 0, none⟩ = some (.int .i64 m)
  words : WordsAt w opWords
  es : ∃ ev, w.cell? ⟨6, 0, none⟩ = some ev ∧ (ev = .nilIface ∨ ∃ te pe, ev = .iface te pe)
  er : ∃ ev, w.cell? ⟨7, 0, none⟩ = some ev ∧ (ev = .nilIface ∨ ∃ te pe, ev = .iface te pe)
  et : w.cell? ⟨0, 0, none⟩ = some (.iface 262 (.agg #[.pointer (some ⟨10, 96, none⟩)]))

theorem Env.keep {w w' : World} {M : Nat → Nat → Prop} (h : Env w) (hc : Chg M w w') (hM : ∀ k i, k < 10 → ¬ M k i) : Env w' := by
  have hl := h.lo
  have hk : ∀ g i v, g < 10 → w.cell? ⟨g, i, none⟩ = some v → w'.cell? ⟨g, i, none⟩ = some v := fun g i v hg hv => (hc.cell g i (by omega) (hM g i hg)).trans hv
  obtain ⟨m, h1⟩ := h.max
  obtain ⟨ev, h2, h3⟩ := h.es
  obtain ⟨ev', h4, h5⟩ := h.er
  exact ⟨Nat.le_trans h.lo hc.size, ⟨m, hk _ _ _ (by decide) h1⟩, fun j hj => hk _ _ _ (by decide) (h.words j hj), ⟨ev, hk _ _ _ (by decide) h2, h3⟩, ⟨ev', hk _ _ _ (by decide) h4, h5⟩, hk _ _ _ (by decide) h.et⟩

theorem Env.below {w w' : World} (h : Env w) (hb : Below w.heap.size w w') : Env w' := h.keep (M := fun _ _ => False) (Chg.of_below hb) (fun _ _ _ e => e)

theorem Env.line {w w' : World} {bl : Nat} (h : Env w) (hc : Chg (lineM bl) w w') (hb : 10 ≤ bl) : Env w' := h.keep hc (fun k i hk e => by omega)

def digit (b : UInt8) : Bool := decide (48 ≤ b.toNat) && decide (b.toNat ≤ 57)

/-- A word behind its sign. -/
def behind (s : ByteArray) : ByteArray := ⟨(Lib.trimPrefix s.data.toList [45]).toArray⟩

/-- Whether a word is written as a number is. -/
def isNumeral (s : ByteArray) : Bool :=
  if (behind s).data.toList = [] then false else if (behind s).data.toList.head? = some 48 ∧ s ≠ ⟨#[48]⟩ then false else (behind s).data.toList.all digit

/-- The number that a word is. -/
def numVal (s : ByteArray) : Option Int := if isNumeral s = true then (match Lib.parseIntB 64 s.data.toList with | .ok v => some v | _ => none) else none

set_option maxRecDepth 100000 in
set_option maxHeartbeats 1000000 in
/-- A sign that is no digit. -/
theorem numeral_bad (w : World) (s t : ByteArray) (ht : Hid (Digits s t)) (hm : t.size < 4294967281) (k0 : Nat) (hk0 : k0 < t.size) (hz : t[0].toNat ≠ 48 ∨ s = ⟨#[48]⟩) (hd : Hid (∀ j (h : j < t.size), j < k0 → 48 ≤ t[j].toNat ∧ t[j].toNat ≤ 57)) (hb : t[k0].toNat < 48 ∨ 57 < t[k0].toNat) :
    Calls Tryz.prog 227 #[.string s] w fun e w' => e = .returned (.bool false) ∧ w' = w := by
  have h0 : 0 < t.size := by omega
  have hne := ba_some h0
  have hne' : ¬ t.toList = [] := fun h => by simp [h] at hne
  have h0' : (0 : Int) < (t.size : Int) := by omega
  have HT := ht.out
  unfold Digits at HT
  go_enter Tryz.func227, Tryz.ntmps227
  go_wp2_with fail
  refine (Tryz.strings_TrimPrefix s ⟨#[45]⟩ w).mono ?_
  rintro e w' ⟨rfl, rfl⟩
  change Hid _ at ht
  rw [show (⟨(Lib.trimPrefix s.data.toList (ByteArray.mk #[45]).data.toList).toArray⟩ : ByteArray) = t from HT.symm]
  clear HT ht
  rcases hz with hz | rfl
  all_goals go_wp2
  all_goals
    go_loopw [20] (fun v wr => ∃ k : Nat, k ≤ k0 ∧ v = .int .i64 k ∧ wr = w') (fun v _ => t.size - (intOf v).toNat)
    case atStart => exact ⟨0, by omega, rfl, rfl⟩
    case round =>
      obtain ⟨k, hk, rfl, rfl⟩ := hrel
      have hlt : k < t.size := by omega
      have hlt' : (k : Int) < (t.size : Int) := by omega
      by_cases hkk : k < k0
      · have hq := hd.out k hlt hkk
        have q1 : ¬ (t[k].toNat : Int) < 48 := by omega
        have q2 : ¬ (57 : Int) < (t[k].toNat : Int) := by omega
        go_wp2
        go_roundw
        case rel => exact ⟨k + 1, by omega, by go_num, trivial⟩
        case measure => simp [intOf]; omega
      · obtain rfl : k = k0 := by omega
        rcases hb with hb | hb
        · have q1 : (t[k].toNat : Int) < 48 := by omega
          go_wp2
          go_ret
          exact ⟨rfl, rfl⟩
        · have q1 : ¬ (t[k].toNat : Int) < 48 := by omega
          have q2 : (57 : Int) < (t[k].toNat : Int) := by omega
          go_wp2
          go_ret
          exact ⟨rfl, rfl⟩

theorem numeral_any (w : World) (s : ByteArray) (hs : s.size < 4294967281) :
    Calls Tryz.prog 227 #[.string s] w fun e w' => e = .returned (.bool (isNumeral s)) ∧ w' = w := by
  have ht : Digits s (behind s) := rfl
  have hle : (behind s).size ≤ s.size := by
    show (Lib.trimPrefix s.data.toList [45]).toArray.size ≤ s.data.size
    rw [← Array.length_toList (xs := s.data), List.size_toArray]
    unfold Lib.trimPrefix
    split
    · simp
    · exact Nat.le_refl _
  by_cases h0 : (behind s).data.toList = []
  · have hf : isNumeral s = false := by unfold isNumeral; rw [if_pos h0]
    rw [hf]
    exact numeral_empty w s _ ht (by rw [ByteArray.toList_eq, h0]; rfl)
  have hsz : 0 < (behind s).size := by
    show 0 < (behind s).data.size
    rw [← Array.length_toList]
    exact List.length_pos_iff.2 h0
  have hhead : (behind s).data.toList.head? = some (behind s)[0] := by
    rw [List.head?_eq_getElem?]
    simp [ByteArray.getElem_eq_getElem_data]
  by_cases h1 : (behind s).data.toList.head? = some 48 ∧ s ≠ ⟨#[48]⟩
  · have hf : isNumeral s = false := by unfold isNumeral; rw [if_neg h0, if_pos h1]
    rw [hf]
    refine numeral_nought w s _ ht hsz ?_ h1.2
    have := hhead.symm.trans h1.1
    simp at this
    rw [this]; rfl
  have hz : (behind s)[0].toNat ≠ 48 ∨ s = ⟨#[48]⟩ := by
    by_cases e : s = ⟨#[48]⟩
    · exact .inr e
    · left
      intro e2
      exact h1 ⟨hhead.trans (congrArg some (UInt8.toNat_inj.1 e2)), e⟩
  have hv : isNumeral s = (behind s).data.toList.all digit := by unfold isNumeral; rw [if_neg h0, if_neg h1]
  have hidx : ∀ j (h : j < (behind s).size), (behind s)[j] = (behind s).data.toList[j]'(by rw [Array.length_toList]; exact h) := by intro j h; simp [ByteArray.getElem_eq_getElem_data]
  by_cases h2 : ∀ j (h : j < (behind s).size), 48 ≤ (behind s)[j].toNat ∧ (behind s)[j].toNat ≤ 57
  · have ht' : isNumeral s = true := by
      rw [hv, List.all_eq_true]
      intro b hb
      obtain ⟨j, hj, rfl⟩ := List.mem_iff_getElem.1 hb
      have := h2 j (by rw [Array.length_toList] at hj; exact hj)
      rw [hidx j (by rw [Array.length_toList] at hj; exact hj)] at this
      simp only [digit, Bool.and_eq_true, decide_eq_true_eq]
      exact this
    rw [ht']
    exact numeral_ok w s _ ht (by omega) hsz hz h2
  · have hex : ∃ k0, ∃ h : k0 < (behind s).size, (∀ j (h : j < (behind s).size), j < k0 → 48 ≤ (behind s)[j].toNat ∧ (behind s)[j].toNat ≤ 57) ∧ ((behind s)[k0].toNat < 48 ∨ 57 < (behind s)[k0].toNat) := by
      have : ∀ n, (∀ j (h : j < (behind s).size), j < n → 48 ≤ (behind s)[j].toNat ∧ (behind s)[j].toNat ≤ 57) ∨ ∃ k0, ∃ h : k0 < (behind s).size, (∀ j (h : j < (behind s).size), j < k0 → 48 ≤ (behind s)[j].toNat ∧ (behind s)[j].toNat ≤ 57) ∧ ((behind s)[k0].toNat < 48 ∨ 57 < (behind s)[k0].toNat) := by
        intro n
        induction n with
        | zero => exact .inl (fun j h hj => absurd hj (Nat.not_lt_zero _))
        | succ n ih =>
          rcases ih with ih | ih
          · by_cases hn : n < (behind s).size
            · by_cases hg : 48 ≤ (behind s)[n].toNat ∧ (behind s)[n].toNat ≤ 57
              · left
                intro j h hj
                by_cases e : j = n
                · subst e; exact hg
                · exact ih j h (by omega)
              · exact .inr ⟨n, hn, ih, by omega⟩
            · exact .inl (fun j h hj => ih j h (by omega))
          · exact .inr ih
      rcases this (behind s).size with h | h
      · exact absurd (fun j h' => h j h' h') h2
      · exact h
    obtain ⟨k0, hk0, hd, hb⟩ := hex
    have ht' : isNumeral s = false := by
      rw [hv]
      cases hc : (behind s).data.toList.all digit with
      | false => rfl
      | true =>
        rw [List.all_eq_true] at hc
        have := hc ((behind s)[k0]) (by rw [hidx k0 hk0]; exact List.getElem_mem _)
        simp [digit] at this
        omega
    rw [ht']
    exact numeral_bad w s _ ht (by omega) k0 hk0 hz hd hb

set_option maxRecDepth 100000 in
set_option maxHeartbeats 1000000 in
theorem number_no (w : World) (s : ByteArray) (hs : s.size < 4294967281) (hn : isNumeral s = false) :
    Calls Tryz.prog 201 #[.string s] w fun e w' => e = .returned (.tuple #[.int .i64 0, .bool false]) ∧ Below w.heap.size w w' := by
  go_enter Tryz.func201, Tryz.ntmps201
  go_wp2_with fail
  refine (numeral_any w s hs).mono ?_
  rintro e w' ⟨rfl, rfl⟩
  rw [hn]
  go_wp2
  go_ret2
  exact ⟨rfl, Below.refl _ _⟩

set_option maxRecDepth 100000 in
set_option maxHeartbeats 1000000 in
theorem number_yes (w : World) (s : ByteArray) (hs : s.size < 4294967281) (hn : isNumeral s = true) (v : Int) (hv : Hid (Lib.parseIntB 64 s.data.toList = .ok v)) :
    Calls Tryz.prog 201 #[.string s] w fun e w' => e = .returned (.tuple #[.int .i64 v, .bool true]) ∧ Below w.heap.size w w' := by
  go_enter Tryz.func201, Tryz.ntmps201
  go_wp2_with fail
  refine (numeral_any w s hs).mono ?_
  rintro e w' ⟨rfl, rfl⟩
  rw [hn]
  go_wp2_with fail
  refine (Tryz.strconv_ParseInt_10_at64_ok s (by omega) v hv.out _).mono ?_
  rintro e w2 ⟨rfl, h2⟩
  have HB : Hid (Below w'.heap.size w' w2) := by
    rcases h2 with rfl | ⟨u, rfl⟩
    · exact Below.refl _ _
    · exact Lib.bytesWorld_below _ _ _
  clear h2
  go_wp2
  go_ret2
  exact ⟨rfl, HB.out⟩

set_option maxRecDepth 100000 in
set_option maxHeartbeats 1000000 in
/-- The library finds an error. -/
theorem number_err (w : World) (s : ByteArray) (hs : s.size < 4294967281) (hn : isNumeral s = true)
    (hc : Hid (Calls Tryz.prog 228 #[.string s, .int .i64 10, .int .i64 64] w fun e w' => ∃ x te N, e = .returned (.tuple #[.int .i64 x, .iface te (ptr N)]) ∧ Below w.heap.size w w')) :
    Calls Tryz.prog 201 #[.string s] w fun e w' => e = .returned (.tuple #[.int .i64 0, .bool false]) ∧ Below w.heap.size w w' := by
  go_enter Tryz.func201, Tryz.ntmps201
  go_wp2_with fail
  refine (numeral_any w s hs).mono ?_
  rintro e w' ⟨rfl, rfl⟩
  rw [hn]
  go_wp2_with fail
  refine hc.out.mono ?_
  rintro e w2 ⟨x, te, N, rfl, h2⟩
  have HB := hid h2
  clear h2 hc
  go_wp2
  go_ret2
  exact ⟨rfl, HB.out⟩

theorem number_any {w : World} (hE : Env w) (s : ByteArray) (hs : s.size < 4294967281) :
    Calls Tryz.prog 201 #[.string s] w fun e w' => e = .returned (.tuple #[.int .i64 ((numVal s).getD 0), .bool (numVal s).isSome]) ∧ Below w.heap.size w w' := by
  cases hn : isNumeral s with
  | false =>
    have e : numVal s = none := by unfold numVal; simp [hn]
    rw [e]
    exact number_no w s hs hn
  | true =>
    cases hp : Lib.parseIntB 64 s.data.toList with
    | ok v =>
      have e : numVal s = some v := by unfold numVal; simp [hn, hp]
      rw [e]
      exact number_yes w s hs hn v hp
    | «syntax» =>
      have e : numVal s = none := by unfold numVal; simp [hn, hp]
      rw [e]
      obtain ⟨ev, h1, h2⟩ := hE.es
      refine number_err w s hs hn ((Tryz.strconv_ParseInt_10_at64_syntax s (by omega) hp ev w h1 h2).mono ?_)
      rintro e w' ⟨N, he, _, _, hb⟩
      exact ⟨_, _, N, he, hb⟩
    | range =>
      have e : numVal s = none := by unfold numVal; simp [hn, hp]
      rw [e]
      obtain ⟨ev, h1, h2⟩ := hE.er
      refine number_err w s hs hn ((Tryz.strconv_ParseInt_10_at64_range s (by omega) hp ev w h1 h2).mono ?_)
      rintro e w' ⟨N, he, _, _, hb⟩
      exact ⟨_, _, N, he, hb⟩

/-- The register that a word names. -/
def regVal (s : ByteArray) : Option Nat := match s.data.toList with
  | [a, b] => if a = 114 ∧ 48 ≤ b.toNat ∧ b.toNat < 56 then some (b.toNat - 48) else none
  | _ => none

set_option maxRecDepth 100000 in
set_option maxHeartbeats 1000000 in
theorem registerNamed_second (w : World) (b : UInt8) (hb : b.toNat < 48 ∨ 56 ≤ b.toNat) :
    Calls Tryz.prog 200 #[.string ⟨#[114, b]⟩] w fun e w' => e = .returned (.tuple #[.int .i64 0, .bool false]) ∧ w' = w := by
  rcases hb with hb | hb
  · have hb' : (((⟨#[114, b]⟩ : ByteArray)[1]'(by show 1 < 2; omega)).toNat : Int) < 48 := by show (b.toNat : Int) < 48; omega
    go_enter Tryz.func200, Tryz.ntmps200
    go_wp2
    go_ret2
    exact ⟨rfl, rfl⟩
  · have hb' : ¬ (((⟨#[114, b]⟩ : ByteArray)[1]'(by show 1 < 2; omega)).toNat : Int) < 48 := by show ¬ (b.toNat : Int) < 48; omega
    have hb2 : ¬ (((⟨#[114, b]⟩ : ByteArray)[1]'(by show 1 < 2; omega)).toNat : Int) < 56 := by show ¬ (b.toNat : Int) < 56; omega
    go_enter Tryz.func200, Tryz.ntmps200
    go_wp2
    go_ret2
    exact ⟨rfl, rfl⟩

theorem registerNamed_any (w : World) (s : ByteArray) :
    Calls Tryz.prog 200 #[.string s] w fun e w' => e = .returned (.tuple #[.int .i64 ((regVal s).getD 0), .bool (regVal s).isSome]) ∧ w' = w := by
  obtain ⟨⟨l⟩⟩ := s
  by_cases h : l.length = 2
  · match l, h with
    | [a, b], _ =>
      by_cases ha : a = 114
      · subst ha
        by_cases hb : 48 ≤ b.toNat ∧ b.toNat < 56
        · have e : regVal ⟨⟨[114, b]⟩⟩ = some (b.toNat - 48) := by show (if _ then _ else _) = _; rw [if_pos ⟨rfl, hb⟩]
          rw [e]
          have hbb : b = UInt8.ofNat (48 + (b.toNat - 48)) := by rw [show 48 + (b.toNat - 48) = b.toNat by omega]; simp
          have k := registerNamed_ok w (b.toNat - 48) (by omega)
          rw [← hbb] at k
          exact k
        · have e : regVal ⟨⟨[114, b]⟩⟩ = none := by show (if _ then _ else _) = _; rw [if_neg (fun h => hb h.2)]
          rw [e]
          exact registerNamed_second w b (by omega)
      · have e : regVal ⟨⟨[a, b]⟩⟩ = none := by show (if _ then _ else _) = _; rw [if_neg (fun h => ha h.1)]
        rw [e]
        exact registerNamed_first w a b ha
  · have e : regVal ⟨⟨l⟩⟩ = none := by
      show (match l with | [a, b] => _ | _ => none) = none
      match l, h with
      | [], _ => rfl
      | [_], _ => rfl
      | _ :: _ :: _ :: _, _ => rfl
    rw [e]
    exact registerNamed_size w _ (by show l.toArray.size ≠ 2; simpa using h)
end Go.Proofs.YtfhkfnoajbbfdaaGreatDoor

/- The readers of a line's words, whatever these are. -/
namespace Go.Proofs.YtfhkfnoajbbfdaaGreatDoor
open Go.RowKit

/-- Not too many words, none too long. -/
def SzOk (ws : List ByteArray) : Prop := ws.length < 1000000 ∧ ∀ u ∈ ws, u.size < 4294967281

theorem SzOk.tail {u : ByteArray} {ws : List ByteArray} (h : SzOk (u :: ws)) : SzOk ws := ⟨by have := h.1; simp at this; omega, fun v hv => h.2 v (List.mem_cons_of_mem _ hv)⟩
theorem SzOk.head {u : ByteArray} {ws : List ByteArray} (h : SzOk (u :: ws)) : u.size < 4294967281 := h.2 u (List.mem_cons_self)
theorem SzOk.len {u : ByteArray} {ws : List ByteArray} (h : SzOk (u :: ws)) : ws.length < 1000000 := h.tail.1

def gReg : List ByteArray → Option (Nat × List ByteArray)
  | [] => none
  | u :: ws => (regVal u).map fun r => (r, ws)
def gNum : List ByteArray → Option (Int × List ByteArray)
  | [] => none
  | u :: ws => (numVal u).map fun v => (v, ws)
def gVal : List ByteArray → Option (Vl × List ByteArray)
  | [] => none
  | u :: ws => match regVal u with
    | some r => some (⟨true, r⟩, ws)
    | none => (numVal u).map fun v => (⟨false, v⟩, ws)
def gIn (lo hi : Int) (ws : List ByteArray) : Option (Int × List ByteArray) := (gNum ws).bind fun p => if lo ≤ p.1 ∧ p.1 ≤ hi then some p else none
def gCell (ws : List ByteArray) : Option ((Vl × Int) × List ByteArray) := (gVal ws).bind fun p => (gNum p.2).map fun q => ((p.1, q.1), q.2)

section
variable {w : World} {bl bw : Nat} {n : Int} {ws : List ByteArray}

set_option maxRecDepth 100000 in
set_option maxHeartbeats 1000000 in
theorem readRegister_tot (h : LineAt w bl n bw ws) (hz : SzOk ws) :
    Calls Tryz.prog 165 #[ptr bl] w fun e w' => Rds bl n bw w ((gReg ws).map fun p => (.int .i64 p.1, p.2)) e w' := by
  have H := hid h
  clear h
  cases ws with
  | nil =>
    go_enter Tryz.func165, Tryz.ntmps165
    go_wp2_with fail
    refine (word_none H.out).mono ?_
    rintro e w1 ⟨bf, rfl, h1⟩
    exact ⟨rfl, bf, rfl, h1⟩
  | cons u ws =>
    cases hr : regVal u with
    | some r =>
      have e : ((gReg (u :: ws)).map fun p => ((.int .i64 p.1 : Value), p.2)) = some (.int .i64 r, ws) := by simp [gReg, hr]
      rw [e]
      go_enter Tryz.func165, Tryz.ntmps165
      go_wp2_with fail
      refine (word_ok H.out hz.len).mono ?_
      rintro e w1 ⟨rfl, h1, c1⟩
      have H1 := hid h1
      have C1 := hid c1
      clear h1 c1
      go_wp2_with fail
      refine (registerNamed_any w1 u).mono ?_
      rintro e w2 ⟨rfl, rfl⟩
      rw [hr]
      go_wp2
      go_ret
      exact ⟨rfl, H1.out, C1.out⟩
    | none =>
      have e : ((gReg (u :: ws)).map fun p => ((.int .i64 p.1 : Value), p.2)) = none := by simp [gReg, hr]
      rw [e]
      go_enter Tryz.func165, Tryz.ntmps165
      go_wp2_with fail
      refine (word_ok H.out hz.len).mono ?_
      rintro e w1 ⟨rfl, h1, c1⟩
      have H1 := hid h1
      have C1 := hid c1
      clear h1 c1
      go_wp2_with fail
      refine (registerNamed_any w1 u).mono ?_
      rintro e w2 ⟨rfl, rfl⟩
      rw [hr]
      go_wp2_with fail
      refine (fail_any H1.out 2).mono ?_
      intro e w3 h3
      obtain ⟨bf, rfl, h4⟩ := h3.after C1.out
      exact ⟨rfl, bf, rfl, h4⟩

set_option maxRecDepth 100000 in
set_option maxHeartbeats 1000000 in
theorem lineNumber_tot (h : LineAt w bl n bw ws) (hE : Hid (Env w)) (hbl : 10 ≤ bl) (hz : SzOk ws) :
    Calls Tryz.prog 202 #[ptr bl] w fun e w' => Rds bl n bw w ((gNum ws).map fun p => (.int .i64 p.1, p.2)) e w' := by
  have H := hid h
  clear h
  cases ws with
  | nil =>
    go_enter Tryz.func202, Tryz.ntmps202
    go_wp2_with fail
    refine (word_none H.out).mono ?_
    rintro e w1 ⟨bf, rfl, h1⟩
    exact ⟨rfl, bf, rfl, h1⟩
  | cons u ws =>
    cases hr : numVal u with
    | some r =>
      have e : ((gNum (u :: ws)).map fun p => ((.int .i64 p.1 : Value), p.2)) = some (.int .i64 r, ws) := by simp [gNum, hr]
      rw [e]
      go_enter Tryz.func202, Tryz.ntmps202
      go_wp2_with fail
      refine (word_ok H.out hz.len).mono ?_
      rintro e w1 ⟨rfl, h1, c1⟩
      have H1 := hid h1
      have C1 := hid c1
      clear h1 c1
      go_wp2_with fail
      refine (number_any (hE.out.line C1.out hbl) u hz.head).mono ?_
      rintro e w2 ⟨rfl, b2⟩
      have H2 := hid (H1.out.below b2)
      have C2 := hid (C1.out.trans (Chg.of_below b2))
      clear b2 H1 C1
      rw [hr]
      go_wp2
      go_ret
      exact ⟨rfl, H2.out, C2.out⟩
    | none =>
      have e : ((gNum (u :: ws)).map fun p => ((.int .i64 p.1 : Value), p.2)) = none := by simp [gNum, hr]
      rw [e]
      go_enter Tryz.func202, Tryz.ntmps202
      go_wp2_with fail
      refine (word_ok H.out hz.len).mono ?_
      rintro e w1 ⟨rfl, h1, c1⟩
      have H1 := hid h1
      have C1 := hid c1
      clear h1 c1
      go_wp2_with fail
      refine (number_any (hE.out.line C1.out hbl) u hz.head).mono ?_
      rintro e w2 ⟨rfl, b2⟩
      have H2 := hid (H1.out.below b2)
      have C2 := hid (C1.out.trans (Chg.of_below b2))
      clear b2 H1 C1
      rw [hr]
      go_wp2_with fail
      refine (fail_any H2.out 2).mono ?_
      intro e w3 h3
      obtain ⟨bf, rfl, h4⟩ := h3.after C2.out
      exact ⟨rfl, bf, rfl, h4⟩

set_option maxRecDepth 100000 in
set_option maxHeartbeats 1000000 in
theorem readValue_tot (h : LineAt w bl n bw ws) (hE : Hid (Env w)) (hbl : 10 ≤ bl) (hz : SzOk ws) :
    Calls Tryz.prog 166 #[ptr bl] w fun e w' => Rds bl n bw w ((gVal ws).map fun p => (encVl p.1, p.2)) e w' := by
  have H := hid h
  clear h
  cases ws with
  | nil =>
    go_enter Tryz.func166, Tryz.ntmps166
    go_wp2_with fail
    refine (word_none H.out).mono ?_
    rintro e w1 ⟨bf, rfl, h1⟩
    exact ⟨rfl, bf, rfl, h1⟩
  | cons u ws =>
    cases hr : regVal u with
    | some r =>
      have e : ((gVal (u :: ws)).map fun p => (encVl p.1, p.2)) = some (.iface 300 (.int .i64 r), ws) := by simp [gVal, hr, encVl]
      rw [e]
      go_enter Tryz.func166, Tryz.ntmps166
      go_wp2_with fail
      refine (word_ok H.out hz.len).mono ?_
      rintro e w1 ⟨rfl, h1, c1⟩
      have H1 := hid h1
      have C1 := hid c1
      clear h1 c1
      go_wp2_with fail
      refine (registerNamed_any w1 u).mono ?_
      rintro e w2 ⟨rfl, rfl⟩
      rw [hr]
      go_wp2
      go_ret
      exact ⟨rfl, H1.out, C1.out⟩
    | none =>
      cases hv : numVal u with
      | some v =>
        have e : ((gVal (u :: ws)).map fun p => (encVl p.1, p.2)) = some (.iface 378 (.int .i64 v), ws) := by simp [gVal, hr, hv, encVl]
        rw [e]
        go_enter Tryz.func166, Tryz.ntmps166
        go_wp2_with fail
        refine (word_ok H.out hz.len).mono ?_
        rintro e w1 ⟨rfl, h1, c1⟩
        have H1 := hid h1
        have C1 := hid c1
        clear h1 c1
        go_wp2_with fail
        refine (registerNamed_any w1 u).mono ?_
        rintro e w2 ⟨rfl, rfl⟩
        rw [hr]
        go_wp2_with fail
        refine (number_any (hE.out.line C1.out hbl) u hz.head).mono ?_
        rintro e w2 ⟨rfl, b2⟩
        have H2 := hid (H1.out.below b2)
        have C2 := hid (C1.out.trans (Chg.of_below b2))
        clear b2 H1 C1
        rw [hv]
        go_wp2
        go_ret
        exact ⟨rfl, H2.out, C2.out⟩
      | none =>
        have e : ((gVal (u :: ws)).map fun p => (encVl p.1, p.2)) = none := by simp [gVal, hr, hv]
        rw [e]
        go_enter Tryz.func166, Tryz.ntmps166
        go_wp2_with fail
        refine (word_ok H.out hz.len).mono ?_
        rintro e w1 ⟨rfl, h1, c1⟩
        have H1 := hid h1
        have C1 := hid c1
        clear h1 c1
        go_wp2_with fail
        refine (registerNamed_any w1 u).mono ?_
        rintro e w2 ⟨rfl, rfl⟩
        rw [hr]
        go_wp2_with fail
        refine (number_any (hE.out.line C1.out hbl) u hz.head).mono ?_
        rintro e w2 ⟨rfl, b2⟩
        have H2 := hid (H1.out.below b2)
        have C2 := hid (C1.out.trans (Chg.of_below b2))
        clear b2 H1 C1
        rw [hv]
        go_wp2_with fail
        refine (fail_any H2.out 2).mono ?_
        intro e w3 h3
        obtain ⟨bf, rfl, h4⟩ := h3.after C2.out
        exact ⟨rfl, bf, rfl, h4⟩
end
end Go.Proofs.YtfhkfnoajbbfdaaGreatDoor

/- The readers, each way apart. -/
namespace Go.Proofs.YtfhkfnoajbbfdaaGreatDoor
open Go.RowKit

theorem encVl_form (x : Vl) : ∃ T p, encVl x = .iface T p := by
  unfold encVl
  split
  · exact ⟨_, _, rfl⟩
  · exact ⟨_, _, rfl⟩

section
variable {w : World} {bl bw : Nat} {n : Int} {ws ws1 : List ByteArray} {x : Vl} {T : TypeId} {p : Value} {r : Nat} {v : Int}

theorem gReg_sz (hv : gReg ws = some (r, ws1)) (hz : SzOk ws) : SzOk ws1 := by
  cases ws with
  | nil => simp [gReg] at hv
  | cons u ws => simp [gReg] at hv; obtain ⟨_, _, _, e⟩ := hv; exact e ▸ hz.tail
theorem gNum_sz (hv : gNum ws = some (v, ws1)) (hz : SzOk ws) : SzOk ws1 := by
  cases ws with
  | nil => simp [gNum] at hv
  | cons u ws => simp [gNum] at hv; obtain ⟨_, _, _, e⟩ := hv; exact e ▸ hz.tail
theorem gVal_sz (hv : gVal ws = some (x, ws1)) (hz : SzOk ws) : SzOk ws1 := by
  cases ws with
  | nil => simp [gVal] at hv
  | cons u ws =>
    simp only [gVal] at hv
    split at hv
    · simp at hv; exact hv.2 ▸ hz.tail
    · simp at hv; obtain ⟨_, _, _, e⟩ := hv; exact e ▸ hz.tail
theorem gIn_sz {lo hi : Int} (hv : gIn lo hi ws = some (v, ws1)) (hz : SzOk ws) : SzOk ws1 := by
  unfold gIn at hv
  cases h : gNum ws with
  | none => simp [h] at hv
  | some q =>
    simp [h] at hv
    exact gNum_sz (v := q.1) (by rw [h]; exact congrArg some (Prod.ext rfl (by rw [hv.2]))) hz
theorem gCell_sz {c : Vl × Int} (hv : gCell ws = some (c, ws1)) (hz : SzOk ws) : SzOk ws1 := by
  unfold gCell at hv
  cases h : gVal ws with
  | none => simp [h] at hv
  | some q =>
    cases h2 : gNum q.2 with
    | none => simp [h, h2] at hv
    | some q2 =>
      simp [h, h2] at hv
      exact gNum_sz (v := q2.1) (by rw [h2]; exact congrArg some (Prod.ext rfl hv.2)) (gVal_sz (x := q.1) (ws1 := q.2) h hz)

theorem rr_ok (h : LineAt w bl n bw ws) (hz : SzOk ws) (hv : gReg ws = some (r, ws1)) :
    Calls Tryz.prog 165 #[ptr bl] w fun e w' => e = .returned (.int .i64 r) ∧ LineAt w' bl n bw ws1 ∧ Chg (lineM bl) w w' := by
  have k := readRegister_tot h hz
  rw [hv] at k
  exact k
theorem rr_no (h : LineAt w bl n bw ws) (hz : SzOk ws) (hv : gReg ws = none) :
    Calls Tryz.prog 165 #[ptr bl] w fun e w' => Fails 2 n bl w e w' := by
  have k := readRegister_tot h hz
  rw [hv] at k
  exact k
theorem rv_ok (h : LineAt w bl n bw ws) (hE : Env w) (hbl : 10 ≤ bl) (hz : SzOk ws) (hv : gVal ws = some (x, ws1)) (hT : encVl x = .iface T p) :
    Calls Tryz.prog 166 #[ptr bl] w fun e w' => e = .returned (.iface T p) ∧ LineAt w' bl n bw ws1 ∧ Chg (lineM bl) w w' := by
  have k := readValue_tot h hE hbl hz
  rw [hv, ← hT] at *
  exact k
theorem rv_no (h : LineAt w bl n bw ws) (hE : Env w) (hbl : 10 ≤ bl) (hz : SzOk ws) (hv : gVal ws = none) :
    Calls Tryz.prog 166 #[ptr bl] w fun e w' => Fails 2 n bl w e w' := by
  have k := readValue_tot h hE hbl hz
  rw [hv] at k
  exact k
theorem rn_ok (h : LineAt w bl n bw ws) (hE : Env w) (hbl : 10 ≤ bl) (hz : SzOk ws) (hv : gNum ws = some (v, ws1)) :
    Calls Tryz.prog 202 #[ptr bl] w fun e w' => e = .returned (.int .i64 v) ∧ LineAt w' bl n bw ws1 ∧ Chg (lineM bl) w w' := by
  have k := lineNumber_tot h hE hbl hz
  rw [hv] at k
  exact k
theorem rn_no (h : LineAt w bl n bw ws) (hE : Env w) (hbl : 10 ≤ bl) (hz : SzOk ws) (hv : gNum ws = none) :
    Calls Tryz.prog 202 #[ptr bl] w fun e w' => Fails 2 n bl w e w' := by
  have k := lineNumber_tot h hE hbl hz
  rw [hv] at k
  exact k

set_option maxRecDepth 100000 in
set_option maxHeartbeats 1000000 in
theorem rw_ok {lo hi : Int} (h : LineAt w bl n bw ws) (hE : Env w) (hbl : 10 ≤ bl) (hz : SzOk ws) (hv : gIn lo hi ws = some (v, ws1)) :
    Calls Tryz.prog 169 #[ptr bl, .int .i64 lo, .int .i64 hi] w fun e w' => e = .returned (.int .i64 v) ∧ LineAt w' bl n bw ws1 ∧ Chg (lineM bl) w w' := by
  have H := hid h
  have HE := hid hE
  clear h hE
  obtain ⟨hn, h1, h2⟩ : gNum ws = some (v, ws1) ∧ ¬ v < lo ∧ ¬ hi < v := by
    unfold gIn at hv
    cases h : gNum ws with
    | none => simp [h] at hv
    | some q =>
      simp [h] at hv
      obtain ⟨⟨a, b⟩, rfl⟩ := hv
      exact ⟨rfl, by omega, by omega⟩
  go_enter Tryz.func169, Tryz.ntmps169
  go_wp2_with fail
  refine (rn_ok H.out HE.out hbl hz hn).mono ?_
  rintro e w1 ⟨rfl, h3, c1⟩
  have H1 := hid h3
  have C1 := hid c1
  clear h3 c1
  go_wp2
  go_ret
  exact ⟨rfl, H1.out, C1.out⟩

set_option maxRecDepth 100000 in
set_option maxHeartbeats 1000000 in
theorem rw_no {lo hi : Int} (h : LineAt w bl n bw ws) (hE : Env w) (hbl : 10 ≤ bl) (hz : SzOk ws) (hv : gIn lo hi ws = none) :
    Calls Tryz.prog 169 #[ptr bl, .int .i64 lo, .int .i64 hi] w fun e w' => Fails 2 n bl w e w' := by
  have H := hid h
  have HE := hid hE
  clear h hE
  cases hn : gNum ws with
  | none =>
    go_enter Tryz.func169, Tryz.ntmps169
    go_wp2_with fail
    refine (rn_no H.out HE.out hbl hz hn).mono ?_
    rintro e w1 ⟨bf, rfl, h1⟩
    exact ⟨rfl, bf, rfl, h1⟩
  | some q =>
    obtain ⟨v, ws1⟩ := q
    have hq : v < lo ∨ (¬ v < lo ∧ hi < v) := by
      simp [gIn, hn] at hv
      omega
    rcases hq with hq | ⟨hq1, hq2⟩
    all_goals
      go_enter Tryz.func169, Tryz.ntmps169
      go_wp2_with fail
      refine (rn_ok H.out HE.out hbl hz hn).mono ?_
      rintro e w1 ⟨rfl, h3, c1⟩
      have H1 := hid h3
      have C1 := hid c1
      clear h3 c1
      go_wp2_with fail
      refine (fail_any H1.out 2).mono ?_
      intro e w3 h3
      obtain ⟨bf, rfl, h4⟩ := h3.after C1.out
      exact ⟨rfl, bf, rfl, h4⟩

set_option maxRecDepth 100000 in
set_option maxHeartbeats 1000000 in
theorem rp_ok (h : LineAt w bl n bw ws) (hE : Env w) (hbl : 10 ≤ bl) (hz : SzOk ws) (hv : gIn 0 4000 ws = some (v, ws1)) :
    Calls Tryz.prog 168 #[ptr bl] w fun e w' => e = .returned (.int .i64 v) ∧ LineAt w' bl n bw ws1 ∧ Chg (lineM bl) w w' := by
  have H := hid h
  have HE := hid hE
  clear h hE
  have hb : 0 ≤ v ∧ v ≤ 4000 := by
    unfold gIn at hv
    cases h : gNum ws with
    | none => simp [h] at hv
    | some q =>
      simp [h] at hv
      obtain ⟨⟨a, b⟩, rfl⟩ := hv
      exact ⟨a, b⟩
  go_enter Tryz.func168, Tryz.ntmps168
  go_wp2_with fail
  refine (rw_ok H.out HE.out hbl hz hv).mono ?_
  rintro e w1 ⟨rfl, h3, c1⟩
  have H1 := hid h3
  have C1 := hid c1
  clear h3 c1
  go_wp2
  go_ret
  exact ⟨rfl, H1.out, C1.out⟩

set_option maxRecDepth 100000 in
set_option maxHeartbeats 1000000 in
theorem rp_no (h : LineAt w bl n bw ws) (hE : Env w) (hbl : 10 ≤ bl) (hz : SzOk ws) (hv : gIn 0 4000 ws = none) :
    Calls Tryz.prog 168 #[ptr bl] w fun e w' => Fails 2 n bl w e w' := by
  have H := hid h
  have HE := hid hE
  clear h hE
  go_enter Tryz.func168, Tryz.ntmps168
  go_wp2_with fail
  refine (rw_no H.out HE.out hbl hz hv).mono ?_
  rintro e w1 ⟨bf, rfl, h1⟩
  exact ⟨rfl, bf, rfl, h1⟩

set_option maxRecDepth 100000 in
set_option maxHeartbeats 1000000 in
theorem rc_ok (h : LineAt w bl n bw ws) (hE : Env w) (hbl : 10 ≤ bl) (hz : SzOk ws) (hv : gCell ws = some ((x, v), ws1)) (hT : encVl x = .iface T p) :
    Calls Tryz.prog 167 #[ptr bl] w fun e w' => e = .returned (.agg #[.iface T p, .int .i64 v]) ∧ LineAt w' bl n bw ws1 ∧ Chg (lineM bl) w w' := by
  have H := hid h
  have HE := hid hE
  clear h hE
  obtain ⟨ws2, h1, h2⟩ : ∃ ws2, gVal ws = some (x, ws2) ∧ gNum ws2 = some (v, ws1) := by
    unfold gCell at hv
    cases h : gVal ws with
    | none => simp [h] at hv
    | some q =>
      cases h2 : gNum q.2 with
      | none => simp [h, h2] at hv
      | some q2 =>
        simp [h, h2] at hv
        obtain ⟨⟨rfl, rfl⟩, rfl⟩ := hv
        exact ⟨q.2, rfl, h2⟩
  go_enter Tryz.func167, Tryz.ntmps167
  go_wp2_with fail
  have hb0 : Below w.heap.size w (w.alloc (.cells #[.nilIface, .int .i64 0] 310)) := (Below.refl _ w).alloc (Nat.le_refl _) _
  refine (rv_ok (H.out.below hb0) (HE.out.below hb0) hbl hz h1 hT).mono ?_
  rintro e w1 ⟨rfl, g1, c1⟩
  have hbn : ¬ lineM bl w.heap.size 0 ∧ ¬ lineM bl w.heap.size 1 := ⟨fun e => by have := H.out.lt; omega, fun e => by have := H.out.lt; omega⟩
  have hsz : w.heap.size < (w.alloc (.cells #[.nilIface, .int .i64 0] 310)).heap.size := by show w.heap.size < (w.heap.push _).size; rw [Array.size_push]; omega
  have k0 := (c1.cell w.heap.size 0 hsz hbn.1).trans (World.cell?_alloc_new w #[.nilIface, .int .i64 0] 310 0)
  have k1 := (c1.cell w.heap.size 1 hsz hbn.2).trans (World.cell?_alloc_new w #[.nilIface, .int .i64 0] 310 1)
  have f0 := c1.frozen w.heap.size 0 hsz
  have f1 := c1.frozen w.heap.size 1 hsz
  have H1 := hid g1
  have C1 := hid ((Chg.of_below hb0).trans c1)
  have Z1 := hid (Nat.lt_of_lt_of_le hsz c1.size)
  clear g1 c1 hb0
  go_wp2_with fail
  refine (rn_ok H1.out (HE.out.line C1.out hbl) hbl (gVal_sz h1 hz) h2).mono ?_
  rintro e w2 ⟨rfl, g2, c2⟩
  have k0' := (c2.cell w.heap.size 0 Z1.out hbn.1).trans k0
  have k1' := (c2.cell w.heap.size 1 Z1.out hbn.2).trans k1
  have f0' := (c2.frozen w.heap.size 0 Z1.out).trans f0
  have f1' := (c2.frozen w.heap.size 1 Z1.out).trans f1
  simp at k0' k1' f0' f1'
  have H2 := hid g2
  have C2 := hid (C1.out.trans c2)
  clear g2 c2 H1 C1 k0 k1 f0 f1
  go_wp2
  have d1 : Chg (fun k _ => k = w.heap.size) w2 ((w2.setCell ⟨w.heap.size, 0, none⟩ (.iface T p)).setCell ⟨w.heap.size, 1, none⟩ (.int .i64 v)) :=
    ((Chg.refl (fun k _ => k = w.heap.size) w2).setCell (b := w.heap.size) (o := 0) (fun _ => rfl) _).setCell (b := w.heap.size) (o := 1) (fun _ => rfl) _
  have d2 : Chg (lineM bl) w ((w2.setCell ⟨w.heap.size, 0, none⟩ (.iface T p)).setCell ⟨w.heap.size, 1, none⟩ (.int .i64 v)) :=
    (C2.out.setCell (fun h => absurd h (Nat.lt_irrefl _)) _).setCell (fun h => absurd h (Nat.lt_irrefl _)) _
  have g1 := H2.out.keep d1 (fun _ e => by have := H.out.lt; omega) (fun _ e => by have := H.out.ltw; omega)
  have e0 : ((w2.setCell ⟨w.heap.size, 0, none⟩ (.iface T p)).setCell ⟨w.heap.size, 1, none⟩ (.int .i64 v)).cell? ⟨w.heap.size, 0, none⟩ = some (.iface T p) :=
    (cell_set_ne (.inr (by decide))).trans (cell_set_eq k0' rfl)
  have e1 : ((w2.setCell ⟨w.heap.size, 0, none⟩ (.iface T p)).setCell ⟨w.heap.size, 1, none⟩ (.int .i64 v)).cell? ⟨w.heap.size, 1, none⟩ = some (.int .i64 v) :=
    cell_set_eq ((cell_set_ne (.inr (by decide))).trans k1') rfl
  generalize (w2.setCell ⟨w.heap.size, 0, none⟩ (.iface T p)).setCell ⟨w.heap.size, 1, none⟩ (.int .i64 v) = w3 at *
  refine bodyPost_ret (v := .agg #[.iface T p, .int .i64 v]) (by simp [results, Tryz.results167, go_sem, e0, e1]) rfl ⟨rfl, g1, d2⟩

set_option maxRecDepth 100000 in
set_option maxHeartbeats 1000000 in
theorem rc_no (h : LineAt w bl n bw ws) (hE : Env w) (hbl : 10 ≤ bl) (hz : SzOk ws) (hv : gCell ws = none) :
    Calls Tryz.prog 167 #[ptr bl] w fun e w' => Fails 2 n bl w e w' := by
  have H := hid h
  have HE := hid hE
  clear h hE
  cases h1 : gVal ws with
  | none =>
    go_enter Tryz.func167, Tryz.ntmps167
    go_wp2_with fail
    have hb0 : Below w.heap.size w (w.alloc (.cells #[.nilIface, .int .i64 0] 310)) := (Below.refl _ w).alloc (Nat.le_refl _) _
    refine (rv_no (H.out.below hb0) (HE.out.below hb0) hbl hz h1).mono ?_
    intro e w3 h3
    obtain ⟨bf, rfl, h4⟩ := h3.after (Chg.of_below hb0)
    exact ⟨rfl, bf, rfl, h4⟩
  | some q =>
    obtain ⟨x, ws2⟩ := q
    have h2 : gNum ws2 = none := by
      cases h2 : gNum ws2 with
      | none => rfl
      | some q2 => simp [gCell, h1, h2] at hv
    obtain ⟨T, p, hT⟩ := encVl_form x
    go_enter Tryz.func167, Tryz.ntmps167
    go_wp2_with fail
    have hb0 : Below w.heap.size w (w.alloc (.cells #[.nilIface, .int .i64 0] 310)) := (Below.refl _ w).alloc (Nat.le_refl _) _
    refine (rv_ok (H.out.below hb0) (HE.out.below hb0) hbl hz h1 hT).mono ?_
    rintro e w1 ⟨rfl, h3, c1⟩
    have H1 := hid h3
    have C1 := hid ((Chg.of_below hb0).trans c1)
    clear h3 c1 hb0
    go_wp2_with fail
    refine (rn_no H1.out (HE.out.line C1.out hbl) hbl (gVal_sz h1 hz) h2).mono ?_
    intro e w3 h3
    obtain ⟨bf, rfl, h4⟩ := h3.after C1.out
    exact ⟨rfl, bf, rfl, h4⟩
end
end Go.Proofs.YtfhkfnoajbbfdaaGreatDoor
