import Derived.Test.YtfhkfnoajbbfdabGreatDoorPart29
import Derived.Test.YtfhkfnoajbbfdabGreatDoorPart27
import Derived.Test.YtfhkfnoajbbfdabGreatDoorPart15
import Derived.Test.YtfhkfnoajbbfdabGreatDoorPart16
import Derived.Test.YtfhkfnoajbbfdabGreatDoorPart28
/- A line of a program, whatever it is: its parts. -/
namespace Go.Proofs.YtfhkfnoajbbfdabGreatDoor
open Go.RowKit

def PLR (D : Nat → Prop) (br sb bs bl : Nat) (n : Int) (w : World) (r : Except Int RS) (e : Ending) (w' : World) : Prop := match r with
  | .ok st' => e = .returned (.tuple #[]) ∧ (∃ lab' tv' ov' ms', RMach D lab' w' br sb bs tv' ov' st' ms') ∧ Chg (fun k _ => D k) w w'
  | .error er => Fails er n bl w e w'

theorem stReads_le (s : St) : (stReads s).length ≤ 2 := by
  rcases s with ⟨to, a⟩ | ⟨to, k, a, c⟩ | ⟨to, f, a⟩ | ⟨f, a, c⟩ | a | ⟨⟩ | a | n <;> simp [stReads]

/-- A statement as it was read, as it is asked. -/
theorem stAt_is {w0 w : World} {s : St} {v : Value} (h : StAt w0 w s v) : ∃ b, v = stVal s b ∧ StB w s b ∧ (stHolds s = true → HolderAt w s b ∧ w0.heap.size ≤ b) := by
  rcases s with ⟨to, a⟩ | ⟨to, k, a, c⟩ | ⟨to, f, a⟩ | ⟨f, a, c⟩ | a | ⟨⟩ | a | n
  · exact ⟨0, h, trivial, fun e => by simp [stHolds] at e⟩
  · exact ⟨0, h, trivial, fun e => by simp [stHolds] at e⟩
  · exact ⟨0, h, trivial, fun e => by simp [stHolds] at e⟩
  · exact ⟨0, h, trivial, fun e => by simp [stHolds] at e⟩
  · exact ⟨0, h, trivial, fun e => by simp [stHolds] at e⟩
  · obtain ⟨b, h1, h2, h3, h4, h5⟩ := h
    exact ⟨b, h2, trivial, fun _ => ⟨⟨h3, h4, trivial, h5⟩, h1⟩⟩
  · obtain ⟨b, h1, h2, h3, h4, h5, h6, h7⟩ := h
    exact ⟨b, h2, ⟨h6, h7⟩, fun _ => ⟨⟨h3, h4, ⟨h6, h7⟩, h5⟩, h1⟩⟩
  · obtain ⟨b, h1, h2, h3, h4, h5, h6⟩ := h
    exact ⟨b, h2, trivial, fun _ => ⟨⟨h3, h4, h6, h5⟩, h1⟩⟩

theorem isNm_sz {u : ByteArray} (h : isNm u = true) : u.size ≤ maxLen := by
  unfold isNm at h
  simp only [Bool.and_eq_true, decide_eq_true_eq] at h
  have := h.2.1
  unfold maxLen
  omega

theorem empty_sz : ByteArray.empty.size ≤ maxLen := Nat.zero_le _

section
variable {ws ws1 : List ByteArray} {x : ByteArray} {y : PV} {s : St}

theorem gNm_name (h : gNm ws = some (x, ws1)) : x.size ≤ maxLen := by
  cases ws with
  | nil => simp [gNm] at h
  | cons u us =>
    simp only [gNm] at h
    split at h
    · rename_i hu
      simp at h
      rw [← h.1]; exact isNm_sz hu
    · simp at h

theorem gPV_name (h : gPV ws = some (y, ws1)) : y.name.size ≤ maxLen := by
  cases ws with
  | nil => simp [gPV] at h
  | cons u us =>
    simp only [gPV] at h
    split at h
    · rename_i hu
      simp at h
      rw [← h.1]; exact isNm_sz hu
    · cases hn : numVal u with
      | none => simp [hn] at h
      | some v =>
        simp [hn] at h
        rw [← h.1]; exact empty_sz

theorem gAt_name (h : gAt ws = some (y, ws1)) : y.name.size ≤ maxLen := by
  cases ws with
  | nil =>
    simp [gAt] at h
    rw [← h.1]; exact empty_sz
  | cons u us =>
    simp only [gAt] at h
    split at h
    · exact gPV_name h
    · simp at h

theorem gStmt_names {u : ByteArray} (h : gStmt u ws = some (s, ws1)) : StSz s := by
  unfold gStmt at h
  split at h
  · unfold gSet at h
    cases h1 : gNm ws with
    | none => simp [h1] at h
    | some p =>
      obtain ⟨x, ws2⟩ := p
      rw [h1] at h
      simp only [Option.bind_some] at h
      cases h2 : gPV ws2 with
      | none => simp [h2] at h
      | some q =>
        obtain ⟨y, ws3⟩ := q
        rw [h2] at h
        simp only [Option.bind_some] at h
        rcases ws3 with _ | ⟨u3, ws3⟩
        · simp at h
          obtain ⟨rfl, _⟩ := h
          exact ⟨fun v hv => by simp [stReads] at hv; subst hv; exact gPV_name h2, gNm_name h1, fun f hf => by simp [stOf2] at hf⟩
        · simp only at h
          cases h3 : gOp (u3 :: ws3) with
          | none => simp [h3] at h
          | some o =>
            rw [h3] at h
            simp only [Option.bind_some] at h
            cases h4 : gPV o.2 with
            | none => simp [h4] at h
            | some r =>
              rw [h4] at h
              simp at h
              obtain ⟨rfl, _⟩ := h
              exact ⟨fun v hv => by
                simp [stReads] at hv
                rcases hv with rfl | rfl
                · exact gPV_name h2
                · exact gPV_name (y := r.1) (ws1 := r.2) h4, gNm_name h1, fun f hf => by simp [stOf2] at hf⟩
  · split at h
    · unfold gGet at h
      cases h1 : gNm ws with
      | none => simp [h1] at h
      | some p =>
        rw [h1] at h
        simp only [Option.bind_some] at h
        cases h2 : gNm p.2 with
        | none => simp [h2] at h
        | some q =>
          rw [h2] at h
          simp only [Option.bind_some] at h
          cases h3 : gAt q.2 with
          | none => simp [h3] at h
          | some r =>
            rw [h3] at h
            simp at h
            obtain ⟨rfl, _⟩ := h
            exact ⟨fun v hv => by simp [stReads] at hv; subst hv; exact gAt_name (y := r.1) (ws1 := r.2) h3, gNm_name (x := p.1) (ws1 := p.2) h1, fun f hf => by simp [stOf2] at hf; subst hf; exact gNm_name (x := q.1) (ws1 := q.2) h2⟩
    · split at h
      · unfold gPut at h
        cases h1 : gNm ws with
        | none => simp [h1] at h
        | some p =>
          rw [h1] at h
          simp only [Option.bind_some] at h
          cases h2 : gPV p.2 with
          | none => simp [h2] at h
          | some q =>
            rw [h2] at h
            simp only [Option.bind_some] at h
            cases h3 : gAt q.2 with
            | none => simp [h3] at h
            | some r =>
              rw [h3] at h
              simp at h
              obtain ⟨rfl, _⟩ := h
              exact ⟨fun v hv => by
                simp [stReads] at hv
                rcases hv with rfl | rfl
                · exact gAt_name (y := r.1) (ws1 := r.2) h3
                · exact gPV_name (y := q.1) (ws1 := q.2) h2, empty_sz, fun f hf => by simp [stOf2] at hf; subst hf; exact gNm_name (x := p.1) (ws1 := p.2) h1⟩
      · split at h
        · cases h1 : gPV ws with
          | none => simp [h1] at h
          | some p =>
            rw [h1] at h
            simp at h
            obtain ⟨rfl, _⟩ := h
            exact ⟨fun v hv => by simp [stReads] at hv; subst hv; exact gPV_name (y := p.1) (ws1 := p.2) h1, empty_sz, fun f hf => by simp [stOf2] at hf⟩
        · split at h
          · simp at h
            obtain ⟨rfl, _⟩ := h
            exact ⟨fun v hv => by simp [stReads] at hv, empty_sz, fun f hf => by simp [stOf2] at hf⟩
          · split at h
            · cases h1 : gPV ws with
              | none => simp [h1] at h
              | some p =>
                rw [h1] at h
                simp at h
                obtain ⟨rfl, _⟩ := h
                exact ⟨fun v hv => by simp [stReads] at hv; subst hv; exact gPV_name (y := p.1) (ws1 := p.2) h1, empty_sz, fun f hf => by simp [stOf2] at hf⟩
            · split at h
              · cases h1 : gIn 1 4 ws with
                | none => simp [h1] at h
                | some p =>
                  rw [h1] at h
                  simp at h
                  obtain ⟨rfl, _⟩ := h
                  exact ⟨fun v hv => by simp [stReads] at hv, empty_sz, fun f hf => by simp [stOf2] at hf⟩
              · simp at h
end

section
variable {D D0 : Nat → Prop} {lab : Nat → Nat × Nat} {w : World} {br sb bs bl bw : Nat} {n : Int} {ws : List ByteArray} {tv ov : Value} {st : RS} {ms : List HM} {k : Nat}

theorem Ok.lays (h : RMach D lab w br sb bs tv ov st ms) (hok : st.Ok k) (hk : k < 900000) {t o c : Nat} {l : List ByteArray} {ol : List Nat} (hl : st.lastT = some (t, l, c)) (ho : st.opn = ol ++ [o]) : ∃ tl, Lays st ms tl ol t o l c := by
  obtain ⟨tl, htl, hkt⟩ := lastT_some hl
  obtain ⟨l0, c0, q1, q2, q3⟩ := hok.thr t (by rw [htl]; simp)
  obtain ⟨rfl, rfl⟩ : l = l0 ∧ c = c0 := by
    have := hkt.symm.trans q1
    simpa using this
  have htlt : t < ms.length := by rw [h.len]; exact hok.ent.2.1 t (by rw [htl]; simp)
  have holt : o < ms.length := by rw [h.len]; exact hok.ent.2.2 o (by rw [ho]; simp)
  have hn := hok.tn
  rw [htl] at hn
  simp at hn
  refine ⟨tl, hok.opn, hok.ent, htl, htlt, by omega, ?_, ho, holt, q2, q3, fun x hx => ?_⟩
  · obtain ⟨x, hx, hxk⟩ := hk_some hkt
    rw [h.hsAt t htlt] at hx
    have : ms[t].h = x := by simpa using hx
    rw [this]; exact hxk
  · obtain ⟨j, hj⟩ := List.mem_iff_getElem?.1 hx
    have := hok.e14 j x hj
    omega

theorem stmt_tot (h : RMach D0 lab w br sb bs tv ov st ms) (h0 : ∀ k, D0 k → D k) (hD : ∀ k, w.heap.size ≤ k → D k) (hok : st.Ok k) (hk : k < 900000) (hL : LineAt w bl n bw ws) (s : St) (b : Nat) (hS : StB w s b) (hz : StSz s) (hB : stHolds s = true → HolderAt w s b ∧ D b ∧ ¬ D0 b) :
    Calls Tryz.prog 95 #[ptr br, ptr bl, stVal s b] w fun e w' => PLR D br sb bs bl n w (gSt st s) e w' := by
  unfold gSt
  cases hm : st.mayStand s with
  | false => exact stmt_stand h hL hok.opn s b hm
  | true =>
    simp only [Bool.true_eq_false, if_false]
    have hop : st.opn ≠ [] := by
      intro e
      have : (decide (0 < st.opn.length)) = false := by rw [e]; rfl
      rcases s with ⟨to, a⟩ | ⟨to, k, a, c⟩ | ⟨to, f, a⟩ | ⟨f, a, c⟩ | a | ⟨⟩ | a | n <;> simp [RS.mayStand, e] at hm
    obtain ⟨t, l, c, tl, hl, htl, _, _, _⟩ := Ok_lastT hok (hok.ne hop)
    obtain ⟨ol, o, ho⟩ : ∃ ol o, st.opn = ol ++ [o] := ⟨_, _, (List.dropLast_concat_getLast hop).symm⟩
    obtain ⟨tl', hy⟩ := Ok.lays h hok hk hl ho
    have hgo : st.opn.getLast? = some o := by rw [ho]; simp
    rw [hl, hgo]
    simp only
    cases hn : st.mayName l s with
    | false => exact stmt_name h hL hy s b hS hz (stReads_le s) hm hn
    | true =>
      simp only [Bool.true_eq_false, if_false]
      cases hr : st.hasRoom l c s with
      | false => exact stmt_room h hL hy s b hS hz (stReads_le s) hm hn hr
      | true =>
        simp only [Bool.true_eq_false, if_false]
        unfold RS.lay
        cases hh : stHolds s with
        | true =>
          obtain ⟨hb1, hb2, hb3⟩ := hB hh
          rw [if_pos rfl]
          refine (stmt_hold h h0 hD hy s b hS hz (stReads_le s) hm hn hr hb1 hb2 hb3 hh).mono ?_
          rintro e w' ⟨e1, ⟨lab', ov', ms', r⟩, c'⟩
          exact ⟨e1, ⟨lab', tv, ov', ms', r⟩, c'⟩
        | false =>
          rw [if_neg (by simp)]
          by_cases hq : (stTo s).toList.isEmpty = false ∧ hasL l (stTo s) = false
          · rw [if_pos hq]
            refine (stmt_new h h0 hD hy s b hS hz (stReads_le s) hm hn hr hh hq.1 hq.2).mono ?_
            rintro e w' ⟨e1, ⟨lab', ov', ms', r⟩, c'⟩
            exact ⟨e1, ⟨lab', tv, ov', ms', r⟩, c'⟩
          · rw [if_neg hq]
            have hno : (stTo s).toList.isEmpty = true ∨ ((stTo s).toList.isEmpty = false ∧ hasL l (stTo s) = true) := by
              cases h1 : (stTo s).toList.isEmpty with
              | true => exact .inl rfl
              | false =>
                right
                refine ⟨rfl, ?_⟩
                cases h2 : hasL l (stTo s) with
                | true => rfl
                | false => exact absurd ⟨h1, h2⟩ hq
            refine (stmt_old h h0 hD hy s b hS hz (stReads_le s) hm hn hr hh hno).mono ?_
            rintro e w' ⟨e1, ⟨lab', ov', ms', r⟩, c'⟩
            exact ⟨e1, ⟨lab', tv, ov', ms', r⟩, c'⟩

theorem thread_tot (h : RMach D0 lab w br sb bs tv ov st ms) (h0 : ∀ k, D0 k → D k) (hD : ∀ k, w.heap.size ≤ k → D k) (hD0 : ∀ k, D0 k → k < w.heap.size) (hok : st.Ok k) (hk : k < 900000) (hL : LineAt w bl n bw ws) :
    Calls Tryz.prog 92 #[ptr br, ptr bl] w fun e w' => PLR D br sb bs bl n w (gThread st ws) e w' := by
  unfold gThread
  rcases ws with _ | ⟨u, us⟩
  · simp only
    by_cases h1 : 1 < st.opn.length
    · rw [if_pos h1]
      exact qthread_place h hL h1
    · rw [if_neg h1]
      exact qthread_ok h hok.ent h0 hD hD0 hL (by omega) (by have := hok.tn; omega)
  · exact qthread_more hL

theorem end_tot (h : RMach D0 lab w br sb bs tv ov st ms) (h0 : ∀ k, D0 k → D k) (hok : st.Ok k) (hL : LineAt w bl n bw ws) :
    Calls Tryz.prog 93 #[ptr br, ptr bl] w fun e w' => PLR D br sb bs bl n w (gEnd st ws) e w' := by
  unfold gEnd
  rcases ws with _ | ⟨u, us⟩
  · simp only
    by_cases h1 : st.opn.length < 2
    · rw [if_pos h1]
      exact qend_place h hL h1
    · rw [if_neg h1]
      have hne : st.opn ≠ [] := fun e => by rw [e] at h1; simp at h1
      have e := (List.dropLast_concat_getLast hne).symm
      have hl : st.opn.dropLast.length + 1 = st.opn.length := by rw [List.length_dropLast]; omega
      refine (qend_ok (h.newD (D' := D) (fun k hk _ => h0 k hk)) hL st.opn.dropLast (st.opn.getLast hne) e (by omega) (by have := hok.opn.1; omega)).mono ?_
      rintro e w' ⟨e1, ⟨lab', ov', ms', r⟩, c'⟩
      exact ⟨e1, ⟨lab', tv, ov', ms', r⟩, c'⟩
  · exact qend_more hL

theorem shared_tot (h : RMach D0 lab w br sb bs tv ov st ms) (h0 : ∀ k, D0 k → D k) (hDl : D bl) (hn : ¬ D0 bl) (hok : st.Ok k) (hk : k < 900000) (hE : Hid (Env w)) (hbl : 10 ≤ bl) (hz : SzOk ws) (hL : LineAt w bl n bw ws) :
    Calls Tryz.prog 91 #[ptr br, ptr bl] w fun e w' => PLR D br sb bs bl n w (gShared st ws) e w' := by
  have hsn := hok.sn
  have hcn := hok.cn
  unfold gShared
  cases g1 : gNm ws with
  | none => exact qsh_nm hL hz g1
  | some p =>
    obtain ⟨x, us⟩ := p
    have hx := gNm_name g1
    rcases us with _ | ⟨u, us⟩
    · simp only
      by_cases h1 : 0 < st.threads.length
      · rw [if_pos h1]
        exact qsh_place_s h hn hL hz g1 h1
      · rw [if_neg h1]
        cases h2 : st.isSh x with
        | true => exact qsh_name_s h hn hL hz g1 (by omega) hx h2
        | false =>
          simp only [Bool.false_eq_true, if_false]
          refine (qsh_ok_s h hn hL hz g1 (by omega) hx h2 h0 hDl (by omega) (by omega)).mono ?_
          rintro e w' ⟨e1, r, c'⟩
          exact ⟨e1, ⟨_, _, _, _, r⟩, c'⟩
    · simp only
      cases g2 : gIn 1 6 (u :: us) with
      | none => exact qsh_in hL hz hE hbl g1 g2
      | some q =>
        obtain ⟨v, us2⟩ := q
        rcases us2 with _ | ⟨u2, us2⟩
        · simp only
          by_cases h1 : 0 < st.threads.length
          · rw [if_pos h1]
            exact qsh_place_m h hn hL hz hE hbl g1 g2 h1
          · rw [if_neg h1]
            cases h2 : st.isSh x with
            | true => exact qsh_name_m h hn hL hz hE hbl g1 g2 (by omega) hx h2
            | false =>
              simp only [Bool.false_eq_true, if_false]
              refine (qsh_ok_m h hn hL hz hE hbl g1 g2 (by omega) hx h2 h0 hDl (by omega) (by omega) (gIn_in g2)).mono ?_
              rintro e w' ⟨e1, r, c'⟩
              exact ⟨e1, ⟨_, _, _, _, r⟩, c'⟩
        · exact qsh_end_m hL hz hE hbl g1 g2
end
end Go.Proofs.YtfhkfnoajbbfdabGreatDoor

/- The numbers of a statement. -/
namespace Go.Proofs.YtfhkfnoajbbfdabGreatDoor
open Go.RowKit

def num64 (a : Int) : Prop := -9223372036854775808 ≤ a ∧ a ≤ 9223372036854775807

def stOp : St → Nat
  | .inr (.inl (_, o, _, _)) => o
  | _ => 0

structure StNum (s : St) : Prop where
  rd : ∀ v ∈ stReads s, num64 v.num
  op : stOp s < 12

section
variable {ws ws1 : List ByteArray} {y : PV} {s : St} {k : Nat}

theorem numVal_64 {u : ByteArray} {v : Int} (h : numVal u = some v) : num64 v := by
  unfold numVal at h
  split at h
  · unfold Lib.parseIntB at h
    cases hl : u.data.toList with
    | nil => simp [hl] at h
    | cons c r =>
      simp only [hl] at h
      cases hp : Lib.parseUintB 64 (if c.toNat = 43 ∨ c.toNat = 45 then r else c :: r) with
      | ok u =>
        simp only [hp] at h
        by_cases h1 : ¬ c.toNat = 45 ∧ 2 ^ (64 - 1) ≤ u
        · simp [h1] at h
        · by_cases h2 : c.toNat = 45 ∧ 2 ^ (64 - 1) < u
          · simp [h2] at h
          · rw [if_neg h1, if_neg h2] at h
            simp only [Option.some.injEq] at h
            subst h
            unfold num64
            by_cases hc : c.toNat = 45
            · rw [if_pos hc]; omega
            · rw [if_neg hc]; omega
      | _ => simp [hp] at h
  · simp at h

theorem num64_zero : num64 0 := by unfold num64; omega

theorem gPV_num (h : gPV ws = some (y, ws1)) : num64 y.num := by
  cases ws with
  | nil => simp [gPV] at h
  | cons u us =>
    simp only [gPV] at h
    split at h
    · simp at h
      rw [← h.1]; exact num64_zero
    · cases hn : numVal u with
      | none => simp [hn] at h
      | some v =>
        simp [hn] at h
        rw [← h.1]; exact numVal_64 hn

theorem gAt_num (h : gAt ws = some (y, ws1)) : num64 y.num := by
  cases ws with
  | nil =>
    simp [gAt] at h
    rw [← h.1]; exact num64_zero
  | cons u us =>
    simp only [gAt] at h
    split at h
    · exact gPV_num h
    · simp at h

theorem gOp_lt (h : gOp ws = some (k, ws1)) : k < 12 := by
  cases ws with
  | nil => simp [gOp] at h
  | cons u us =>
    simp only [gOp] at h
    cases hs : signV u with
    | none => simp [hs] at h
    | some n =>
      simp [hs] at h
      rw [← h.1]
      unfold signV at hs
      have := (List.findIdx?_eq_some_iff_findIdx_eq.1 hs).1
      simpa using this

theorem gStmt_nums {u : ByteArray} (h : gStmt u ws = some (s, ws1)) : StNum s := by
  unfold gStmt at h
  split at h
  · unfold gSet at h
    cases h1 : gNm ws with
    | none => simp [h1] at h
    | some p =>
      obtain ⟨x, ws2⟩ := p
      rw [h1] at h
      simp only [Option.bind_some] at h
      cases h2 : gPV ws2 with
      | none => simp [h2] at h
      | some q =>
        obtain ⟨y, ws3⟩ := q
        rw [h2] at h
        simp only [Option.bind_some] at h
        rcases ws3 with _ | ⟨u3, ws3⟩
        · simp at h
          obtain ⟨rfl, _⟩ := h
          exact ⟨fun v hv => by simp [stReads] at hv; subst hv; exact gPV_num h2, (by decide : (0 : Nat) < 12)⟩
        · simp only at h
          cases h3 : gOp (u3 :: ws3) with
          | none => simp [h3] at h
          | some o =>
            rw [h3] at h
            simp only [Option.bind_some] at h
            cases h4 : gPV o.2 with
            | none => simp [h4] at h
            | some r =>
              rw [h4] at h
              simp at h
              obtain ⟨rfl, _⟩ := h
              exact ⟨fun v hv => by
                simp [stReads] at hv
                rcases hv with rfl | rfl
                · exact gPV_num h2
                · exact gPV_num (y := r.1) (ws1 := r.2) h4, gOp_lt (k := o.1) (ws1 := o.2) h3⟩
  · split at h
    · unfold gGet at h
      cases h1 : gNm ws with
      | none => simp [h1] at h
      | some p =>
        rw [h1] at h
        simp only [Option.bind_some] at h
        cases h2 : gNm p.2 with
        | none => simp [h2] at h
        | some q =>
          rw [h2] at h
          simp only [Option.bind_some] at h
          cases h3 : gAt q.2 with
          | none => simp [h3] at h
          | some r =>
            rw [h3] at h
            simp at h
            obtain ⟨rfl, _⟩ := h
            exact ⟨fun v hv => by simp [stReads] at hv; subst hv; exact gAt_num (y := r.1) (ws1 := r.2) h3, (by decide : (0 : Nat) < 12)⟩
    · split at h
      · unfold gPut at h
        cases h1 : gNm ws with
        | none => simp [h1] at h
        | some p =>
          rw [h1] at h
          simp only [Option.bind_some] at h
          cases h2 : gPV p.2 with
          | none => simp [h2] at h
          | some q =>
            rw [h2] at h
            simp only [Option.bind_some] at h
            cases h3 : gAt q.2 with
            | none => simp [h3] at h
            | some r =>
              rw [h3] at h
              simp at h
              obtain ⟨rfl, _⟩ := h
              exact ⟨fun v hv => by
                simp [stReads] at hv
                rcases hv with rfl | rfl
                · exact gAt_num (y := r.1) (ws1 := r.2) h3
                · exact gPV_num (y := q.1) (ws1 := q.2) h2, (by decide : (0 : Nat) < 12)⟩
      · split at h
        · cases h1 : gPV ws with
          | none => simp [h1] at h
          | some p =>
            rw [h1] at h
            simp at h
            obtain ⟨rfl, _⟩ := h
            exact ⟨fun v hv => by simp [stReads] at hv; subst hv; exact gPV_num (y := p.1) (ws1 := p.2) h1, (by decide : (0 : Nat) < 12)⟩
        · split at h
          · simp at h
            obtain ⟨rfl, _⟩ := h
            exact ⟨fun v hv => by simp [stReads] at hv, (by decide : (0 : Nat) < 12)⟩
          · split at h
            · cases h1 : gPV ws with
              | none => simp [h1] at h
              | some p =>
                rw [h1] at h
                simp at h
                obtain ⟨rfl, _⟩ := h
                exact ⟨fun v hv => by simp [stReads] at hv; subst hv; exact gPV_num (y := p.1) (ws1 := p.2) h1, (by decide : (0 : Nat) < 12)⟩
            · split at h
              · cases h1 : gIn 1 4 ws with
                | none => simp [h1] at h
                | some p =>
                  rw [h1] at h
                  simp at h
                  obtain ⟨rfl, _⟩ := h
                  exact ⟨fun v hv => by simp [stReads] at hv, (by decide : (0 : Nat) < 12)⟩
              · simp at h
end
end Go.Proofs.YtfhkfnoajbbfdabGreatDoor

/- A line of a program, whatever it is (written by gen-pr20.py). -/
namespace Go.Proofs.YtfhkfnoajbbfdabGreatDoor
open Go.RowKit

section
variable {D D0 : Nat → Prop} {lab : Nat → Nat × Nat} {w : World} {br sb bs bl bw : Nat} {n : Int} {ws us : List ByteArray} {u : ByteArray} {tv ov : Value} {st : RS} {ms : List HM} {k : Nat} {r : Except Int RS} {s : St}


set_option maxRecDepth 100000 in
set_option maxHeartbeats 1000000 in
theorem line_Shared (K : Hid (∀ w1, LineAt w1 bl n bw us → Chg (lineM bl) w w1 → Calls Tryz.prog 91 #[ptr br, ptr bl] w1 fun e w' => PLR D br sb bs bl n w1 r e w')) (hL : LineAt w bl n bw (⟨#[115, 104, 97, 114, 101, 100]⟩ :: us)) (hlen : us.length < 1000000) (hDl : D bl) :
    Calls Tryz.prog 63 #[ptr br, ptr bl] w fun e w' => PLR D br sb bs bl n w r e w' := by
  have H := hid hL
  clear hL
  cases r with
  | error er =>
    go_enter Tryz.func63, Tryz.ntmps63
    go_wp2_with fail
    refine (word_ok H.out hlen).mono ?_
    rintro e w1 ⟨rfl, h1, c1⟩
    have H1 := hid h1
    have C1 := hid c1
    clear h1 c1 H
    go_wp2_with fail
    refine (K.out w1 H1.out C1.out).mono ?_
    intro e w2 h2
    obtain ⟨bf, rfl, h4⟩ := Fails.after h2 C1.out
    exact ⟨rfl, bf, rfl, h4⟩
  | ok st' =>
    go_enter Tryz.func63, Tryz.ntmps63
    go_wp2_with fail
    refine (word_ok H.out hlen).mono ?_
    rintro e w1 ⟨rfl, h1, c1⟩
    have H1 := hid h1
    have C1 := hid c1
    clear h1 c1 H
    go_wp2_with fail
    refine (K.out w1 H1.out C1.out).mono ?_
    rintro e w2 ⟨rfl, h2, c2⟩
    have H2 := hid h2
    have C2 := hid ((C1.out.mono (M' := fun k _ => D k) (fun k i _ e => e.1 ▸ hDl)).trans c2)
    clear h2 c2
    go_wp2
    go_end0
    exact ⟨rfl, H2.out, C2.out⟩

set_option maxRecDepth 100000 in
set_option maxHeartbeats 1000000 in
theorem line_Thread (K : Hid (∀ w1, LineAt w1 bl n bw us → Chg (lineM bl) w w1 → Calls Tryz.prog 92 #[ptr br, ptr bl] w1 fun e w' => PLR D br sb bs bl n w1 r e w')) (hL : LineAt w bl n bw (⟨#[116, 104, 114, 101, 97, 100]⟩ :: us)) (hlen : us.length < 1000000) (hDl : D bl) :
    Calls Tryz.prog 63 #[ptr br, ptr bl] w fun e w' => PLR D br sb bs bl n w r e w' := by
  have H := hid hL
  clear hL
  cases r with
  | error er =>
    go_enter Tryz.func63, Tryz.ntmps63
    go_wp2_with fail
    refine (word_ok H.out hlen).mono ?_
    rintro e w1 ⟨rfl, h1, c1⟩
    have H1 := hid h1
    have C1 := hid c1
    clear h1 c1 H
    go_wp2_with fail
    refine (K.out w1 H1.out C1.out).mono ?_
    intro e w2 h2
    obtain ⟨bf, rfl, h4⟩ := Fails.after h2 C1.out
    exact ⟨rfl, bf, rfl, h4⟩
  | ok st' =>
    go_enter Tryz.func63, Tryz.ntmps63
    go_wp2_with fail
    refine (word_ok H.out hlen).mono ?_
    rintro e w1 ⟨rfl, h1, c1⟩
    have H1 := hid h1
    have C1 := hid c1
    clear h1 c1 H
    go_wp2_with fail
    refine (K.out w1 H1.out C1.out).mono ?_
    rintro e w2 ⟨rfl, h2, c2⟩
    have H2 := hid h2
    have C2 := hid ((C1.out.mono (M' := fun k _ => D k) (fun k i _ e => e.1 ▸ hDl)).trans c2)
    clear h2 c2
    go_wp2
    go_end0
    exact ⟨rfl, H2.out, C2.out⟩

set_option maxRecDepth 100000 in
set_option maxHeartbeats 1000000 in
theorem line_End (K : Hid (∀ w1, LineAt w1 bl n bw us → Chg (lineM bl) w w1 → Calls Tryz.prog 93 #[ptr br, ptr bl] w1 fun e w' => PLR D br sb bs bl n w1 r e w')) (hL : LineAt w bl n bw (⟨#[101, 110, 100]⟩ :: us)) (hlen : us.length < 1000000) (hDl : D bl) :
    Calls Tryz.prog 63 #[ptr br, ptr bl] w fun e w' => PLR D br sb bs bl n w r e w' := by
  have H := hid hL
  clear hL
  cases r with
  | error er =>
    go_enter Tryz.func63, Tryz.ntmps63
    go_wp2_with fail
    refine (word_ok H.out hlen).mono ?_
    rintro e w1 ⟨rfl, h1, c1⟩
    have H1 := hid h1
    have C1 := hid c1
    clear h1 c1 H
    go_wp2_with fail
    refine (K.out w1 H1.out C1.out).mono ?_
    intro e w2 h2
    obtain ⟨bf, rfl, h4⟩ := Fails.after h2 C1.out
    exact ⟨rfl, bf, rfl, h4⟩
  | ok st' =>
    go_enter Tryz.func63, Tryz.ntmps63
    go_wp2_with fail
    refine (word_ok H.out hlen).mono ?_
    rintro e w1 ⟨rfl, h1, c1⟩
    have H1 := hid h1
    have C1 := hid c1
    clear h1 c1 H
    go_wp2_with fail
    refine (K.out w1 H1.out C1.out).mono ?_
    rintro e w2 ⟨rfl, h2, c2⟩
    have H2 := hid h2
    have C2 := hid ((C1.out.mono (M' := fun k _ => D k) (fun k i _ e => e.1 ▸ hDl)).trans c2)
    clear h2 c2
    go_wp2
    go_end0
    exact ⟨rfl, H2.out, C2.out⟩

set_option maxRecDepth 100000 in
set_option maxHeartbeats 1000000 in
theorem line_bad (KR : Hid (∀ w1, LineAt w1 bl n bw us → Chg (lineM bl) w w1 → Calls Tryz.prog 94 #[ptr br, .string u, ptr bl] w1 fun e w' => StR bl n bw w1 none e w')) (hL : LineAt w bl n bw (u :: us)) (hlen : us.length < 1000000) (e0 : (u.toList == [115, 104, 97, 114, 101, 100]) = false) (e1 : (u.toList == [116, 104, 114, 101, 97, 100]) = false) (e2 : (u.toList == [101, 110, 100]) = false) :
    Calls Tryz.prog 63 #[ptr br, ptr bl] w fun e w' => Fails 2 n bl w e w' := by
  have H := hid hL
  clear hL
  go_enter Tryz.func63, Tryz.ntmps63
  go_wp2_with fail
  refine (word_ok H.out hlen).mono ?_
  rintro e w1 ⟨rfl, h1, c1⟩
  have H1 := hid h1
  have C1 := hid c1
  clear h1 c1 H
  go_wp2_with fail
  refine (KR.out w1 H1.out C1.out).mono ?_
  intro e w2 h2
  obtain ⟨bf, rfl, h4⟩ := Fails.after h2 C1.out
  exact ⟨rfl, bf, rfl, h4⟩

set_option maxRecDepth 100000 in
set_option maxHeartbeats 1000000 in
theorem line_long {u2 : ByteArray} {us2 : List ByteArray} (KR : Hid (∀ w1, LineAt w1 bl n bw us → Chg (lineM bl) w w1 → Calls Tryz.prog 94 #[ptr br, .string u, ptr bl] w1 fun e w' => StR bl n bw w1 (some (s, u2 :: us2)) e w')) (hL : LineAt w bl n bw (u :: us)) (hlen : us.length < 1000000) (e0 : (u.toList == [115, 104, 97, 114, 101, 100]) = false) (e1 : (u.toList == [116, 104, 114, 101, 97, 100]) = false) (e2 : (u.toList == [101, 110, 100]) = false) :
    Calls Tryz.prog 63 #[ptr br, ptr bl] w fun e w' => Fails 2 n bl w e w' := by
  have H := hid hL
  clear hL
  go_enter Tryz.func63, Tryz.ntmps63
  go_wp2_with fail
  refine (word_ok H.out hlen).mono ?_
  rintro e w1 ⟨rfl, h1, c1⟩
  have H1 := hid h1
  have C1 := hid c1
  clear h1 c1 H
  go_wp2_with fail
  refine (KR.out w1 H1.out C1.out).mono ?_
  rintro e w2 ⟨v, rfl, h2, h3, c2⟩
  have H2 := hid h2
  have H3 := hid h3
  have C2 := hid c2
  clear h2 h3 c2 KR H1
  go_wp2_with fail
  refine (end_some H3.out).mono ?_
  intro e w3 h3
  obtain ⟨bf, rfl, h4⟩ := Fails.after h3 (C1.out.trans C2.out)
  exact ⟨rfl, bf, rfl, h4⟩

set_option maxRecDepth 100000 in
set_option maxHeartbeats 1000000 in
theorem line_stmt (KR : Hid (∀ w1, LineAt w1 bl n bw us → Chg (lineM bl) w w1 → Calls Tryz.prog 94 #[ptr br, .string u, ptr bl] w1 fun e w' => StR bl n bw w1 (some (s, [])) e w')) (KS : Hid (∀ w1 w2 v, Chg (lineM bl) w w1 → Chg (lineM bl) w1 w2 → StAt w1 w2 s v → LineAt w2 bl n bw [] → Calls Tryz.prog 95 #[ptr br, ptr bl, v] w2 fun e w' => PLR D br sb bs bl n w2 r e w')) (hL : LineAt w bl n bw (u :: us)) (hlen : us.length < 1000000) (hDl : D bl) (e0 : (u.toList == [115, 104, 97, 114, 101, 100]) = false) (e1 : (u.toList == [116, 104, 114, 101, 97, 100]) = false) (e2 : (u.toList == [101, 110, 100]) = false) :
    Calls Tryz.prog 63 #[ptr br, ptr bl] w fun e w' => PLR D br sb bs bl n w r e w' := by
  cases r with
  | error er =>
    have H := hid hL
    clear hL
    go_enter Tryz.func63, Tryz.ntmps63
    go_wp2_with fail
    refine (word_ok H.out hlen).mono ?_
    rintro e w1 ⟨rfl, h1, c1⟩
    have H1 := hid h1
    have C1 := hid c1
    clear h1 c1 H
    go_wp2_with fail
    refine (KR.out w1 H1.out C1.out).mono ?_
    rintro e w2 ⟨v, rfl, h2, h3, c2⟩
    have H2 := hid h2
    have H3 := hid h3
    have C2 := hid c2
    clear h2 h3 c2 KR H1
    go_wp2_with fail
    refine (end_ok H3.out).mono ?_
    rintro e w3 ⟨rfl, rfl⟩
    go_wp2_with fail
    refine (KS.out w1 _ v C1.out C2.out H2.out H3.out).mono ?_
    intro e w4 h4
    obtain ⟨bf, rfl, h5⟩ := Fails.after h4 (C1.out.trans C2.out)
    exact ⟨rfl, bf, rfl, h5⟩
  | ok st' =>
    have H := hid hL
    clear hL
    go_enter Tryz.func63, Tryz.ntmps63
    go_wp2_with fail
    refine (word_ok H.out hlen).mono ?_
    rintro e w1 ⟨rfl, h1, c1⟩
    have H1 := hid h1
    have C1 := hid c1
    clear h1 c1 H
    go_wp2_with fail
    refine (KR.out w1 H1.out C1.out).mono ?_
    rintro e w2 ⟨v, rfl, h2, h3, c2⟩
    have H2 := hid h2
    have H3 := hid h3
    have C2 := hid c2
    clear h2 h3 c2 KR H1
    go_wp2_with fail
    refine (end_ok H3.out).mono ?_
    rintro e w3 ⟨rfl, rfl⟩
    go_wp2_with fail
    refine (KS.out w1 _ v C1.out C2.out H2.out H3.out).mono ?_
    rintro e w4 ⟨rfl, h4, c4⟩
    have H4 := hid h4
    have C4 := hid (((C1.out.trans C2.out).mono (M' := fun k _ => D k) (fun k i _ e => e.1 ▸ hDl)).trans c4)
    clear h4 c4
    go_wp2
    go_end0
    exact ⟨rfl, H4.out, C4.out⟩

set_option maxRecDepth 100000 in
set_option maxHeartbeats 1000000 in
theorem line_none (hL : LineAt w bl n bw []) : Calls Tryz.prog 63 #[ptr br, ptr bl] w fun e w' => Fails 2 n bl w e w' := by
  have H := hid hL
  clear hL
  go_enter Tryz.func63, Tryz.ntmps63
  go_wp2_with fail
  refine (word_none H.out).mono ?_
  rintro e w1 ⟨bf, rfl, h1⟩
  exact ⟨rfl, bf, rfl, h1⟩

theorem RMach.line {w1 : World} (h : RMach D0 lab w br sb bs tv ov st ms) (hn : ¬ D0 bl) (c : Chg (lineM bl) w w1) : RMach D0 lab w1 br sb bs tv ov st ms := h.keep c (fun _ _ hk e => hn (e.1 ▸ hk))

theorem line_tot (h : RMach D0 lab w br sb bs tv ov st ms) (h0 : ∀ k, D0 k → D k) (hD : ∀ k, w.heap.size ≤ k → D k) (hD0 : ∀ k, D0 k → k < w.heap.size) (hDl : D bl) (hn : ¬ D0 bl) (hok : st.Ok k) (hk : k < 900000) (hE : Env w) (hbl : 10 ≤ bl) (hz : SzOk ws) (hL : LineAt w bl n bw ws) :
    Calls Tryz.prog 63 #[ptr br, ptr bl] w fun e w' => PLR D br sb bs bl n w (gPLine st ws) e w' := by
  rcases ws with _ | ⟨u, us⟩
  · exact line_none hL
  unfold gPLine
  simp only
  have hlen := hz.len
  have hz' := hz.tail
  by_cases h1 : u = pwShared
  · rw [if_pos h1]
    subst h1
    refine line_Shared (hid fun w1 l1 c1 => ?_) hL hlen hDl
    exact shared_tot (h.line hn c1) h0 hDl hn hok hk (hid (hE.line c1 hbl)) hbl hz' l1
  rw [if_neg h1]
  by_cases h2 : u = pwThread
  · rw [if_pos h2]
    subst h2
    refine line_Thread (hid fun w1 l1 c1 => ?_) hL hlen hDl
    exact thread_tot (h.line hn c1) h0 (fun k hk => hD k (Nat.le_trans c1.size hk)) (fun k hk => Nat.lt_of_lt_of_le (hD0 k hk) c1.size) hok hk l1
  rw [if_neg h2]
  by_cases h3 : u = pwEnd
  · rw [if_pos h3]
    subst h3
    refine line_End (hid fun w1 l1 c1 => ?_) hL hlen hDl
    exact end_tot (h.line hn c1) h0 hok l1
  rw [if_neg h3]
  have e0 : (u.toList == [115, 104, 97, 114, 101, 100]) = false := by have := ba_ne h1; rwa [show (pwShared).toList = [115, 104, 97, 114, 101, 100] from by rw [ByteArray.toList_eq]; rfl] at this
  have e1 : (u.toList == [116, 104, 114, 101, 97, 100]) = false := by have := ba_ne h2; rwa [show (pwThread).toList = [116, 104, 114, 101, 97, 100] from by rw [ByteArray.toList_eq]; rfl] at this
  have e2 : (u.toList == [101, 110, 100]) = false := by have := ba_ne h3; rwa [show (pwEnd).toList = [101, 110, 100] from by rw [ByteArray.toList_eq]; rfl] at this
  have hS : SignsAt w br bs bl := ⟨h.c4, fun e => hn (e ▸ h.lbr.2), h.mG, fun e => hn (e ▸ h.lbs.2)⟩
  have KR := hid (fun w1 (l1 : LineAt w1 bl n bw us) (c1 : Chg (lineM bl) w w1) => readStmt_tot l1 (hid (hE.line c1 hbl)) hbl hz' (hid (hS.keep c1)) u)
  cases hg : gStmt u us with
  | none =>
    rw [hg] at KR
    exact line_bad KR hL hlen e0 e1 e2
  | some p =>
    obtain ⟨s, us2⟩ := p
    rw [hg] at KR
    rcases us2 with _ | ⟨u2, us2⟩
    · simp only
      refine line_stmt KR (hid fun w1 w2 v c1 c2 hs l2 => ?_) hL hlen hDl e0 e1 e2
      obtain ⟨b, rfl, hB, hH⟩ := stAt_is hs
      have c12 := c1.trans c2
      exact stmt_tot (h.line hn c12) h0 (fun k hk => hD k (Nat.le_trans c12.size hk)) hok hk l2 s b hB (gStmt_names hg) (fun hh => ⟨(hH hh).1, hD b (Nat.le_trans c1.size (hH hh).2), fun hb => by have := hD0 b hb; have := (hH hh).2; have := c1.size; omega⟩)
    · exact line_long KR hL hlen e0 e1 e2
end
end Go.Proofs.YtfhkfnoajbbfdabGreatDoor

/- text.Read for a method's value (written by gen-pr21.py). -/
namespace Go.Proofs.YtfhkfnoajbbfdabGreatDoor
open Go.RowKit

set_option maxRecDepth 100000 in
set_option maxHeartbeats 4000000 in
theorem textRead_m (W : World) (s : ByteArray) (most : Int) (tk bt : Nat) (Inv : List UInt8 → Nat → World → Prop) (Bad : Nat → World → Prop)
    (hs : (s.size : Int) ≤ most) (hs2 : s.size ≤ 1000000)
    (hent : ∀ args w, (callFunc tk args).run Tryz.prog w = .ok (.enter tk args) w)
    (h0 : Hid (Inv s.data.toList 0 (W.alloc (.cells #[.nilIface] 59))))
    (hcut : Hid (∀ (r : List UInt8) (j : Nat) (w : World), r.length ≤ s.size → Inv r j w → Calls Tryz.prog 82 #[.string ⟨r.toArray⟩, .string ⟨#[10]⟩] w fun e w' => e = .returned (.tuple #[.string ⟨(Lib.cut r [10]).1.toArray⟩, .string ⟨(Lib.cut r [10]).2.1.toArray⟩, .bool (Lib.cut r [10]).2.2]) ∧ ∃ n, w' = w.drewN n))
    (hsplit : Hid (∀ (r : List UInt8) (j : Nat) (w : World) (l : List UInt8) (n : Nat), Inv r j w → l.length ≤ s.size → Calls Tryz.prog 83 #[.string ⟨l.toArray⟩, .string ⟨#[32]⟩] (w.drewN n) fun e w' => e = .returned (.slice (some ⟨w.heap.size, 0, none⟩) (wordsOf l).length (wordsOf l).length) ∧ w' = (w.drewN n).alloc (.cells ((wordsOf l).map Value.string).toArray 9)))
    (hstep : Hid (∀ (r : List UInt8) (j : Nat) (w : World), Inv r j w → (r ≠ [] ∨ j = 0) → ∃ l r' b, Lib.cut r [10] = (l, r', b) ∧ l.length ≤ r.length ∧
      (b = true → r'.length < r.length ∧ ∀ n, Calls Tryz.prog tk #[ptr bt, ptr (w.heap.size + 1)] (((w.drewN n).alloc (.cells ((wordsOf l).map Value.string).toArray 9)).alloc (.cells #[.int .i64 (j + 1), .slice (some ⟨w.heap.size, 0, none⟩) (wordsOf l).length (wordsOf l).length] 202)) fun e w2 => (e = .returned (.tuple #[]) ∧ Inv r' (j + 1) w2) ∨ ∃ bf, e = .panicked (stopV bf) ∧ Bad bf w2) ∧
      (b = false → ∀ n bf w2, Fails 2 (j + 1) (w.heap.size + 1) (((w.drewN n).alloc (.cells ((wordsOf l).map Value.string).toArray 9)).alloc (.cells #[.int .i64 (j + 1), .slice (some ⟨w.heap.size, 0, none⟩) (wordsOf l).length (wordsOf l).length] 202)) (.panicked (stopV bf)) w2 → Bad bf w2)))
    (herr : Hid (∀ r j w, Inv r j w → w.cell? ⟨W.heap.size, 0, none⟩ = some .nilIface ∧ w.frozen? ⟨W.heap.size, 0, none⟩ = false))
    (hbad : Hid (∀ bf w, Bad bf w → W.heap.size < w.heap.size ∧ w.cell? ⟨W.heap.size, 0, none⟩ = some .nilIface ∧ w.frozen? ⟨W.heap.size, 0, none⟩ = false)) :
    Calls Tryz.prog 55 #[.string s, .int .i64 most, .func (.func tk) #[ptr bt] #[]] W fun e w' => (e = .returned .nilIface ∧ ∃ j w1, j ≠ 0 ∧ Inv [] j w1 ∧ w' = w1.setCell ⟨W.heap.size, 0, none⟩ .nilIface) ∨
      ∃ bf w2, e = .returned (.iface 89 (ptr bf)) ∧ Bad bf w2 ∧ w' = (w2.alloc (.cells #[ptr bf] 197)).setCell ⟨W.heap.size, 0, none⟩ (.iface 89 (ptr bf)) := by
  have hs' : ¬ most < (s.size : Int) := by omega
  have hmf : ∀ (fn : Fn) (first cap : Array Value) (w : World), (Instr.makeFunc fn first cap).run Tryz.prog w = .ok (.func fn first cap) w := fun _ _ _ _ => rfl
  have hfall : ∀ (bf : Nat) (w2 : World) (tm : Array Value), Hid (tm[6]?.getD undef = .pointer (some ⟨W.heap.size, 0, none⟩)) → Bad bf w2 → bodyPostD Tryz.prog Tryz.f55 (fun e w' => (e = .returned .nilIface ∧ ∃ j w1, j ≠ 0 ∧ Inv [] j w1 ∧ w' = w1.setCell ⟨W.heap.size, 0, none⟩ .nilIface) ∨
      ∃ bf w2, e = .returned (.iface 89 (ptr bf)) ∧ Bad bf w2 ∧ w' = (w2.alloc (.cells #[ptr bf] 197)).setCell ⟨W.heap.size, 0, none⟩ (.iface 89 (ptr bf))) (.panic (stopV bf)) { tmps := tm, defers := [{ target := .fn (.func 81) #[.pointer (some ⟨W.heap.size, 0, none⟩)], args := #[] }] } w2 := by
    intro bf w2 tm htm hB
    obtain ⟨b1, b2, b3⟩ := hbad.out bf w2 hB
    have c2 : (w2.alloc (.cells #[.pointer (some ⟨bf, 0, none⟩)] 197)).cell? ⟨W.heap.size, 0, none⟩ = some .nilIface := (World.cell?_alloc_past _ _ _ b1).trans b2
    refine leaves_cons (f := 81) (args := #[.pointer (some ⟨W.heap.size, 0, none⟩)]) (by simp) (by simp [go_sem]) ?_
    refine (read1x_stop ⟨W.heap.size, 0, none⟩ bf .nilIface w2 c2 ((World.frozen?_alloc_past _ _ _ b1).trans b3)).mono ?_
    rintro e u' w'' ⟨rfl, rfl, rfl⟩
    refine ⟨.iface 89 (ptr bf), ?_, .inr ⟨bf, w2, rfl, hB, rfl⟩⟩
    have h6 := htm.out
    simp [results, Tryz.results55, go_sem, h6, World.cell?_setCell_same _ _ _ c2]
  have HF := hid hfall
  clear hfall
  go_enter_defers Tryz.func55, Tryz.ntmps55
  go_wp2
  go_loopw [0, 7] (fun v0 v7 wr => ∃ (r : List UInt8) (j : Nat), v0 = .string ⟨r.toArray⟩ ∧ v7 = .int .i64 (j + 1) ∧ Inv r j wr ∧ j + r.length ≤ s.size) (fun v0 _ _ => strSize v0)
  case atStart => exact ⟨s.data.toList, 0, by simp, rfl, h0.out, by simp⟩
  case round =>
    obtain ⟨r, j, rfl, rfl, hi, hjl⟩ := hrel
    have HI := hid hi
    clear hi
    by_cases hr : r = [] ∧ j ≠ 0
    · obtain ⟨rfl, hj0⟩ := hr
      have hj : ¬ (j : Int) + 1 = 1 := by omega
      have hee : (ByteArray.mk ([] : List UInt8).toArray).toList.isEmpty = true := by rw [ByteArray.toList_eq]; rfl
      obtain ⟨e1, e2⟩ := herr.out _ _ _ HI.out
      have hjb : (((j : Int) + 1) == 1) = false := by simpa using hj
      go_wp2
      refine leaves_cons (f := 81) (args := #[.pointer (some ⟨W.heap.size, 0, none⟩)]) (by simp) (by simp [go_sem]) ?_
      refine (read1x_idle ⟨W.heap.size, 0, none⟩ _).mono ?_
      rintro e u' w'' ⟨rfl, rfl, rfl⟩
      refine ⟨.nilIface, ?_, .inl ⟨rfl, j, wr, hj0, HI.out, rfl⟩⟩
      simp [results, Tryz.results55, go_sem, World.cell?_setCell_same wr _ _ e1]
    · have hr' : r ≠ [] ∨ j = 0 := by
        by_cases e : r = []
        · exact .inr (Decidable.byContradiction fun h => hr ⟨e, h⟩)
        · exact .inl e
      obtain ⟨l, r', b, hcu, hll, hgo, hno⟩ := hstep.out r j wr HI.out hr'
      have HG := hid hgo
      have HN := hid hno
      clear hgo hno
      have hj6 : j ≤ 1000000 := by omega
      have hwr : wrap64 ((j : Int) + 1 + 1) = (j : Int) + 1 + 1 := by
        unfold wrap64; omega
      have hL : LineAt (((wr.drewN 0).alloc (.cells ((wordsOf l).map Value.string).toArray 9)).alloc (.cells #[.int .i64 (j + 1), .slice (some ⟨wr.heap.size, 0, none⟩) (wordsOf l).length (wordsOf l).length] 202)) (wr.heap.size + 1) (j + 1) wr.heap.size (wordsOf l) := lineAt_new (w := wr.drewN 0)
      have hcase : ((((j : Int) + 1) == 1) = true) ∨ ((((j : Int) + 1) == 1) = false ∧ r.isEmpty = false) := by
        by_cases e : j = 0
        · left; subst e; rfl
        · right
          refine ⟨by simpa using (show ¬ (j : Int) + 1 = 1 by omega), ?_⟩
          rcases hr' with h | h
          · simpa using h
          · exact absurd h e
      clear hL
      rcases hcase with hjb | ⟨hjb, hie⟩
      all_goals
        go_wp2_with fail
        refine (hcut.out r j wr (by omega) HI.out).mono ?_
        rintro e w1 ⟨rfl, n, rfl⟩
        rw [hcu]
        go_wp2_with fail
        refine (hsplit.out r j wr l n HI.out (by omega)).mono ?_
        rintro e w1 ⟨rfl, rfl⟩
        cases b with
        | false =>
          have hL : LineAt (((wr.drewN n).alloc (.cells ((wordsOf l).map Value.string).toArray 9)).alloc (.cells #[.int .i64 (j + 1), .slice (some ⟨wr.heap.size, 0, none⟩) (wordsOf l).length (wordsOf l).length] 202)) (wr.heap.size + 1) (j + 1) wr.heap.size (wordsOf l) := lineAt_new (w := wr.drewN n)
          have HN2 := hid (HN.out rfl n)
          clear HN HG
          go_wp2_with fail
          refine (fail_any hL 2).mono ?_
          rintro e w2 ⟨bf, rfl, hf⟩
          exact HF.out bf w2 _ rfl (HN2.out bf w2 ⟨bf, rfl, hf⟩)
        | true =>
          obtain ⟨hlt, hcall⟩ := HG.out rfl
          have HC := hid (hcall n)
          clear hcall HG HN
          go_wp2_with fail
          refine HC.out.mono ?_
          rintro e w2 (⟨rfl, h2⟩ | ⟨bf, rfl, h2⟩)
          · have H2 := hid h2
            clear h2 HC HI
            go_wp2
            go_roundw
            case rel => exact ⟨r', j + 1, rfl, by go_num, H2.out, by omega⟩
            case measure => show r'.toArray.size < r.toArray.size; simpa using hlt
          · exact HF.out bf w2 _ rfl h2
end Go.Proofs.YtfhkfnoajbbfdabGreatDoor

/- The lines of a program, whatever the text is. -/
namespace Go.Proofs.YtfhkfnoajbbfdabGreatDoor
open Go.RowKit

def RS.none : RS := ⟨[], 0, [], [], []⟩

theorem none_ok : RS.none.Ok 0 where
  opn := ⟨Nat.zero_le _, fun j hj => by simp [RS.none] at hj⟩
  ent := ⟨fun h hh => by simp [RS.none] at hh, fun j hj => by simp [RS.none] at hj, fun j hj => by simp [RS.none] at hj⟩
  thr := fun t ht => by simp [RS.none] at ht
  ne := fun h => absurd rfl h
  tn := Nat.zero_le _
  sn := Nat.zero_le _
  cn := ⟨Int.le_refl _, by simp [RS.none]⟩
  e14 := fun j h hh => by simp [RS.none] at hh
  eo := fun j hj => by simp [RS.none] at hj

def gPText : Nat → List UInt8 → Nat → RS → Except (Int × Int) RS
  | 0, _, _, st => .ok st
  | f + 1, r, j, st => if r = [] ∧ j ≠ 0 then .ok st else match Lib.cut r [10] with
    | (_, _, false) => .error (2, j + 1)
    | (l, r', true) => match gPLine st (wordsOf l) with
      | .ok st' => gPText f r' (j + 1) st'
      | .error er => .error (er, j + 1)

/-- What the lines of a program come to. -/
def gLines (s : ByteArray) : Except (Int × Int) RS := if 2000 < s.size then .error (1, 0) else gPText (s.size + 2) s.data.toList 0 RS.none

abbrev dom (B E : Nat) (w : World) : Nat → Prop := fun k => B ≤ k ∧ k ≠ E ∧ k < w.heap.size

/-- Between two lines. B: what was there ahead of the reader lies below; WR: the world as text.Read begins. -/
structure PI (B : Nat) (WR : World) (br sb bs : Nat) (f : Nat) (r : List UInt8) (j : Nat) (st : RS) (w : World) : Prop where
  fuel : r.length + 1 ≤ f
  len : j + r.length ≤ 2000
  ok : st.Ok j
  m : ∃ lab tv ov ms, RMach (dom B WR.heap.size w) lab w br sb bs tv ov st ms
  env : Env w
  low : Below B WR w
  ce : w.cell? ⟨WR.heap.size, 0, none⟩ = some .nilIface
  fe : w.frozen? ⟨WR.heap.size, 0, none⟩ = false
  lt : WR.heap.size < w.heap.size

def PInv (B : Nat) (WR : World) (br sb bs : Nat) (R : Except (Int × Int) RS) (r : List UInt8) (j : Nat) (w : World) : Prop :=
  ∃ f st, gPText f r j st = R ∧ PI B WR br sb bs f r j st w

def PBad (B : Nat) (WR : World) (R : Except (Int × Int) RS) (bf : Nat) (w : World) : Prop :=
  ∃ er ln, R = .error (er, ln) ∧ FaultAt w bf er ln ∧ WR.heap.size < bf ∧ Below B WR w ∧ w.cell? ⟨WR.heap.size, 0, none⟩ = some .nilIface ∧ w.frozen? ⟨WR.heap.size, 0, none⟩ = false ∧ WR.heap.size < w.heap.size

section
variable {B : Nat} {WR : World} {br sb bs : Nat} {R : Except (Int × Int) RS} {r : List UInt8} {j : Nat} {w : World}

theorem pinv_step (hB : 10 ≤ B) (hBW : B ≤ WR.heap.size) (h : PInv B WR br sb bs R r j w) (hr : r ≠ [] ∨ j = 0) :
    ∃ l r' b, Lib.cut r [10] = (l, r', b) ∧ l.length ≤ r.length ∧
      (b = true → r'.length < r.length ∧ ∀ n, Calls Tryz.prog 63 #[ptr br, ptr (w.heap.size + 1)] (((w.drewN n).alloc (.cells ((wordsOf l).map Value.string).toArray 9)).alloc (.cells #[.int .i64 (j + 1), .slice (some ⟨w.heap.size, 0, none⟩) (wordsOf l).length (wordsOf l).length] 202)) fun e w2 => (e = .returned (.tuple #[]) ∧ PInv B WR br sb bs R r' (j + 1) w2) ∨ ∃ bf, e = .panicked (stopV bf) ∧ PBad B WR R bf w2) ∧
      (b = false → ∀ n bf w2, Fails 2 (j + 1) (w.heap.size + 1) (((w.drewN n).alloc (.cells ((wordsOf l).map Value.string).toArray 9)).alloc (.cells #[.int .i64 (j + 1), .slice (some ⟨w.heap.size, 0, none⟩) (wordsOf l).length (wordsOf l).length] 202)) (.panicked (stopV bf)) w2 → PBad B WR R bf w2) := by
  obtain ⟨f, st, hR, h⟩ := h
  have hf := h.fuel
  obtain ⟨f, rfl⟩ : ∃ f', f = f' + 1 := ⟨f - 1, by omega⟩
  have hcond : ¬ (r = [] ∧ j ≠ 0) := fun ⟨e1, e2⟩ => hr.elim (fun h => h e1) (fun h => e2 h)
  have hlen := h.len
  have hlt := h.lt
  have hl := cut_sizes r 10
  generalize hcu : Lib.cut r [10] = q
  obtain ⟨l, r', b⟩ := q
  rw [hcu] at hl
  simp only at hl
  have hworld : ∀ n, ∃ w1, w1 = ((w.drewN n).alloc (.cells ((wordsOf l).map Value.string).toArray 9)).alloc (.cells #[.int .i64 (j + 1), .slice (some ⟨w.heap.size, 0, none⟩) (wordsOf l).length (wordsOf l).length] 202) ∧ Below w.heap.size w w1 ∧ LineAt w1 (w.heap.size + 1) (j + 1) w.heap.size (wordsOf l) ∧ w1.heap.size = w.heap.size + 2 := by
    intro n
    exact ⟨_, rfl, ((below_drewN w.heap.size w n).alloc (Nat.le_refl _) _).alloc (by simp) _, lineAt_new (w := w.drewN n), by simp⟩
  have hfall : ∀ (w1 : World) (er : Int) (bf : Nat) (w2 : World), Below w.heap.size w w1 → R = .error (er, (j : Int) + 1) → Fails er (j + 1) (w.heap.size + 1) w1 (.panicked (stopV bf)) w2 → PBad B WR R bf w2 := by
    rintro w1 er bf w2 hb hR' ⟨bf', e1, e2, e3, e4, e5⟩
    have : bf' = bf := by simpa [stopV] using e1.symm
    subst this
    have hs := hb.size
    have hc : Chg (lineM (w.heap.size + 1)) w w2 := (Chg.of_below hb).trans e5
    refine ⟨er, (j : Int) + 1, hR', ⟨e3, e4⟩, by omega, h.low.trans (hc.below (by omega) (fun k i e => by have := e.1; omega)), (hc.cell _ 0 hlt (fun e => by omega)).trans h.ce, (hc.frozen _ 0 hlt).trans h.fe, Nat.lt_of_lt_of_le hlt hc.size⟩
  refine ⟨l, r', b, rfl, hl, ?_, ?_⟩
  · rintro rfl
    have hr0 : r ≠ [] := fun e => by rw [e, cut_nil] at hcu; simp at hcu
    have hrl := (cut_lt hcu hr0).1
    refine ⟨hrl, fun n => ?_⟩
    obtain ⟨w1, hw1, hb, hL, hsz⟩ := hworld n
    rw [← hw1]
    have hc1 : Chg (fun _ _ => False) w w1 := Chg.of_below hb
    have hE1 : Env w1 := h.env.keep hc1 (fun _ _ _ e => e)
    have hR2 : R = match gPLine st (wordsOf l) with | .ok st' => gPText f r' (j + 1) st' | .error er => .error (er, (j : Int) + 1) := by rw [← hR]; simp only [gPText, if_neg hcond, hcu]
    obtain ⟨lab, tv, ov, ms, hm⟩ := h.m
    refine (line_tot (D := fun k => B ≤ k ∧ k ≠ WR.heap.size) (hm.keep hc1 (fun _ _ _ e => e)) (fun k hk => ⟨hk.1, hk.2.1⟩) (fun k hk => ⟨by omega, by omega⟩) (fun k hk => by have := hk.2.2; omega) ⟨by omega, by omega⟩ (fun hd => by have := hd.2.2; omega) h.ok (by omega) hE1 (by omega) (wordsOf_sz (by omega)) hL).mono ?_
    intro e w2 h2
    cases hg : gPLine st (wordsOf l) with
    | error er =>
      rw [hg] at h2 hR2
      right
      obtain ⟨bf, he, h3⟩ := Fails.after (show Fails er (j + 1) (w.heap.size + 1) w1 e w2 from h2) (Chg.refl _ w1)
      exact ⟨bf, he, hfall w1 er bf w2 hb hR2 ⟨bf, rfl, h3⟩⟩
    | ok st' =>
      rw [hg] at h2 hR2
      left
      obtain ⟨rfl, ⟨lab', tv', ov', ms', r2⟩, c2⟩ := h2
      have hlt1 : WR.heap.size < w1.heap.size := by omega
      refine ⟨rfl, f, st', hR2.symm, { fuel := by omega, len := by omega, ok := gPLine_ok h.ok hg, m := ⟨lab', tv', ov', ms', r2.newD (fun k hk hkl => ⟨hk.1, hk.2, hkl⟩)⟩, env := hE1.keep c2 (fun k i hk e => by have := e.1; omega), low := (h.low.trans (hb.mono (by omega))).trans (c2.below (by omega) (fun k i e => e.1)), ce := (c2.cell _ 0 hlt1 (fun e => e.2 rfl)).trans ((hc1.cell _ 0 hlt (fun e => e)).trans h.ce), fe := (c2.frozen _ 0 hlt1).trans ((hc1.frozen _ 0 hlt).trans h.fe), lt := Nat.lt_of_lt_of_le hlt1 c2.size }⟩
  · rintro rfl n bf w2 hF
    obtain ⟨w1, hw1, hb, _, _⟩ := hworld n
    rw [← hw1] at hF
    have hR2 : R = .error (2, (j : Int) + 1) := by rw [← hR]; simp only [gPText, if_neg hcond, hcu]
    exact hfall w1 2 bf w2 hb hR2 hF
end

theorem entLine : ∀ args w, (callFunc 63 args).run Tryz.prog w = .ok (.enter 63 args) w := fun _ _ => by kernel_rfl

/-- text.Read of a program, whatever the text is. -/
theorem lines_any {B : Nat} {WR : World} {br sb bs : Nat} (hB : 10 ≤ B) (hBW : B ≤ WR.heap.size) (hE : Env WR) {lab : Nat → Nat × Nat} {tv ov : Value} {ms : List HM} (hm : RMach (fun k => B ≤ k ∧ k < WR.heap.size) lab WR br sb bs tv ov RS.none ms) (s : ByteArray) :
    Calls Tryz.prog 55 #[.string s, .int .i64 2000, .func (.func 63) #[ptr br] #[]] WR fun e w' => match gLines s with
      | .ok st => e = .returned .nilIface ∧ st.Ok 2000 ∧ (∃ lab tv ov ms, RMach (dom B WR.heap.size w') lab w' br sb bs tv ov st ms) ∧ Env w' ∧ Below B WR w'
      | .error (er, ln) => ∃ bf, e = .returned (.iface 89 (ptr bf)) ∧ WR.heap.size < bf ∧ FaultAt w' bf er ln ∧ Below B WR w' := by
  by_cases hlong : 2000 < s.size
  · rw [show gLines s = .error (1, 0) from by unfold gLines; rw [if_pos hlong]]
    refine (textRead_long WR s 2000 _ (by omega)).mono ?_
    rintro e w' ⟨bf, rfl, h1, h2, h3⟩
    exact ⟨bf, rfl, h1, h2, h3.mono hBW⟩
  have hs' : ∀ l : List UInt8, l.length ≤ s.size → (⟨l.toArray⟩ : ByteArray).size < 4294967281 := fun l hl => by
    have : (⟨l.toArray⟩ : ByteArray).size = l.length := by show l.toArray.size = _; simp
    omega
  have hlen : s.data.toList.length = s.size := by rw [Array.length_toList]; rfl
  have hgc : gLines s = gPText (s.size + 2) s.data.toList 0 RS.none := by unfold gLines; rw [if_neg hlong]
  have hw0 : Below WR.heap.size WR (WR.alloc (.cells #[.nilIface] 59)) := (Below.refl _ WR).alloc (Nat.le_refl _) _
  have k := textRead_m WR s 2000 63 br (PInv B WR br sb bs (gLines s)) (PBad B WR (gLines s)) (by omega) (by omega) entLine ?_ ?_ ?_ ?_ ?_ ?_
  · refine k.mono ?_
    rintro e w' (⟨rfl, j, w1, hj, ⟨f, st, hR, h⟩, rfl⟩ | ⟨bf, w2, rfl, ⟨er, ln, hbad, b1, b2, b3, b4, b5, b6⟩, rfl⟩)
    · have hf := h.fuel
      obtain ⟨f, rfl⟩ : ∃ f', f = f' + 1 := ⟨f - 1, by omega⟩
      simp only [gPText, ne_eq, hj, not_false_eq_true, and_self, if_true] at hR
      rw [← hR]
      have hset : Chg (fun q i => q = WR.heap.size ∧ i = 0) w1 (w1.setCell ⟨WR.heap.size, 0, none⟩ .nilIface) := (Chg.refl _ w1).setCell (fun _ => ⟨rfl, rfl⟩) _
      obtain ⟨lab, tv, ov, ms, hm⟩ := h.m
      refine ⟨rfl, Ok.mono h.ok (by have := h.len; omega), ⟨lab, tv, ov, ms, (hm.keep hset (fun k i hk e => hk.2.1 e.1)).newD (fun k hk hl => ⟨hk.1, hk.2.1, hl⟩)⟩, h.env.keep hset (fun k i hk e => by have := e.1; omega), h.low.trans (hset.below (by have := h.lt; omega) (fun q i e => by have := e.1; omega))⟩
    · rw [hbad]
      have hc : Chg (fun q i => q = WR.heap.size ∧ i = 0) w2 ((w2.alloc (.cells #[ptr bf] 197)).setCell ⟨WR.heap.size, 0, none⟩ (.iface 89 (ptr bf))) := ((Chg.refl _ w2).alloc _).setCell (fun _ => ⟨rfl, rfl⟩) _
      exact ⟨bf, rfl, b2, FaultAt.keep b1 hc (fun i e => by have := e.1; omega), b3.trans (hc.below (by omega) (fun q i e => by have := e.1; omega))⟩
  · refine hid ⟨s.size + 2, RS.none, hgc.symm, { fuel := by omega, len := by omega, ok := none_ok, m := ⟨lab, tv, ov, ms, ?_⟩, env := hE.keep (M := fun _ _ => False) (Chg.of_below hw0) (fun _ _ _ e => e), low := hw0.mono hBW, ce := World.cell?_alloc_new _ _ _ 0, fe := by simp, lt := by simp }⟩
    exact (hm.below hw0).newD (fun k hk _ => ⟨hk.1, by have := hk.2; omega, by have := hk.2; simp; omega⟩)
  · refine hid fun r j w hr hi => ?_
    obtain ⟨f, st, hR, h⟩ := hi
    obtain ⟨m, hmx⟩ := h.env.max
    exact Tryz.strings_Cut ⟨r.toArray⟩ ⟨#[10]⟩ m w (hs' r hr) hmx
  · refine hid fun r j w l n hi hl => ?_
    obtain ⟨f, st, hR, h⟩ := hi
    obtain ⟨m, hmx⟩ := h.env.max
    have hk := Tryz.strings_Split ⟨l.toArray⟩ ⟨#[32]⟩ m (w.drewN n) (hs' l hl) hmx (by decide)
    rw [wordsOf_len]
    exact hk
  · exact hid fun r j w hi hr => pinv_step hB hBW hi hr
  · refine hid ?_
    rintro r j w ⟨f, st, hR, h⟩
    exact ⟨h.ce, h.fe⟩
  · refine hid ?_
    rintro bf w ⟨er, ln, hbad, b1, b2, b3, b4, b5, b6⟩
    exact ⟨b6, b4, b5⟩
end Go.Proofs.YtfhkfnoajbbfdabGreatDoor

/- Every program that is read lies so. -/
namespace Go.Proofs.YtfhkfnoajbbfdabGreatDoor
open Go.RowKit

section
variable {st st' : RS} {k : Nat} {s : St}

theorem gSt_deep (hok : st.Ok k) (h : st.Deep) (hloop : ∀ n, s = St.loop n → 1 ≤ n ∧ n ≤ 4) (hg : gSt st s = .ok st') : st'.Deep := by
  obtain ⟨lv, h⟩ := h
  unfold gSt at hg
  split at hg
  · simp at hg
  · cases hl : st.lastT with
    | none => simp [hl] at hg
    | some p =>
      obtain ⟨t, l, c⟩ := p
      cases ho : st.opn.getLast? with
      | none => simp [hl, ho] at hg
      | some o =>
        rw [hl, ho] at hg
        simp only at hg
        split at hg
        · simp at hg
        · split at hg
          · simp at hg
          · rename_i hr
            obtain ⟨ol, hol⟩ := List.getLast?_eq_some_iff.1 ho
            have : st.lay t o l c s = st' := by simpa using hg
            rw [← this]
            exact h.lay hok hl hol (by simpa using hr) hloop

theorem DeepL.share {lv : Nat → Nat} (h : DeepL st lv) (x : ByteArray) (c : Int) : RS.Deep { st with shared := st.shared ++ [(x, st.cells, c)], cells := st.cells + c } :=
  ⟨lv, { nest := h.nest, le := h.le, op := h.op, leaf := h.leaf, loop := h.loop, thr := h.thr }⟩

theorem gPLine_deep {ws : List ByteArray} (hok : st.Ok k) (h : st.Deep) (hg : gPLine st ws = .ok st') : st'.Deep := by
  have hD := h
  obtain ⟨lv, h⟩ := h
  unfold gPLine at hg
  rcases ws with _ | ⟨u, us⟩
  · simp at hg
  · simp only at hg
    split at hg
    · unfold gShared at hg
      cases hn : gNm us with
      | none => simp [hn] at hg
      | some p =>
        obtain ⟨x, us1⟩ := p
        rw [hn] at hg
        rcases us1 with _ | ⟨u1, us1⟩
        · simp only at hg
          split at hg
          · simp at hg
          · split at hg
            · simp at hg
            · simp only [Except.ok.injEq] at hg
              rw [← hg]; exact h.share x 1
        · simp only at hg
          cases hi : gIn 1 6 (u1 :: us1) with
          | none => simp [hi] at hg
          | some q =>
            obtain ⟨v, us2⟩ := q
            rw [hi] at hg
            rcases us2 with _ | ⟨u2, us2⟩
            · simp only at hg
              split at hg
              · simp at hg
              · split at hg
                · simp at hg
                · simp only [Except.ok.injEq] at hg
                  rw [← hg]; exact h.share x v
            · simp at hg
    · split at hg
      · unfold gThread at hg
        rcases us with _ | ⟨u1, us1⟩
        · simp only at hg
          split at hg
          · simp at hg
          · simp only [Except.ok.injEq] at hg
            rw [← hg]; exact h.newT hok
        · simp at hg
      · split at hg
        · unfold gEnd at hg
          rcases us with _ | ⟨u1, us1⟩
          · simp only at hg
            split at hg
            · simp at hg
            · simp only [Except.ok.injEq] at hg
              rw [← hg]; exact h.pop
          · simp at hg
        · cases hs : gStmt u us with
          | none => simp [hs] at hg
          | some p =>
            obtain ⟨s, us1⟩ := p
            rw [hs] at hg
            rcases us1 with _ | ⟨u1, us1⟩
            · exact gSt_deep hok hD (fun n e => gStmt_loop (e ▸ hs)) hg
            · simp at hg
end

theorem gPText_deep : ∀ (f : Nat) (r : List UInt8) (j : Nat) (st st' : RS), st.Ok j → st.Deep → gPText f r j st = .ok st' → st'.Deep
  | 0, _, _, st, st', _, hd, h => by simp only [gPText, Except.ok.injEq] at h; exact h ▸ hd
  | f + 1, r, j, st, st', ho, hd, h => by
    simp only [gPText] at h
    split at h
    · simp only [Except.ok.injEq] at h; exact h ▸ hd
    · generalize Lib.cut r [10] = q at h
      obtain ⟨l, r', b⟩ := q
      cases b with
      | false => simp at h
      | true =>
        simp only at h
        cases hg : gPLine st (wordsOf l) with
        | error er => simp [hg] at h
        | ok st2 =>
          rw [hg] at h
          exact gPText_deep f r' (j + 1) st2 st' (gPLine_ok ho hg) (gPLine_deep ho hd hg) h

theorem gLines_deep {s : ByteArray} {st : RS} (h : gLines s = .ok st) : st.Deep := by
  unfold gLines at h
  split at h
  · simp at h
  · exact gPText_deep _ _ 0 RS.none st none_ok none_deep h
end Go.Proofs.YtfhkfnoajbbfdabGreatDoor

/- What a program that is read is made of, as the coder wants it: what stands in a block, how many statements lie within one another. -/
namespace Go.Proofs.YtfhkfnoajbbfdabGreatDoor
open Go.RowKit

def isSub (j : Nat) : En → Bool
  | .inl _ => false
  | .inr k => decide (k = j)

def wtE (wt : Nat → Nat) : En → Nat
  | .inl _ => 1
  | .inr j => 1 + wt j

def RS.isAt (st : RS) (j : Nat) : Bool := ((st.hk j).map HK.isAtomic).getD false

/-- A leaf, b: in a block. -/
structure LfOk (st : RS) (b : Bool) (s : St) : Prop where
  nh : stHolds s = false
  sz : StSz s
  nm : StNum s
  of : ∀ f, stOf2 s = some f → b = true ∧ st.isSh f = true

/-- A statement that holds others; b: it stands in a block; b': what it holds does. -/
structure SubOk (b b' : Bool) (s : St) : Prop where
  hh : stHolds s = true
  sz : StSz s
  nm : StNum s
  lp : ∀ n, s = St.loop n → 1 ≤ n ∧ n ≤ 4
  at1 : HK.isAtomic (.st s) = true → b = false ∧ b' = true
  at0 : HK.isAtomic (.st s) = false → b' = b

/-- lv: how deep each lies; ib: whether in a block; wt: how many statements, at least. -/
structure Fit (st : RS) (lv : Nat → Nat) (ib : Nat → Bool) (wt : Nat → Nat) : Prop where
  nest : ∀ (i : Nat) (h : Hd), st.hs[i]? = some h → ∀ j, .inr j ∈ h.ents → lv j = lv i + 1 ∧ ∃ s, st.hk j = some (.st s) ∧ SubOk (ib i) (ib j) s
  le : ∀ i, i < st.hs.length → lv i ≤ 3
  op : ∀ (m j : Nat), st.opn[m]? = some j → lv j = m ∧ ib j = (st.opn.take (m + 1)).any st.isAt
  hd : ∀ j, st.opn[0]? = some j → st.threads.getLast? = some j
  leaf : ∀ (i : Nat) (h : Hd), st.hs[i]? = some h → ∀ s, .inl s ∈ h.ents → LfOk st (ib i) s
  thr : ∀ t ∈ st.threads, lv t = 0 ∧ ib t = false
  occ : ∀ j ∈ st.opn, ∀ (i : Nat) (h : Hd), st.hs[i]? = some h → h.ents.countP (isSub j) ≤ 1 ∧ (.inr j ∈ h.ents → i ∈ st.opn)
  w : ∀ (i : Nat) (h : Hd), st.hs[i]? = some h → (h.ents.map (wtE wt)).sum ≤ wt i
  c : ∀ t ∈ st.threads, ∀ l c, st.hk t = some (.thr l c) → wt t ≤ c
  sh : ∀ p ∈ st.shared, 0 ≤ p.2.1 ∧ 1 ≤ p.2.2 ∧ p.2.1 + p.2.2 ≤ st.cells

def RS.Fits (st : RS) : Prop := ∃ lv ib wt, Fit st lv ib wt

theorem none_fits : RS.none.Fits := ⟨fun _ => 0, fun _ => false, fun _ => 0, ⟨fun i h hh => by simp [RS.none] at hh, fun i hi => by simp [RS.none] at hi, fun m j hj => by simp [RS.none] at hj, fun j hj => by simp [RS.none] at hj, fun i h hh => by simp [RS.none] at hh, fun t ht => by simp [RS.none] at ht, fun j hj => by simp [RS.none] at hj, fun i h hh => by simp [RS.none] at hh, fun t ht => by simp [RS.none] at ht, fun p hp => by simp [RS.none] at hp⟩⟩

theorem any_eq {α : Type} {f g : α → Bool} : ∀ (l : List α), (∀ x ∈ l, f x = g x) → l.any f = l.any g
  | [], _ => rfl
  | a :: r, h => by
    rw [List.any_cons, List.any_cons, h a (by simp), any_eq r fun x hx => h x (List.mem_cons_of_mem _ hx)]

theorem sum_eq (wt wt' : Nat → Nat) (es : List En) (h : ∀ j, .inr j ∈ es → wt' j = wt j) : (es.map (wtE wt')).sum = (es.map (wtE wt)).sum := by
  congr 1
  apply List.map_congr_left
  intro e he
  cases e with
  | inl s => rfl
  | inr j => simp only [wtE]; rw [h j he]

theorem sum_inc (wt wt' : Nat → Nat) (j : Nat) : ∀ (es : List En), (∀ i, .inr i ∈ es → wt' i = wt i + if i = j then 1 else 0) → (es.map (wtE wt')).sum = (es.map (wtE wt)).sum + es.countP (isSub j)
  | [], _ => by simp
  | e :: r, h => by
    have hr := sum_inc wt wt' j r fun i hi => h i (List.mem_cons_of_mem _ hi)
    cases e with
    | inl s =>
      simp only [List.map_cons, List.sum_cons, wtE, List.countP_cons, isSub]
      rw [hr]
      simp
      omega
    | inr i =>
      have hi := h i (by simp)
      simp only [List.map_cons, List.sum_cons, wtE, List.countP_cons, isSub]
      rw [hr, hi]
      by_cases e : i = j
      · simp [e]; omega
      · simp [e]; omega

section
variable {st st' : RS} {lv : Nat → Nat} {ib : Nat → Bool} {wt : Nat → Nat} {k t o : Nat} {l l' : List ByteArray} {c : Nat} {s : St}

def enFit (st : RS) (lv : Nat → Nat) (ib : Nat → Bool) (wt : Nat → Nat) (o : Nat) : En → Prop
  | .inl s => LfOk st (ib o) s
  | .inr j => lv j = lv o + 1 ∧ (∃ s, st.hk j = some (.st s) ∧ SubOk (ib o) (ib j) s) ∧ j ∉ st.opn ∧ wt j = 0

theorem Fit.mem (h : Fit st lv ib wt) {j : Nat} (hj : j ∈ st.opn) : st.opn[lv j]? = some j := by
  obtain ⟨m, hm⟩ := List.mem_iff_getElem?.1 hj
  rw [(h.op m j hm).1]
  exact hm

theorem Fit.upd (h : Fit st lv ib wt) (hl : st.lastT = some (t, l, c)) {ol : List Nat} (ho : st.opn = ol ++ [o]) (e : En) (he : enFit st lv ib wt o e)
    (hsame : st'.shared = st.shared ∧ st'.cells = st.cells ∧ st'.threads = st.threads ∧ st'.opn = st.opn) (hlen : st'.hs.length = st.hs.length) (hget : ∀ j, st'.hs[j]? = (st.hs[j]?).map (updHd t o (.thr l' (c + 1)) e j)) :
    Fit st' lv ib (fun i => wt i + if i ∈ st.opn then 1 else 0) := by
  obtain ⟨s1, s2, s3, s4⟩ := hsame
  obtain ⟨tl, htl, hkt⟩ := lastT_some hl
  have hom : o ∈ st.opn := by rw [ho]; simp
  have hkj : ∀ j, st'.hk j = (st.hk j).map fun q => if j = t then .thr l' (c + 1) else q := by
    intro j
    unfold RS.hk
    rw [hget]
    cases st.hs[j]? <;> rfl
  have hinv : ∀ (j : Nat) (x : Hd), st'.hs[j]? = some x → ∃ y, st.hs[j]? = some y ∧ x = updHd t o (.thr l' (c + 1)) e j y := by
    intro j x hx
    rw [hget] at hx
    cases hy : st.hs[j]? with
    | none => simp [hy] at hx
    | some y => exact ⟨y, rfl, by simpa [hy] using hx.symm⟩
  have hst : ∀ j s, st.hk j = some (.st s) → st'.hk j = some (.st s) := by
    intro j s hj
    have : j ≠ t := fun e => by rw [e, hkt] at hj; simp at hj
    rw [hkj, hj]
    simp [this]
  have hat : ∀ j, st'.isAt j = st.isAt j := by
    intro j
    unfold RS.isAt
    rw [hkj]
    by_cases e1 : j = t
    · subst e1; rw [hkt]; simp [HK.isAtomic]
    · simp [e1]
  have hlf : ∀ {b s}, LfOk st b s → LfOk st' b s := fun q => ⟨q.nh, q.sz, q.nm, fun f hf => ⟨(q.of f hf).1, by unfold RS.isSh; rw [s1]; exact (q.of f hf).2⟩⟩
  have hlo : lv o = ol.length := (h.op ol.length o (by rw [ho]; simp)).1
  have hopl : st.opn.length = ol.length + 1 := by rw [ho]; simp
  have hpar : ∀ (i : Nat) (y : Hd), st.hs[i]? = some y → ∀ j ∈ st.opn, .inr j ∈ y.ents → i ∈ st.opn ∧ i ≠ o ∧ ∀ j' ∈ st.opn, .inr j' ∈ y.ents → j' = j := by
    intro i y hy j hj hm
    have l1 := (h.nest i y hy j hm).1
    have m1 := h.mem hj
    have lt1 := (List.getElem?_eq_some_iff.1 m1).1
    refine ⟨(h.occ j hj i y hy).2 hm, fun e1 => ?_, fun j' hj' hm' => ?_⟩
    · subst e1; omega
    · have l2 := (h.nest i y hy j' hm').1
      have m2 := h.mem hj'
      rw [l2, ← l1, m1] at m2
      simpa using m2.symm
  have hsum : ∀ (i : Nat) (y : Hd), st.hs[i]? = some y → (y.ents.map (wtE fun i => wt i + if i ∈ st.opn then 1 else 0)).sum ≤ (y.ents.map (wtE wt)).sum + (if i ∈ st.opn ∧ i ≠ o then 1 else 0) := by
    intro i y hy
    by_cases hex : ∃ j ∈ st.opn, .inr j ∈ y.ents
    · obtain ⟨j, hj, hm⟩ := hex
      obtain ⟨p1, p2, p3⟩ := hpar i y hy j hj hm
      rw [if_pos ⟨p1, p2⟩, sum_inc wt _ j]
      · have := (h.occ j hj i y hy).1
        omega
      · intro i' hi'
        by_cases e1 : i' = j
        · subst e1; simp [hj]
        · have : i' ∉ st.opn := fun q => e1 (p3 i' q hi')
          simp [this, e1]
    · rw [sum_eq wt _]
      · omega
      · intro j hj
        have : j ∉ st.opn := fun q => hex ⟨j, q, hj⟩
        simp [this]
  refine { nest := ?_, le := by rw [hlen]; exact h.le, op := ?_, hd := by rw [s4, s3]; exact h.hd, leaf := ?_, thr := by rw [s3]; exact h.thr, occ := ?_, w := ?_, c := ?_, sh := by rw [s1, s2]; exact h.sh }
  · intro i x hx j hj
    obtain ⟨y, hy, rfl⟩ := hinv i x hx
    simp only [updHd] at hj
    by_cases e1 : i = o
    · rw [if_pos e1, List.mem_append] at hj
      rcases hj with hj | hj
      · obtain ⟨q1, s, q2, q3⟩ := h.nest i y hy j hj
        exact ⟨q1, s, hst j s q2, q3⟩
      · have : e = .inr j := by simp at hj; exact hj.symm
        subst this
        obtain ⟨q1, ⟨s, q2, q3⟩, _⟩ := he
        exact ⟨e1 ▸ q1, s, hst j s q2, e1 ▸ q3⟩
    · rw [if_neg e1] at hj
      obtain ⟨q1, s, q2, q3⟩ := h.nest i y hy j hj
      exact ⟨q1, s, hst j s q2, q3⟩
  · intro m j hj
    rw [s4] at hj ⊢
    obtain ⟨q1, q2⟩ := h.op m j hj
    exact ⟨q1, q2.trans (any_eq _ fun x _ => (hat x).symm)⟩
  · intro i x hx s hs
    obtain ⟨y, hy, rfl⟩ := hinv i x hx
    simp only [updHd] at hs
    by_cases e1 : i = o
    · rw [if_pos e1, List.mem_append] at hs
      rcases hs with hs | hs
      · exact hlf (h.leaf i y hy s hs)
      · have : e = .inl s := by simp at hs; exact hs.symm
        subst this
        exact e1 ▸ hlf he
    · rw [if_neg e1] at hs
      exact hlf (h.leaf i y hy s hs)
  · intro j hj i x hx
    rw [s4] at hj ⊢
    obtain ⟨y, hy, rfl⟩ := hinv i x hx
    have hej : isSub j e = false := by
      cases e with
      | inl s => rfl
      | inr n =>
        have : n ≠ j := fun q => he.2.2.1 (q ▸ hj)
        simp [isSub, this]
    simp only [updHd]
    obtain ⟨o1, o2⟩ := h.occ j hj i y hy
    by_cases e1 : i = o
    · rw [if_pos e1, List.countP_append, List.countP_singleton, hej]
      refine ⟨by simpa using o1, fun hm => ?_⟩
      rw [e1]
      exact hom
    · rw [if_neg e1]
      exact ⟨o1, o2⟩
  · intro i x hx
    obtain ⟨y, hy, rfl⟩ := hinv i x hx
    have hs := hsum i y hy
    have hw := h.w i y hy
    simp only [updHd]
    by_cases e1 : i = o
    · have hn : ¬ (i ∈ st.opn ∧ i ≠ o) := fun q => q.2 e1
      rw [if_neg hn] at hs
      rw [if_pos e1, List.map_append, List.sum_append, if_pos (show i ∈ st.opn from e1 ▸ hom)]
      have hee : wtE (fun i => wt i + if i ∈ st.opn then 1 else 0) e = 1 := by
        cases e with
        | inl s => rfl
        | inr n =>
          have := he.2.2
          simp [wtE, this.1, this.2]
      simp only [List.map_cons, List.map_nil, List.sum_cons, List.sum_nil, hee]
      omega
    · rw [if_neg e1]
      by_cases e2 : i ∈ st.opn
      · rw [if_pos ⟨e2, e1⟩] at hs
        rw [if_pos e2]
        omega
      · rw [if_neg (fun q => e2 q.1)] at hs
        rw [if_neg e2]
        omega
  · intro t2 ht2 l2 c2 hk2
    rw [s3] at ht2
    rw [hkj] at hk2
    by_cases e1 : t2 = t
    · subst e1
      rw [hkt] at hk2
      simp at hk2
      have := h.c t2 ht2 l c hkt
      show wt t2 + _ ≤ c2
      split <;> omega
    · have hk3 : st.hk t2 = some (.thr l2 c2) := by
        cases hq : st.hk t2 with
        | none => simp [hq] at hk2
        | some q => simpa [hq, e1] using hk2
      have hno : t2 ∉ st.opn := by
        intro hm
        have m1 := h.mem hm
        rw [(h.thr t2 ht2).1] at m1
        have := h.hd t2 m1
        rw [htl] at this
        simp at this
        exact e1 this.symm
      have := h.c t2 ht2 l2 c2 hk3
      show wt t2 + _ ≤ c2
      rw [if_neg hno]
      omega
end
end Go.Proofs.YtfhkfnoajbbfdabGreatDoor

/- Every program that is read is fit. -/
namespace Go.Proofs.YtfhkfnoajbbfdabGreatDoor
open Go.RowKit

section
variable {st st' : RS} {lv : Nat → Nat} {ib : Nat → Bool} {wt : Nat → Nat} {k t o : Nat} {l l' : List ByteArray} {c : Nat} {s : St}

theorem isAt_old {j : Nat} (hj : j < st.hs.length) (x : Hd) : RS.isAt { st with hs := st.hs ++ [x] } j = st.isAt j := by
  unfold RS.isAt RS.hk
  have : (st.hs ++ [x])[j]? = st.hs[j]? := List.getElem?_append_left hj
  show ((((st.hs ++ [x])[j]?).map _).map _).getD false = _
  rw [this]

theorem hs_new {x : Hd} {j : Nat} {y : Hd} (hy : (st.hs ++ [x])[j]? = some y) : (j < st.hs.length ∧ st.hs[j]? = some y) ∨ (j = st.hs.length ∧ y = x) := by
  by_cases e : j < st.hs.length
  · left; exact ⟨e, by rw [← hy, List.getElem?_append_left e]⟩
  · right
    have hj := (List.getElem?_eq_some_iff.1 hy).1
    simp at hj
    obtain rfl : j = st.hs.length := by omega
    simp at hy
    exact ⟨rfl, hy.symm⟩

theorem hk_old {j : Nat} (hj : j < st.hs.length) (x : Hd) : RS.hk { st with hs := st.hs ++ [x] } j = st.hk j := by
  unfold RS.hk
  show ((st.hs ++ [x])[j]?).map _ = _
  rw [List.getElem?_append_left hj]

/-- A holder more, which nothing holds yet. -/
theorem Fit.newH (h : Fit st lv ib wt) (hok : st.Ok k) (s : St) (x : Nat) (hx : x ≤ 3) (b : Bool) :
    Fit (st.newH s) (fun i => if i = st.hs.length then x else lv i) (fun i => if i = st.hs.length then b else ib i) (fun i => if i = st.hs.length then 0 else wt i) := by
  have hopn : ∀ j ∈ st.opn, j < st.hs.length := hok.ent.2.2
  have hent : ∀ (i : Nat) (y : Hd), st.hs[i]? = some y → ∀ j, .inr j ∈ y.ents → j < st.hs.length := fun i y hy j hj => hok.ent.1 y (List.mem_iff_getElem?.2 ⟨i, hy⟩) j hj
  refine { nest := ?_, le := ?_, op := ?_, hd := h.hd, leaf := ?_, thr := ?_, occ := ?_, w := ?_, c := ?_, sh := h.sh }
  · intro i y hy j hj
    rcases hs_new hy with ⟨hi, hy'⟩ | ⟨_, rfl⟩
    · have hjl := hent i y hy' j hj
      obtain ⟨q1, s2, q2, q3⟩ := h.nest i y hy' j hj
      try simp only
      rw [if_neg (by omega), if_neg (by omega), if_neg (by omega), if_neg (by omega)]
      exact ⟨q1, s2, (hk_old hjl _).trans q2, q3⟩
    · simp at hj
  · intro i hi
    have : i < st.hs.length + 1 := by simpa [RS.newH] using hi
    try simp only
    split
    · exact hx
    · exact h.le i (by omega)
  · intro m j hj
    have hjo : j ∈ st.opn := List.mem_iff_getElem?.2 ⟨m, hj⟩
    have hjl := hopn j hjo
    obtain ⟨q1, q2⟩ := h.op m j hj
    try simp only
    rw [if_neg (by omega), if_neg (by omega)]
    exact ⟨q1, q2.trans (any_eq _ fun y hy => (isAt_old (hopn y (List.mem_of_mem_take hy)) _).symm)⟩
  · intro i y hy s2 hs2
    rcases hs_new hy with ⟨hi, hy'⟩ | ⟨_, rfl⟩
    · try simp only
      rw [if_neg (by omega)]
      have q := h.leaf i y hy' s2 hs2
      exact ⟨q.nh, q.sz, q.nm, q.of⟩
    · simp at hs2
  · intro t ht
    have : t < st.hs.length := hok.ent.2.1 t ht
    try simp only
    rw [if_neg (by omega), if_neg (by omega)]
    exact h.thr t ht
  · intro j hj i y hy
    rcases hs_new hy with ⟨hi, hy'⟩ | ⟨_, rfl⟩
    · exact h.occ j hj i y hy'
    · simp
  · intro i y hy
    rcases hs_new hy with ⟨hi, hy'⟩ | ⟨_, rfl⟩
    · try simp only
      rw [if_neg (by omega), sum_eq wt _ y.ents fun j hj => by
        have := hent i y hy' j hj
        rw [if_neg (by omega)]]
      exact h.w i y hy'
    · simp
  · intro t ht l c hk
    have : t < st.hs.length := hok.ent.2.1 t ht
    try simp only
    rw [if_neg (by omega)]
    exact h.c t ht l c ((hk_old this _).symm.trans hk)

theorem inB_is (h : Fit st lv ib wt) {ol : List Nat} (ho : st.opn = ol ++ [o]) : ib o = st.inB := by
  rw [(h.op ol.length o (by rw [ho]; simp)).2]
  have : st.opn.take (ol.length + 1) = st.opn := List.take_of_length_le (by rw [ho]; simp)
  rw [this]
  rfl

theorem holds_of2 (hh : stHolds s = true) : HK.isAtomic (.st s) = true ↔ s = St.atomic := by
  rcases s with ⟨to, a⟩ | ⟨to, k, a, c⟩ | ⟨to, f, a⟩ | ⟨f, a, c⟩ | a | ⟨⟩ | a | n <;> simp_all [stHolds, HK.isAtomic]

theorem mayStand_at (hm : st.mayStand St.atomic = true) : st.inB = false := by
  simp [RS.mayStand] at hm
  exact hm.2

theorem mayStand_of {f : ByteArray} (hm : st.mayStand s = true) (hf : stOf2 s = some f) : st.inB = true := by
  rcases s with ⟨to, a⟩ | ⟨to, k, a, c⟩ | ⟨to, f, a⟩ | ⟨f, a, c⟩ | a | ⟨⟩ | a | n <;> simp_all [stOf2, RS.mayStand]

theorem mayName_of {f : ByteArray} (hm : st.mayName l s = true) (hf : stOf2 s = some f) : st.isSh f = true := by
  unfold RS.mayName at hm
  rw [hf] at hm
  simp only [Bool.and_eq_true] at hm
  exact hm.2.2

theorem Fit.lay (h : Fit st lv ib wt) (hok : st.Ok k) (hl : st.lastT = some (t, l, c)) {ol : List Nat} (ho : st.opn = ol ++ [o]) (hr : st.hasRoom l c s = true) (hm : st.mayStand s = true) (hnm : st.mayName l s = true)
    (hz : StSz s) (hn : StNum s) (hloop : ∀ n, s = St.loop n → 1 ≤ n ∧ n ≤ 4) : (st.lay t o l c s).Fits := by
  obtain ⟨r1, r2, r3⟩ := room_parts hr
  obtain ⟨tl, htl, hkt⟩ := lastT_some hl
  have hom : o ∈ st.opn := by rw [ho]; simp
  have htlt : t < st.hs.length := hok.ent.2.1 t (by rw [htl]; simp)
  have holt : o < st.hs.length := hok.ent.2.2 o hom
  have hlo : lv o = ol.length := (h.op ol.length o (by rw [ho]; simp)).1
  have hib := inB_is h ho
  have hent : ∀ (i : Nat) (y : Hd), st.hs[i]? = some y → ∀ j, .inr j ∈ y.ents → j < st.hs.length := fun i y hy j hj => hok.ent.1 y (List.mem_iff_getElem?.2 ⟨i, hy⟩) j hj
  unfold RS.lay
  split
  · rename_i hh
    have h3 := r3 hh
    have hlen3 : ol.length + 1 = st.opn.length := by rw [ho]; simp
    have hnew := h.newH hok s st.opn.length h3 (st.inB || HK.isAtomic (.st s))
    have hln : (st.newH s).lastT = some (t, l, c) := (Ok.newH hok s).2.trans hl
    have hknew : (st.newH s).hk st.hs.length = some (.st s) := by unfold RS.hk; simp [RS.newH]
    have hu := hnew.upd (l' := l) hln (show (st.newH s).opn = ol ++ [o] from ho) (.sub st.hs.length) (show enFit _ _ _ _ _ (.inr st.hs.length) from ⟨by
        show (if st.hs.length = st.hs.length then st.opn.length else lv st.hs.length) = (if o = st.hs.length then st.opn.length else lv o) + 1
        rw [if_pos rfl, if_neg (by omega), hlo]
        omega, ⟨s, hknew, hh, hz, hn, hloop, fun ha => by
        show (if o = st.hs.length then _ else ib o) = false ∧ (if st.hs.length = st.hs.length then _ else _) = true
        rw [if_neg (by omega), if_pos rfl, ha]
        have := (holds_of2 hh).1 ha
        subst this
        exact ⟨hib.trans (mayStand_at hm), by simp⟩, fun ha => by
        show (if st.hs.length = st.hs.length then _ else _) = (if o = st.hs.length then _ else ib o)
        rw [if_pos rfl, if_neg (by omega), ha, hib]
        simp⟩, fun q => by have := hok.ent.2.2 _ q; omega, by simp⟩) (setE_same _ _ _ _ _) (len_of_get (lay1_get _ _ _ _ _)) (lay1_get _ _ _ _ _)
    have hop : (((st.newH s).setK t (.thr l (c + 1))).addE o (.sub st.hs.length)).opn = st.opn := (setE_same _ _ _ _ _).2.2.2
    have hth : (((st.newH s).setK t (.thr l (c + 1))).addE o (.sub st.hs.length)).threads = st.threads := (setE_same _ _ _ _ _).2.2.1
    have hget : ∀ j, (((st.newH s).setK t (.thr l (c + 1))).addE o (.sub st.hs.length)).hs[j]? = _ := lay1_get (st.newH s) t o (.thr l (c + 1)) (.sub st.hs.length)
    generalize ((st.newH s).setK t (.thr l (c + 1))).addE o (.sub st.hs.length) = st2 at *
    have hat : st2.isAt st.hs.length = HK.isAtomic (.st s) := by
      unfold RS.isAt RS.hk
      rw [hget]
      have : (st.newH s).hs[st.hs.length]? = some ⟨.st s, []⟩ := by simp [RS.newH]
      rw [this]
      have e1 : st.hs.length ≠ t := by omega
      simp [updHd, e1]
    refine ⟨_, _, _, { nest := hu.nest, le := hu.le, op := ?_, hd := ?_, leaf := ?_, thr := hu.thr, occ := ?_, w := hu.w, c := hu.c, sh := hu.sh }⟩
    · intro m j hj
      have hj' : (st.opn ++ [st.hs.length])[m]? = some j := hj
      rcases Nat.lt_or_ge m st.opn.length with hm' | hm'
      · rw [List.getElem?_append_left hm'] at hj'
        obtain ⟨q1, q2⟩ := hu.op m j (by rw [hop]; exact hj')
        refine ⟨q1, q2.trans ?_⟩
        show (st2.opn.take (m + 1)).any st2.isAt = ((st.opn ++ [st.hs.length]).take (m + 1)).any st2.isAt
        rw [hop, List.take_append_of_le_length (by omega)]
      · have hml := (List.getElem?_eq_some_iff.1 hj').1
        simp at hml
        obtain rfl : m = st.opn.length := by omega
        simp at hj'
        subst hj'
        refine ⟨by simp, ?_⟩
        show _ = ((st.opn ++ [st.hs.length]).take (st.opn.length + 1)).any st2.isAt
        rw [List.take_of_length_le (by simp), List.any_append]
        have hpre : st.opn.any st2.isAt = st.inB := by
          have q := hu.op ol.length o (by rw [hop, ho]; simp)
          have e2 : st2.opn.take (ol.length + 1) = st.opn := by rw [hop]; exact List.take_of_length_le (by omega)
          rw [e2] at q
          rw [← q.2]
          try simp only
          rw [if_neg (by omega)]
          exact hib
        rw [hpre]
        simp [hat]
    · intro j hj
      have hj' : (st.opn ++ [st.hs.length])[0]? = some j := hj
      rw [List.getElem?_append_left (by omega)] at hj'
      exact hu.hd j (by rw [hop]; exact hj')
    · intro i y hy s2 hs2
      have q := hu.leaf i y hy s2 hs2
      exact ⟨q.nh, q.sz, q.nm, q.of⟩
    · intro j hj i y hy
      have hj' : j ∈ st.opn ++ [st.hs.length] := hj
      have hy' : st2.hs[i]? = some y := hy
      show _ ∧ (_ → i ∈ st.opn ++ [st.hs.length])
      rcases List.mem_append.1 hj' with hj2 | hj2
      · obtain ⟨q1, q2⟩ := hu.occ j (by rw [hop]; exact hj2) i y hy
        rw [hop] at q2
        exact ⟨q1, fun q => List.mem_append.2 (.inl (q2 q))⟩
      · simp at hj2
        subst hj2
        rw [hget] at hy'
        cases hz2 : (st.newH s).hs[i]? with
        | none => simp [hz2] at hy'
        | some z =>
          rw [hz2] at hy'
          simp at hy'
          subst hy'
          have hz0 : ∀ q, .inr q ∈ z.ents → q < st.hs.length := by
            intro q hq
            rcases hs_new (show (st.hs ++ [_])[i]? = some z from hz2) with ⟨_, hz'⟩ | ⟨_, rfl⟩
            · exact hent i z hz' q hq
            · simp at hq
          have hc0 : z.ents.countP (isSub st.hs.length) = 0 := by
            rw [List.countP_eq_zero]
            intro e he
            cases e with
            | inl s => simp [isSub]
            | inr q => have := hz0 q he; simp [isSub]; omega
          simp only [updHd]
          by_cases e1 : i = o
          · rw [if_pos e1, List.countP_append, hc0]
            exact ⟨by simp [isSub], fun _ => by simp [e1, hom]⟩
          · rw [if_neg e1, hc0]
            exact ⟨by omega, fun q => by have := hz0 _ q; omega⟩
  · rename_i hh
    have hh' : stHolds s = false := by simpa using hh
    have hlf : LfOk st (ib o) s := ⟨hh', hz, hn, fun f hf => ⟨hib.trans (mayStand_of hm hf), mayName_of hnm hf⟩⟩
    split
    · refine ⟨lv, ib, _, h.upd (l' := l ++ [stTo s]) hl ho (.leaf s) (show enFit _ _ _ _ _ (.inl s) from hlf) ?_ (len_of_get (lay2_get _ _ _ _ _ _)) (lay2_get _ _ _ _ _ _)⟩
      obtain ⟨a1, a2, a3, a4⟩ := setE_same (st.setK t (.thr l (c + 1))) t o (.thr (l ++ [stTo s]) (c + 1)) (.leaf s)
      obtain ⟨d1, d2, d3, d4⟩ := setK_same (st := st) t (.thr l (c + 1))
      exact ⟨a1.trans d1, a2.trans d2, a3.trans d3, a4.trans d4⟩
    · exact ⟨lv, ib, _, h.upd (l' := l) hl ho (.leaf s) (show enFit _ _ _ _ _ (.inl s) from hlf) (setE_same _ _ _ _ _) (len_of_get (lay1_get _ _ _ _ _)) (lay1_get _ _ _ _ _)⟩

theorem Fit.newT (h : Fit st lv ib wt) (hok : st.Ok k) : st.newT.Fits := by
  have hopn : ∀ j ∈ st.opn, j < st.hs.length := hok.ent.2.2
  have hent : ∀ (i : Nat) (y : Hd), st.hs[i]? = some y → ∀ j, .inr j ∈ y.ents → j < st.hs.length := fun i y hy j hj => hok.ent.1 y (List.mem_iff_getElem?.2 ⟨i, hy⟩) j hj
  have hkn : st.newT.hk st.hs.length = some (.thr [] 0) := by unfold RS.hk; simp [RS.newT]
  have hko : ∀ j, j < st.hs.length → st.newT.hk j = st.hk j := fun j hj => by
    unfold RS.hk
    show ((st.hs ++ [_])[j]?).map _ = _
    rw [List.getElem?_append_left hj]
  have hat : st.newT.isAt st.hs.length = false := by unfold RS.isAt; rw [hkn]; rfl
  refine ⟨fun i => if i = st.hs.length then 0 else lv i, fun i => if i = st.hs.length then false else ib i, fun i => if i = st.hs.length then 0 else wt i, { nest := ?_, le := ?_, op := ?_, hd := ?_, leaf := ?_, thr := ?_, occ := ?_, w := ?_, c := ?_, sh := h.sh }⟩
  · intro i y hy j hj
    rcases hs_new (show (st.hs ++ [_])[i]? = some y from hy) with ⟨hi, hy'⟩ | ⟨_, rfl⟩
    · have hjl := hent i y hy' j hj
      obtain ⟨q1, s2, q2, q3⟩ := h.nest i y hy' j hj
      try simp only
      rw [if_neg (by omega), if_neg (by omega), if_neg (by omega), if_neg (by omega)]
      exact ⟨q1, s2, (hko j hjl).trans q2, q3⟩
    · simp at hj
  · intro i hi
    have : i < st.hs.length + 1 := by simpa [RS.newT] using hi
    try simp only
    split
    · omega
    · exact h.le i (by omega)
  · intro m j hj
    have hj' : [st.hs.length][m]? = some j := hj
    have hm := (List.getElem?_eq_some_iff.1 hj').1
    simp at hm
    subst hm
    simp at hj'
    subst hj'
    refine ⟨by simp, ?_⟩
    show _ = ([st.hs.length].take 1).any st.newT.isAt
    simp [hat]
  · intro j hj
    have hj' : [st.hs.length][0]? = some j := hj
    simp at hj'
    subst hj'
    show (st.threads ++ [st.hs.length]).getLast? = _
    simp
  · intro i y hy s2 hs2
    rcases hs_new (show (st.hs ++ [_])[i]? = some y from hy) with ⟨hi, hy'⟩ | ⟨_, rfl⟩
    · try simp only
      rw [if_neg (by omega)]
      have q := h.leaf i y hy' s2 hs2
      exact ⟨q.nh, q.sz, q.nm, q.of⟩
    · simp at hs2
  · intro t ht
    rcases List.mem_append.1 (show t ∈ st.threads ++ [st.hs.length] from ht) with ht | ht
    · have : t < st.hs.length := hok.ent.2.1 t ht
      try simp only
      rw [if_neg (by omega), if_neg (by omega)]
      exact h.thr t ht
    · simp at ht
      simp [ht]
  · intro j hj i y hy
    have hj' : j = st.hs.length := by simpa [RS.newT] using hj
    subst hj'
    have hz0 : ∀ q, .inr q ∈ y.ents → q < st.hs.length := by
      intro q hq
      rcases hs_new (show (st.hs ++ [_])[i]? = some y from hy) with ⟨_, hz'⟩ | ⟨_, rfl⟩
      · exact hent i y hz' q hq
      · simp at hq
    have hc0 : y.ents.countP (isSub st.hs.length) = 0 := by
      rw [List.countP_eq_zero]
      intro e he
      cases e with
      | inl s => simp [isSub]
      | inr q => have := hz0 q he; simp [isSub]; omega
    rw [hc0]
    exact ⟨by omega, fun q => by have := hz0 _ q; omega⟩
  · intro i y hy
    rcases hs_new (show (st.hs ++ [_])[i]? = some y from hy) with ⟨hi, hy'⟩ | ⟨_, rfl⟩
    · try simp only
      rw [if_neg (by omega), sum_eq wt _ y.ents fun j hj => by
        have := hent i y hy' j hj
        rw [if_neg (by omega)]]
      exact h.w i y hy'
    · simp
  · intro t ht l c hk
    rcases List.mem_append.1 (show t ∈ st.threads ++ [st.hs.length] from ht) with ht | ht
    · have : t < st.hs.length := hok.ent.2.1 t ht
      try simp only
      rw [if_neg (by omega)]
      exact h.c t ht l c ((hko t this).symm.trans hk)
    · simp at ht
      simp [ht]

theorem Fit.pop (h : Fit st lv ib wt) : RS.Fits { st with opn := st.opn.dropLast } := by
  have sub : ∀ m j, st.opn.dropLast[m]? = some j → m + 1 < st.opn.length ∧ st.opn[m]? = some j := by
    intro m j hj
    rw [List.dropLast_eq_take, List.getElem?_take] at hj
    split at hj
    · exact ⟨by omega, hj⟩
    · simp at hj
  have memd : ∀ m j, m + 1 < st.opn.length → st.opn[m]? = some j → j ∈ st.opn.dropLast := by
    intro m j hm hj
    rw [List.dropLast_eq_take]
    exact List.mem_iff_getElem?.2 ⟨m, by rw [List.getElem?_take, if_pos (by omega)]; exact hj⟩
  refine ⟨lv, ib, wt, { nest := h.nest, le := h.le, op := ?_, hd := ?_, leaf := fun i y hy s hs => let q := h.leaf i y hy s hs; ⟨q.nh, q.sz, q.nm, q.of⟩, thr := h.thr, occ := ?_, w := h.w, c := h.c, sh := h.sh }⟩
  · intro m j hj
    obtain ⟨hm, hj'⟩ := sub m j hj
    obtain ⟨q1, q2⟩ := h.op m j hj'
    refine ⟨q1, q2.trans ?_⟩
    show (st.opn.take (m + 1)).any st.isAt = (st.opn.dropLast.take (m + 1)).any st.isAt
    rw [List.dropLast_eq_take, List.take_take, Nat.min_eq_left (by omega)]
  · intro j hj
    exact h.hd j (sub 0 j hj).2
  · intro j hj i y hy
    obtain ⟨m, hm⟩ := List.mem_iff_getElem?.1 (show j ∈ st.opn.dropLast from hj)
    obtain ⟨hlt, hj'⟩ := sub m j hm
    have hjo : j ∈ st.opn := List.mem_iff_getElem?.2 ⟨m, hj'⟩
    obtain ⟨q1, q2⟩ := h.occ j hjo i y hy
    refine ⟨q1, fun q => ?_⟩
    have e1 := (h.nest i y hy j q).1
    have e2 := (h.op m j hj').1
    exact memd (lv i) i (by omega) (h.mem (q2 q))

theorem Fit.share (h : Fit st lv ib wt) (hok : st.Ok k) (x : ByteArray) (c : Int) (hc : 1 ≤ c) : RS.Fits { st with shared := st.shared ++ [(x, st.cells, c)], cells := st.cells + c } := by
  refine ⟨lv, ib, wt, { nest := h.nest, le := h.le, op := h.op, hd := h.hd, leaf := fun i y hy s hs => let q := h.leaf i y hy s hs; ⟨q.nh, q.sz, q.nm, fun f hf => ⟨(q.of f hf).1, ?_⟩⟩, thr := h.thr, occ := h.occ, w := h.w, c := h.c, sh := ?_ }⟩
  · have := (q.of f hf).2
    unfold RS.isSh at this ⊢
    show (st.shared ++ [_]).any _ = true
    rw [List.any_append, this]
    rfl
  · intro p hp
    rcases List.mem_append.1 (show p ∈ st.shared ++ [(x, st.cells, c)] from hp) with hp | hp
    · obtain ⟨q1, q2, q3⟩ := h.sh p hp
      exact ⟨q1, q2, by show _ ≤ st.cells + c; omega⟩
    · simp at hp
      subst hp
      exact ⟨hok.cn.1, hc, Int.le_refl _⟩
end
end Go.Proofs.YtfhkfnoajbbfdabGreatDoor

/- Every program that is read is fit: line by line. -/
namespace Go.Proofs.YtfhkfnoajbbfdabGreatDoor
open Go.RowKit

section
variable {st st' : RS} {k : Nat} {s : St}

theorem gSt_fits (hok : st.Ok k) (h : st.Fits) (hz : StSz s) (hnn : StNum s) (hloop : ∀ n, s = St.loop n → 1 ≤ n ∧ n ≤ 4) (hg : gSt st s = .ok st') : st'.Fits := by
  obtain ⟨lv, ib, wt, h⟩ := h
  unfold gSt at hg
  split at hg
  · simp at hg
  · rename_i hms
    cases hl : st.lastT with
    | none => simp [hl] at hg
    | some p =>
      obtain ⟨t, l, c⟩ := p
      cases ho : st.opn.getLast? with
      | none => simp [hl, ho] at hg
      | some o =>
        rw [hl, ho] at hg
        simp only at hg
        split at hg
        · simp at hg
        · rename_i hmn
          split at hg
          · simp at hg
          · rename_i hr
            obtain ⟨ol, hol⟩ := List.getLast?_eq_some_iff.1 ho
            have : st.lay t o l c s = st' := by simpa using hg
            rw [← this]
            exact h.lay hok hl hol (by simpa using hr) (by simpa using hms) (by simpa using hmn) hz hnn hloop

theorem gPLine_fits {ws : List ByteArray} (hok : st.Ok k) (h : st.Fits) (hg : gPLine st ws = .ok st') : st'.Fits := by
  have hD := h
  obtain ⟨lv, ib, wt, h⟩ := h
  unfold gPLine at hg
  rcases ws with _ | ⟨u, us⟩
  · simp at hg
  · simp only at hg
    split at hg
    · unfold gShared at hg
      cases hn : gNm us with
      | none => simp [hn] at hg
      | some p =>
        obtain ⟨x, us1⟩ := p
        rw [hn] at hg
        rcases us1 with _ | ⟨u1, us1⟩
        · simp only at hg
          split at hg
          · simp at hg
          · split at hg
            · simp at hg
            · simp only [Except.ok.injEq] at hg
              rw [← hg]; exact h.share hok x 1 (by omega)
        · simp only at hg
          cases hi : gIn 1 6 (u1 :: us1) with
          | none => simp [hi] at hg
          | some q =>
            obtain ⟨v, us2⟩ := q
            rw [hi] at hg
            rcases us2 with _ | ⟨u2, us2⟩
            · simp only at hg
              split at hg
              · simp at hg
              · split at hg
                · simp at hg
                · simp only [Except.ok.injEq] at hg
                  rw [← hg]; exact h.share hok x v (gIn_in hi).1
            · simp at hg
    · split at hg
      · unfold gThread at hg
        rcases us with _ | ⟨u1, us1⟩
        · simp only at hg
          split at hg
          · simp at hg
          · simp only [Except.ok.injEq] at hg
            rw [← hg]; exact h.newT hok
        · simp at hg
      · split at hg
        · unfold gEnd at hg
          rcases us with _ | ⟨u1, us1⟩
          · simp only at hg
            split at hg
            · simp at hg
            · simp only [Except.ok.injEq] at hg
              rw [← hg]; exact h.pop
          · simp at hg
        · cases hs : gStmt u us with
          | none => simp [hs] at hg
          | some p =>
            obtain ⟨s, us1⟩ := p
            rw [hs] at hg
            rcases us1 with _ | ⟨u1, us1⟩
            · exact gSt_fits hok hD (gStmt_names hs) (gStmt_nums hs) (fun n e => gStmt_loop (e ▸ hs)) hg
            · simp at hg
end

theorem gPText_fits : ∀ (f : Nat) (r : List UInt8) (j : Nat) (st st' : RS), st.Ok j → st.Fits → gPText f r j st = .ok st' → st'.Fits
  | 0, _, _, st, st', _, hd, h => by simp only [gPText, Except.ok.injEq] at h; exact h ▸ hd
  | f + 1, r, j, st, st', ho, hd, h => by
    simp only [gPText] at h
    split at h
    · simp only [Except.ok.injEq] at h; exact h ▸ hd
    · generalize Lib.cut r [10] = q at h
      obtain ⟨l, r', b⟩ := q
      cases b with
      | false => simp at h
      | true =>
        simp only at h
        cases hg : gPLine st (wordsOf l) with
        | error er => simp [hg] at h
        | ok st2 =>
          rw [hg] at h
          exact gPText_fits f r' (j + 1) st2 st' (gPLine_ok ho hg) (gPLine_fits ho hd hg) h

theorem gLines_fits {s : ByteArray} {st : RS} (h : gLines s = .ok st) : st.Fits := by
  unfold gLines at h
  split at h
  · simp at h
  · exact gPText_fits _ _ 0 RS.none st none_ok none_fits h
end Go.Proofs.YtfhkfnoajbbfdabGreatDoor

/- All that stands within: the iterator, whatever it goes over. -/
namespace Go.Proofs.YtfhkfnoajbbfdabGreatDoor
open Go.RowKit Go.Shelf

attribute [local go_sem] Oper.semAt_some

section
variable {hs : List Hd} {ms : List HM} {W0 : World}

theorem walkL_nil (f : Nat) : walkL hs f [] = [] := by cases f <;> rfl

theorem enG_le : ∀ (d f : Nat) (e : En), enG hs f e → enG hs (f + d) e
  | 0, _, _, h => h
  | d + 1, f, e, h => enG_mono (f + d) e (enG_le d f e h)

theorem enG_3 {f : Nat} (hf : f ≤ 3) {e : En} (h : enG hs f e) : enG hs 3 e := by
  have := enG_le (3 - f) f e h
  rwa [show f + (3 - f) = 3 from by omega] at this

/-- What yield is asked. -/
def Yields (hs : List Hd) (ms : List HM) (W0 : World) (n₀ N l : Nat) (J Jx : List (EnIn hs) → World → Prop) : Prop :=
  ∀ m pre (x : EnIn hs) W, J pre W → Below W0.heap.size W0 W → pre.length < N → YieldAt Fence.wide m Tryz.prog l #[enV (idsOf ms) x.1] W fun e W' => (e = .returned (.bool true) ∧ J (pre ++ [x]) W' ∧ Below n₀ W W') ∨ (e = .returned (.bool false) ∧ Jx (pre ++ [x]) W')

theorem walk_nil (n l n₀ N : Nat) (hA0 : Ar hs ms W0) (hn₀ : W0.heap.size ≤ n₀) (J Jx : List (EnIn hs) → World → Prop) (hY : Hid (Yields hs ms W0 n₀ N l J Jx)) (pre : List (EnIn hs)) (W : World) (hJ : J pre W) (hW : Below W0.heap.size W0 W) (hN : pre.length ≤ N) :
    CallsIn Fence.wide n Tryz.prog 143 #[.slice none 0 0, .func (.yield l) #[] #[]] W fun e W' => (e = .returned (.bool true) ∧ (∃ ys : List (EnIn hs), ys.map (·.1) = [] ∧ J (pre ++ ys) W') ∧ Below n₀ W W') ∨ (e = .returned (.bool false) ∧ ∃ q : List (EnIn hs), q.map (·.1) <+: [] ∧ Jx (pre ++ q) W') :=
  walk_row n l n₀ N (es := []) hA0 hn₀ (nil_row W0) (by simp) (hid fun e he => by simp at he) J Jx hY (fun _ => []) (hid fun _ _ _ _ _ e he => by simp at he) pre W hJ hW (by simpa using hN)

theorem walk_in (l n₀ N : Nat) (hA0 : Ar hs ms W0) (hn₀ : W0.heap.size ≤ n₀) (J Jx : List (EnIn hs) → World → Prop) (hY : Hid (Yields hs ms W0 n₀ N l J Jx)) : ∀ f, f ≤ 3 → ∀ (n : Nat) (rv : Value) (es : List En), W0.ownsRow 0 222 1 rv es.length (es.map (enV (idsOf ms))) → es.length ≤ 14 → (∀ e ∈ es, enG hs f e) → ∀ (pre : List (EnIn hs)) (W : World), J pre W → Below W0.heap.size W0 W → pre.length + (walkL hs f es).length ≤ N →
    CallsIn Fence.wide n Tryz.prog 143 #[rv, .func (.yield l) #[] #[]] W fun e W' => (e = .returned (.bool true) ∧ (∃ ys : List (EnIn hs), ys.map (·.1) = walkL hs f es ∧ J (pre ++ ys) W') ∧ Below n₀ W W') ∨ (e = .returned (.bool false) ∧ ∃ q : List (EnIn hs), q.map (·.1) <+: walkL hs f es ∧ Jx (pre ++ q) W')
  | 0, _, n, rv, es, hrow, h14, hes, pre, W, hJ, hW, hN => by
    have e0 : (es.flatMap fun e => e :: (fun _ : En => ([] : List En)) e) = walkL hs 0 es := by simp [walkL]
    rw [← e0] at hN ⊢
    refine walk_row n l n₀ N hA0 hn₀ hrow h14 (hid fun e he => enG_3 (f := 0) (by omega) (hes e he)) J Jx hY (fun _ => []) (hid fun m pre W hJ hW e he hl => ?_) pre W hJ hW hN
    obtain ⟨s, rfl, hh⟩ := hes e he
    exact walk_nil m l n₀ N hA0 hn₀ J Jx hY pre W hJ hW (by simpa using hl)
  | f + 1, hf, n, rv, es, hrow, h14, hes, pre, W, hJ, hW, hN => by
    have e0 : (es.flatMap fun e => e :: (fun e : En => walkL hs f (enEnts hs e)) e) = walkL hs (f + 1) es := rfl
    rw [← e0] at hN ⊢
    refine walk_row n l n₀ N hA0 hn₀ hrow h14 (hid fun e he => enG_3 hf (hes e he)) J Jx hY (fun e => walkL hs f (enEnts hs e)) (hid fun m pre W hJ hW e he hl => ?_) pre W hJ hW hN
    rcases hes e he with ⟨s, rfl, hh⟩ | ⟨j, x, s, rfl, hj, hk, hh, ht, hl2, hsub⟩
    · have e1 : walkL hs f (enEnts hs (.inl s)) = [] := walkL_nil f
      simp only [e1]
      exact walk_nil m l n₀ N hA0 hn₀ J Jx hY pre W hJ hW (by omega)
    · obtain ⟨hl3, e1⟩ := hA0.at hj
      have hw : wiV ms (.inr j) = ms[j].rv := by simp [wiV, List.getElem?_eq_getElem hl3]
      have e2 : enEnts hs (.inr j) = x.ents := by simp only [enEnts, hj]
      simp only [e2] at hl ⊢
      rw [hw]
      have hr := (hA0.hd j hl3).row
      rw [e1] at hr
      exact walk_in l n₀ N hA0 hn₀ J Jx hY f (by omega) m _ _ hr hl2 hsub pre W hJ hW hl

set_option maxRecDepth 100000 in
set_option maxHeartbeats 1000000 in
theorem all1_in (n l n₀ Bt : Nat) {a : Option Addr} {p c : Nat} {es : List En} (hA0 : Ar hs ms W0) (hn₀ : W0.heap.size ≤ n₀) (hrow : W0.ownsRow 0 222 1 (.slice a p c) es.length (es.map (enV (idsOf ms)))) (h14 : es.length ≤ 14) (hes : ∀ e ∈ es, enG hs 3 e) (J Jx : List (EnIn hs) → World → Prop)
    (hY : Hid (Yields hs ms W0 n₀ (walkL hs 3 es).length l J Jx)) (W : World) (hW : Below W0.heap.size W0 W) (hBt : W.cell? ⟨Bt, 0, none⟩ = some (.slice a p c)) (h0 : J [] W) :
    CallsIn Fence.wide n Tryz.prog 142 #[.func (.yield l) #[] #[], .pointer (some ⟨Bt, 0, none⟩)] W fun e W' => (∃ v, e = .returned v) ∧ ((∃ ys : List (EnIn hs), ys.map (·.1) = walkL hs 3 es ∧ J ys W') ∨ (∃ pre : List (EnIn hs), pre.map (·.1) <+: walkL hs 3 es ∧ Jx pre W')) := by
  have hdd : ∀ k : Nat, (Fence.wide.depth.isSome = true → 1 ≤ k) := fun k h => by cases h
  have hw : ∀ f, Fence.wide.fn f := fun _ => trivial
  have hp := hid (walk_in l n₀ (walkL hs 3 es).length hA0 hn₀ J Jx hY 3 (by omega) (n - 1) (.slice a p c) es hrow h14 hes [] W h0 hW (by simp))
  clear hrow hes hA0 h0
  refine callsIn_of_wp Tryz.func142 rfl trivial ?_ rfl
  simp only [Tryz.ntmps142, List.size_toArray, List.length_cons, List.length_nil, Nat.reduceAdd, Nat.reduceSub, Array.replicate_succ, Array.replicate_zero, List.push_toArray, List.append_toArray, List.nil_append, List.cons_append]
  gi_wp2_with ((try refine ⟨hdd _, ?_⟩); gi_at_call 143; refine hp.out.mono ?_; clear hp; rintro e W1 (⟨rfl, hJ1⟩ | ⟨rfl, hx⟩))
  · obtain ⟨⟨ys, hy, hJ2⟩, _⟩ := hJ1
    go_end0
    exact ⟨⟨_, rfl⟩, .inl ⟨ys, hy, by simpa using hJ2⟩⟩
  · obtain ⟨q, hq, hx2⟩ := hx
    go_end0
    exact ⟨⟨_, rfl⟩, .inr ⟨q, hq, by simpa using hx2⟩⟩

set_option maxRecDepth 100000 in
set_option maxHeartbeats 1000000 in
theorem all_any (a : Option Addr) (p c : Nat) (w : World) : Calls Tryz.prog 100 #[.slice a p c] w fun e w' => e = .returned (.func (.func 142) #[] #[.pointer (some ⟨w.heap.size, 0, none⟩)]) ∧ w' = w.alloc (.cells #[.slice a p c] 154) := by
  have hmf : ∀ (fn : Fn) (first cap : Array Value) (w : World), (Instr.makeFunc fn first cap).run Tryz.prog w = .ok (.func fn first cap) w := fun _ _ _ _ => rfl
  go_enter Tryz.func100, Tryz.ntmps100
  go_wp2
  go_ret
  exact ⟨rfl, rfl⟩
end
end Go.Proofs.YtfhkfnoajbbfdabGreatDoor

/- Leaving a function that has ranged over functions several times: its marks, one behind the other. -/
namespace Go.Proofs.YtfhkfnoajbbfdabGreatDoor
open Go.RowKit Go.Shelf

def marks (Ds : List Nat) : List Deferred := Ds.map fun D => { target := .collected D, args := #[] }

theorem put_other (W : World) (D : Nat) (o : Obj) (b : Nat) (h : b ≠ D) : (W.putObj D o).heap[b]? = W.heap[b]? := by
  have h' : D ≠ b := fun e => h e.symm
  simp [World.putObj, h']

theorem leaves_marks {F : Fence} {n : Nat} {P : Program} {fn : Func} {tmps : Array Value} {R : Ending → World → Prop} (w : World) : ∀ (Ds : List Nat) (W : World), Ds.Nodup → (∀ D ∈ Ds, w.heap.size ≤ D ∧ W.heap[D]? = some (.deferred (some []))) →
    (∀ W', Below w.heap.size W W' → (∀ b : Nat, b ∉ Ds → W'.heap[b]? = W.heap[b]?) → LeavesIn F n P fn tmps R [] .returning W') → LeavesInM F n P fn tmps R (marks Ds) .returning W
  | [], W, _, _, hfin => hfin W (Below.refl _ _) (fun _ _ => rfl)
  | D :: Ds, W, hnd, hD, hfin => by
    obtain ⟨h1, h2⟩ := List.nodup_cons.1 hnd
    obtain ⟨hb, hK⟩ := hD D (by simp)
    refine ⟨by simp, .inl ⟨D, _, rfl, run_takeDeferred hK, leaves_marks w Ds _ h2 (fun D' hD' => ?_) (fun W' hW' hk => ?_)⟩⟩
    · obtain ⟨q1, q2⟩ := hD D' (by simp [hD'])
      refine ⟨q1, ?_⟩
      rw [put_other _ _ _ _ (show D' ≠ D from fun e => h1 (e ▸ hD'))]
      exact q2
    · refine hfin W' ((belowK_b (w := w) (Nat.le_refl _) W D _ _ hb hK rfl rfl).trans hW') (fun b hb' => ?_)
      have n1 : b ≠ D := fun e => hb' (by simp [e])
      have n2 : b ∉ Ds := fun e => hb' (by simp [e])
      rw [hk b n2, put_other _ _ _ _ n1]

/-- All's answer, as the law of a range asks for it. -/
theorem all_stops {hs : List Hd} {ms : List HM} (n Bt : Nat) {a : Option Addr} {p c : Nat} {es : List En} (w : World) (hA : Ar hs ms w) (hrow : w.ownsRow 0 222 1 (.slice a p c) es.length (es.map (enV (idsOf ms)))) (h14 : es.length ≤ 14) (hes : ∀ e ∈ es, enG hs 3 e) (hBt : w.cell? ⟨Bt, 0, none⟩ = some (.slice a p c)) :
    SeqStopsK Fence.wide n Tryz.prog 142 #[.pointer (some ⟨Bt, 0, none⟩)] (fun x : EnIn hs => #[enV (idsOf ms) x.1]) (Below w.heap.size) (fun ys => ys.map (·.1) = walkL hs 3 es) (fun pre => pre.map (·.1) <+: walkL hs 3 es) (walkL hs 3 es).length w := fun l J Jx W hW _ _ hY h0 =>
  all1_in n l w.heap.size Bt hA (Nat.le_refl _) hrow h14 hes J Jx (hid fun m pre x W' hJ _ hl => yield_any m (hY pre x W' hJ hl)) W hW ((hW.cell (p := ⟨Bt, 0, none⟩) (World.block_lt_of_cell? _ _ hBt)).trans hBt) h0
end Go.Proofs.YtfhkfnoajbbfdabGreatDoor

/- The signs of the operations (written by gen-pr23.py). -/
namespace Go.Proofs.YtfhkfnoajbbfdabGreatDoor
open Go.RowKit

theorem ba_beq (x u : ByteArray) : (x == u) = decide (x = u) := by
  have e : (x == u) = (x.data == u.data) := rfl
  rw [e, Bool.eq_iff_iff]
  simp [ByteArray.ext_iff]

def sgF0 : ByteArray → Option Value := fun _ => none
def sgF1 : ByteArray → Option Value := updF sgF0 ⟨#[43]⟩ (.int .i64 0)
def sgF2 : ByteArray → Option Value := updF sgF1 ⟨#[45]⟩ (.int .i64 1)
def sgF3 : ByteArray → Option Value := updF sgF2 ⟨#[42]⟩ (.int .i64 2)
def sgF4 : ByteArray → Option Value := updF sgF3 ⟨#[47]⟩ (.int .i64 3)
def sgF5 : ByteArray → Option Value := updF sgF4 ⟨#[37]⟩ (.int .i64 4)
def sgF6 : ByteArray → Option Value := updF sgF5 ⟨#[38]⟩ (.int .i64 5)
def sgF7 : ByteArray → Option Value := updF sgF6 ⟨#[124]⟩ (.int .i64 6)
def sgF8 : ByteArray → Option Value := updF sgF7 ⟨#[94]⟩ (.int .i64 7)
def sgF9 : ByteArray → Option Value := updF sgF8 ⟨#[60, 60]⟩ (.int .i64 8)
def sgF10 : ByteArray → Option Value := updF sgF9 ⟨#[62, 62]⟩ (.int .i64 9)
def sgF11 : ByteArray → Option Value := updF sgF10 ⟨#[60]⟩ (.int .i64 10)
def sgF12 : ByteArray → Option Value := updF sgF11 ⟨#[61, 61]⟩ (.int .i64 11)

theorem sg_eq (u : ByteArray) : sgF12 u = signF u := by
  by_cases h0 : u = ⟨#[43]⟩
  · subst h0; rfl
  by_cases h1 : u = ⟨#[45]⟩
  · subst h1; rfl
  by_cases h2 : u = ⟨#[42]⟩
  · subst h2; rfl
  by_cases h3 : u = ⟨#[47]⟩
  · subst h3; rfl
  by_cases h4 : u = ⟨#[37]⟩
  · subst h4; rfl
  by_cases h5 : u = ⟨#[38]⟩
  · subst h5; rfl
  by_cases h6 : u = ⟨#[124]⟩
  · subst h6; rfl
  by_cases h7 : u = ⟨#[94]⟩
  · subst h7; rfl
  by_cases h8 : u = ⟨#[60, 60]⟩
  · subst h8; rfl
  by_cases h9 : u = ⟨#[62, 62]⟩
  · subst h9; rfl
  by_cases h10 : u = ⟨#[60]⟩
  · subst h10; rfl
  by_cases h11 : u = ⟨#[61, 61]⟩
  · subst h11; rfl
  have g0 : ¬ (⟨#[43]⟩ : ByteArray) = u := fun e => h0 e.symm
  have g1 : ¬ (⟨#[45]⟩ : ByteArray) = u := fun e => h1 e.symm
  have g2 : ¬ (⟨#[42]⟩ : ByteArray) = u := fun e => h2 e.symm
  have g3 : ¬ (⟨#[47]⟩ : ByteArray) = u := fun e => h3 e.symm
  have g4 : ¬ (⟨#[37]⟩ : ByteArray) = u := fun e => h4 e.symm
  have g5 : ¬ (⟨#[38]⟩ : ByteArray) = u := fun e => h5 e.symm
  have g6 : ¬ (⟨#[124]⟩ : ByteArray) = u := fun e => h6 e.symm
  have g7 : ¬ (⟨#[94]⟩ : ByteArray) = u := fun e => h7 e.symm
  have g8 : ¬ (⟨#[60, 60]⟩ : ByteArray) = u := fun e => h8 e.symm
  have g9 : ¬ (⟨#[62, 62]⟩ : ByteArray) = u := fun e => h9 e.symm
  have g10 : ¬ (⟨#[60]⟩ : ByteArray) = u := fun e => h10 e.symm
  have g11 : ¬ (⟨#[61, 61]⟩ : ByteArray) = u := fun e => h11 e.symm
  have e1 : sgF12 u = none := by simp only [sgF0, sgF1, sgF2, sgF3, sgF4, sgF5, sgF6, sgF7, sgF8, sgF9, sgF10, sgF11, sgF12, updF, h0, h1, h2, h3, h4, h5, h6, h7, h8, h9, h10, h11, if_false]
  have e2 : signV u = none := by simp [signV, List.findIdx?_cons, ba_beq, g0, g1, g2, g3, g4, g5, g6, g7, g8, g9, g10, g11]
  rw [e1, signF, e2]
  rfl

set_option maxRecDepth 100000 in
set_option maxHeartbeats 2000000 in
theorem signs_is (w : World) : Calls Tryz.prog 62 #[] w fun e w' => e = .returned (.map (some w.heap.size)) ∧ MapIs w' w.heap.size signF 12 ∧ Below w.heap.size w w' := by
  have hmm : (Instr.makeMap 142 none).run Tryz.prog w = .ok (.map (some w.heap.size)) (w.alloc (.map #[] 0)) := rfl
  have m0 : MapIs (w.alloc (.map #[] 0)) w.heap.size sgF0 0 := mapIs_made w
  have b0 : Below w.heap.size w (w.alloc (.map #[] 0)) := (Below.refl _ w).alloc (Nat.le_refl _) _
  obtain ⟨W1, hr0, m1', c1⟩ := m0.put Tryz.underlying142 (by unfold maxLen; omega) (u := ⟨#[43]⟩) (by unfold maxLen; decide) (.int .i64 0)
  have m1 : MapIs W1 w.heap.size sgF1 1 := by
    have e : (sgF0 ⟨#[43]⟩).isSome = false := rfl
    rw [e] at m1'
    exact m1'
  have b1 : Below w.heap.size w W1 := b0.trans (c1.below b0.size (fun k _ e => Nat.le_of_eq e.symm))
  clear m1' c1 m0 b0
  obtain ⟨W2, hr1, m2', c2⟩ := m1.put Tryz.underlying142 (by unfold maxLen; omega) (u := ⟨#[45]⟩) (by unfold maxLen; decide) (.int .i64 1)
  have m2 : MapIs W2 w.heap.size sgF2 2 := by
    have e : (sgF1 ⟨#[45]⟩).isSome = false := rfl
    rw [e] at m2'
    exact m2'
  have b2 : Below w.heap.size w W2 := b1.trans (c2.below b1.size (fun k _ e => Nat.le_of_eq e.symm))
  clear m2' c2 m1 b1
  obtain ⟨W3, hr2, m3', c3⟩ := m2.put Tryz.underlying142 (by unfold maxLen; omega) (u := ⟨#[42]⟩) (by unfold maxLen; decide) (.int .i64 2)
  have m3 : MapIs W3 w.heap.size sgF3 3 := by
    have e : (sgF2 ⟨#[42]⟩).isSome = false := rfl
    rw [e] at m3'
    exact m3'
  have b3 : Below w.heap.size w W3 := b2.trans (c3.below b2.size (fun k _ e => Nat.le_of_eq e.symm))
  clear m3' c3 m2 b2
  obtain ⟨W4, hr3, m4', c4⟩ := m3.put Tryz.underlying142 (by unfold maxLen; omega) (u := ⟨#[47]⟩) (by unfold maxLen; decide) (.int .i64 3)
  have m4 : MapIs W4 w.heap.size sgF4 4 := by
    have e : (sgF3 ⟨#[47]⟩).isSome = false := rfl
    rw [e] at m4'
    exact m4'
  have b4 : Below w.heap.size w W4 := b3.trans (c4.below b3.size (fun k _ e => Nat.le_of_eq e.symm))
  clear m4' c4 m3 b3
  obtain ⟨W5, hr4, m5', c5⟩ := m4.put Tryz.underlying142 (by unfold maxLen; omega) (u := ⟨#[37]⟩) (by unfold maxLen; decide) (.int .i64 4)
  have m5 : MapIs W5 w.heap.size sgF5 5 := by
    have e : (sgF4 ⟨#[37]⟩).isSome = false := rfl
    rw [e] at m5'
    exact m5'
  have b5 : Below w.heap.size w W5 := b4.trans (c5.below b4.size (fun k _ e => Nat.le_of_eq e.symm))
  clear m5' c5 m4 b4
  obtain ⟨W6, hr5, m6', c6⟩ := m5.put Tryz.underlying142 (by unfold maxLen; omega) (u := ⟨#[38]⟩) (by unfold maxLen; decide) (.int .i64 5)
  have m6 : MapIs W6 w.heap.size sgF6 6 := by
    have e : (sgF5 ⟨#[38]⟩).isSome = false := rfl
    rw [e] at m6'
    exact m6'
  have b6 : Below w.heap.size w W6 := b5.trans (c6.below b5.size (fun k _ e => Nat.le_of_eq e.symm))
  clear m6' c6 m5 b5
  obtain ⟨W7, hr6, m7', c7⟩ := m6.put Tryz.underlying142 (by unfold maxLen; omega) (u := ⟨#[124]⟩) (by unfold maxLen; decide) (.int .i64 6)
  have m7 : MapIs W7 w.heap.size sgF7 7 := by
    have e : (sgF6 ⟨#[124]⟩).isSome = false := rfl
    rw [e] at m7'
    exact m7'
  have b7 : Below w.heap.size w W7 := b6.trans (c7.below b6.size (fun k _ e => Nat.le_of_eq e.symm))
  clear m7' c7 m6 b6
  obtain ⟨W8, hr7, m8', c8⟩ := m7.put Tryz.underlying142 (by unfold maxLen; omega) (u := ⟨#[94]⟩) (by unfold maxLen; decide) (.int .i64 7)
  have m8 : MapIs W8 w.heap.size sgF8 8 := by
    have e : (sgF7 ⟨#[94]⟩).isSome = false := rfl
    rw [e] at m8'
    exact m8'
  have b8 : Below w.heap.size w W8 := b7.trans (c8.below b7.size (fun k _ e => Nat.le_of_eq e.symm))
  clear m8' c8 m7 b7
  obtain ⟨W9, hr8, m9', c9⟩ := m8.put Tryz.underlying142 (by unfold maxLen; omega) (u := ⟨#[60, 60]⟩) (by unfold maxLen; decide) (.int .i64 8)
  have m9 : MapIs W9 w.heap.size sgF9 9 := by
    have e : (sgF8 ⟨#[60, 60]⟩).isSome = false := rfl
    rw [e] at m9'
    exact m9'
  have b9 : Below w.heap.size w W9 := b8.trans (c9.below b8.size (fun k _ e => Nat.le_of_eq e.symm))
  clear m9' c9 m8 b8
  obtain ⟨W10, hr9, m10', c10⟩ := m9.put Tryz.underlying142 (by unfold maxLen; omega) (u := ⟨#[62, 62]⟩) (by unfold maxLen; decide) (.int .i64 9)
  have m10 : MapIs W10 w.heap.size sgF10 10 := by
    have e : (sgF9 ⟨#[62, 62]⟩).isSome = false := rfl
    rw [e] at m10'
    exact m10'
  have b10 : Below w.heap.size w W10 := b9.trans (c10.below b9.size (fun k _ e => Nat.le_of_eq e.symm))
  clear m10' c10 m9 b9
  obtain ⟨W11, hr10, m11', c11⟩ := m10.put Tryz.underlying142 (by unfold maxLen; omega) (u := ⟨#[60]⟩) (by unfold maxLen; decide) (.int .i64 10)
  have m11 : MapIs W11 w.heap.size sgF11 11 := by
    have e : (sgF10 ⟨#[60]⟩).isSome = false := rfl
    rw [e] at m11'
    exact m11'
  have b11 : Below w.heap.size w W11 := b10.trans (c11.below b10.size (fun k _ e => Nat.le_of_eq e.symm))
  clear m11' c11 m10 b10
  obtain ⟨W12, hr11, m12', c12⟩ := m11.put Tryz.underlying142 (by unfold maxLen; omega) (u := ⟨#[61, 61]⟩) (by unfold maxLen; decide) (.int .i64 11)
  have m12 : MapIs W12 w.heap.size sgF12 12 := by
    have e : (sgF11 ⟨#[61, 61]⟩).isSome = false := rfl
    rw [e] at m12'
    exact m12'
  have b12 : Below w.heap.size w W12 := b11.trans (c12.below b11.size (fun k _ e => Nat.le_of_eq e.symm))
  clear m12' c12 m11 b11
  have M := hid (m12.congr sg_eq)
  have BB := hid b12
  clear m12 b12
  go_enter Tryz.func62, Tryz.ntmps62
  go_wp2
  go_ret
  exact ⟨rfl, M.out, BB.out⟩
end Go.Proofs.YtfhkfnoajbbfdabGreatDoor

/- The reader of a program as it begins; what was read may be counted. -/
namespace Go.Proofs.YtfhkfnoajbbfdabGreatDoor
open Go.RowKit

theorem stTimes_in {s : St} (h : ∀ n, s = St.loop n → 1 ≤ n ∧ n ≤ 4) : 1 ≤ stTimes s ∧ stTimes s ≤ 4 := by
  rcases s with ⟨to, a⟩ | ⟨to, k, a, c⟩ | ⟨to, f, a⟩ | ⟨f, a, c⟩ | a | ⟨⟩ | a | n
  · simp [stTimes]
  · simp [stTimes]
  · simp [stTimes]
  · simp [stTimes]
  · simp [stTimes]
  · simp [stTimes]
  · simp [stTimes]
  · exact h n rfl

section
variable {st : RS} {lv : Nat → Nat} {k : Nat}

theorem enG_deep (h : DeepL st lv) (hok : st.Ok k) : ∀ (f i : Nat) (x : Hd), st.hs[i]? = some x → 3 ≤ lv i + f → ∀ e ∈ x.ents, enG st.hs f e
  | 0, i, x, hx, hf, e, he => by
    rcases e with s | j
    · exact ⟨s, rfl, h.leaf i x hx s he⟩
    · obtain ⟨q1, s, q2, q3⟩ := h.nest i x hx j he
      obtain ⟨y, hy, _⟩ := hk_some q2
      have := h.le j (List.getElem?_eq_some_iff.1 hy).1
      omega
  | f + 1, i, x, hx, hf, e, he => by
    rcases e with s | j
    · exact .inl ⟨s, rfl, h.leaf i x hx s he⟩
    · obtain ⟨q1, s, q2, q3⟩ := h.nest i x hx j he
      obtain ⟨y, hy, hyk⟩ := hk_some q2
      refine .inr ⟨j, y, s, rfl, hy, hyk, q3, stTimes_in (fun n e => h.loop j n (e ▸ q2)), hok.e14 j y hy, fun e' he' => enG_deep h hok f j y hy (by omega) e' he'⟩

/-- A thread's statements. -/
theorem enG_thread (h : DeepL st lv) (hok : st.Ok k) {t : Nat} {x : Hd} (hx : st.hs[t]? = some x) : ∀ e ∈ x.ents, enG st.hs 3 e := enG_deep h hok 3 t x hx (by omega)
end

abbrev readerW (w : World) (sb bs : Nat) : World := w.alloc (.cells #[.map (some sb), .slice none 0 0, .int .i64 0, .slice none 0 0, .map (some bs)] 146)

theorem nilRowT (w : World) (T : TypeId) : w.ownsRow 0 T 1 (.slice none 0 0) 0 [] := ⟨rfl, .inl ⟨rfl, rfl⟩⟩

theorem rmach_init (w : World) (sb bs B : Nat) (hs : MapIs w sb (fun _ => none) 0) (hb : MapIs w bs signF 12) (hne : sb ≠ bs) (h1 : B ≤ sb) (h2 : B ≤ bs) :
    ∃ lab, RMach (fun k => B ≤ k ∧ k < (readerW w sb bs).heap.size) lab (readerW w sb bs) w.heap.size sb bs (.slice none 0 0) (.slice none 0 0) RS.none [] := by
  have ls := hs.lt
  have lb := hb.lt
  have hsz : (readerW w sb bs).heap.size = w.heap.size + 1 := by simp
  have hc : Chg (fun _ _ => False) w (readerW w sb bs) := (Chg.refl _ w).alloc _
  refine ⟨fun k => if k = w.heap.size then (0, 0) else if k = sb then (0, 1) else (0, 4), {
    sh := shapeN _ _ _, c0 := World.cell?_alloc_new _ _ _ 0, c1 := World.cell?_alloc_new _ _ _ 1, c2 := World.cell?_alloc_new _ _ _ 2, c3 := World.cell?_alloc_new _ _ _ 3, c4 := World.cell?_alloc_new _ _ _ 4, free := frozenN _ _ _
    mS := hs.keep hc (fun _ e => e), mG := hb.keep hc (fun _ e => e), trow := nilRowT _ _, orow := nilRowT _ _
    hd := fun i hi => by simp at hi
    hs := rfl
    lbr := ⟨if_pos rfl, by omega, by omega⟩
    lsb := ⟨?_, by omega, by omega⟩
    ltv := fun g hg => by simp [Value.ownBlock] at hg
    lov := fun g hg => by simp [Value.ownBlock] at hg
    lbs := ⟨?_, by omega, by omega⟩
    lhd := fun i hi => by simp at hi }⟩
  · show (if sb = w.heap.size then _ else if sb = sb then _ else _) = _
    rw [if_neg (by omega), if_pos rfl]
  · show (if bs = w.heap.size then _ else if bs = sb then _ else _) = _
    rw [if_neg (by omega), if_neg (by omega)]
end Go.Proofs.YtfhkfnoajbbfdabGreatDoor

/- program.Read: how it begins; a text whose lines have a fault. -/
namespace Go.Proofs.YtfhkfnoajbbfdabGreatDoor
open Go.RowKit

/-- The reader as text.Read finds it. -/
structure Begun (W WR : World) (br sb bs : Nat) : Prop where
  low : Below W.heap.size W WR
  env : Env WR
  m : ∃ lab, RMach (fun k => W.heap.size ≤ k ∧ k < WR.heap.size) lab WR br sb bs (.slice none 0 0) (.slice none 0 0) RS.none []

theorem begun {W w2 : World} (hE : Env W) (hm : MapIs w2 (W.heap.size + 1) signF 12) (hb : Below (W.heap.size + 1) (W.alloc (.map #[] 0)) w2) : Begun W (readerW w2 W.heap.size (W.heap.size + 1)) w2.heap.size W.heap.size (W.heap.size + 1) := by
  have hsz : (W.alloc (.map #[] 0)).heap.size = W.heap.size + 1 := by simp
  have hb' : Below (W.alloc (.map #[] 0)).heap.size (W.alloc (.map #[] 0)) w2 := by rw [hsz]; exact hb
  have hs : MapIs w2 W.heap.size (fun _ => none) 0 := (mapIs_made W).keep (M := fun _ _ => False) (Chg.of_below hb') (fun _ e => e)
  have low : Below W.heap.size W (readerW w2 W.heap.size (W.heap.size + 1)) := (((Below.refl _ W).alloc (Nat.le_refl _) _).trans (hb.mono (by omega))).trans ((Below.refl _ w2).alloc (by have := hb.size; simp at this; omega) _)
  exact ⟨low, hE.keep (M := fun _ _ => False) (Chg.of_below low) (fun _ _ _ e => e), rmach_init w2 W.heap.size (W.heap.size + 1) W.heap.size hs hm (by omega) (by omega) (by omega)⟩

set_option maxRecDepth 100000 in
set_option maxHeartbeats 2000000 in
theorem read_fault {W : World} (hE : Env W) (s : ByteArray) {er ln : Int} (hg : gLines s = .error (er, ln)) :
    Calls Tryz.prog 41 #[.string s] W fun e w' => ∃ bf, e = .returned (.tuple #[.pointer none, .iface 89 (ptr bf)]) ∧ W.heap.size ≤ bf ∧ FaultAt w' bf er ln ∧ Below W.heap.size W w' := by
  have hmm : ∀ w : World, (Instr.makeMap 138 none).run Tryz.prog w = .ok (.map (some w.heap.size)) (w.alloc (.map #[] 0)) := fun _ => rfl
  have hmf : ∀ (fn : Fn) (first cap : Array Value) (w : World), (Instr.makeFunc fn first cap).run Tryz.prog w = .ok (.func fn first cap) w := fun _ _ _ _ => rfl
  have hlo := hE.lo
  have HE := hid hE
  clear hE
  go_enter Tryz.func41, Tryz.ntmps41
  go_wp2_with fail
  refine (signs_is (W.alloc (.map #[] 0))).mono ?_
  rw [show (W.alloc (.map #[] 0)).heap.size = W.heap.size + 1 from by simp]
  rintro e w2 ⟨rfl, hm, hb⟩
  have HG := hid (begun HE.out hm hb)
  clear hm hb
  go_wp2_with fail
  obtain ⟨lab, hm⟩ := HG.out.m
  have K := lines_any (B := W.heap.size) hlo HG.out.low.size HG.out.env hm s
  rw [hg] at K
  refine K.mono ?_
  clear K hm
  rintro e w3 ⟨bf, rfl, h1, h2, h3⟩
  have H2 := hid h2
  have H3 := hid (HG.out.low.trans h3)
  have h1' : W.heap.size ≤ bf := by have := HG.out.low.size; omega
  clear h1 h2 h3 HG
  go_wp2
  go_ret2
  exact ⟨bf, rfl, h1', H2.out, H3.out⟩
end Go.Proofs.YtfhkfnoajbbfdabGreatDoor

/- program.Read: a text whose lines have no fault. -/
namespace Go.Proofs.YtfhkfnoajbbfdabGreatDoor
open Go.RowKit

/-- What a program without a fault in a line comes to, as it lies. -/
structure Has (W w : World) (br : Nat) (st : RS) : Prop where
  ok : st.Ok 2000
  deep : st.Deep
  m : ∃ E lab sb bs tv ov ms, W.heap.size < E ∧ RMach (dom W.heap.size E w) lab w br sb bs tv ov st ms
  env : Env w
  low : Below W.heap.size W w

theorem Has.below {W w w' : World} {br : Nat} {st : RS} (h : Has W w br st) (hb : Below w.heap.size w w') : Has W w' br st := by
  obtain ⟨E, lab, sb, bs, tv, ov, ms, hE, hm⟩ := h.m
  refine ⟨h.ok, h.deep, ⟨E, lab, sb, bs, tv, ov, ms, hE, (hm.below hb).newD (fun k hk hl => ⟨hk.1, hk.2.1, hl⟩)⟩, h.env.keep (M := fun _ _ => False) (Chg.of_below hb) (fun _ _ _ e => e), h.low.trans (hb.mono h.low.size)⟩

/-- What is asked of strings.Count. -/
def CountIs (s : ByteArray) (n : Nat) : Prop := ∀ w, Env w → Calls Tryz.prog 64 #[.string s, .string ⟨#[10]⟩] w fun e w' => e = .returned (.int .i64 n) ∧ Below w.heap.size w w'

/-- What is asked of tooMuch. -/
def MuchIs (W : World) (st : RS) (b : Bool) : Prop := ∀ w br, Has W w br st → Calls Tryz.prog 65 #[ptr br] w fun e w' => e = .returned (.bool b) ∧ Below w.heap.size w w'

theorem has_of {W WR w' : World} {br sb bs : Nat} {st : RS} {s : ByteArray} (hB : Begun W WR br sb bs) (hg : gLines s = .ok st) (h1 : st.Ok 2000) (h2 : ∃ lab tv ov ms, RMach (dom W.heap.size WR.heap.size w') lab w' br sb bs tv ov st ms) (h3 : Env w') (h4 : Below W.heap.size WR w') : Has W w' br st := by
  obtain ⟨lab, tv, ov, ms, hm⟩ := h2
  obtain ⟨lab0, hm0⟩ := hB.m
  have := lt_of_shape hm0.sh
  have := hm0.lbr.2
  exact ⟨h1, gLines_deep hg, ⟨WR.heap.size, lab, sb, bs, tv, ov, ms, by omega, hm⟩, h3, hB.low.trans h4⟩

theorem Has.open {W w : World} {br : Nat} {st : RS} (h : Has W w br st) : ∃ a k, w.cell? ⟨br, 3, none⟩ = some (.slice a st.opn.length k) := by
  obtain ⟨E, lab, sb, bs, tv, ov, ms, hE, hm⟩ := h.m
  obtain ⟨a, k, e⟩ := hm.openS
  exact ⟨a, k, by rw [hm.c3, e]⟩

set_option maxRecDepth 100000 in
set_option maxHeartbeats 2000000 in
theorem read_open {W : World} (hE : Env W) (s : ByteArray) {st : RS} (hg : gLines s = .ok st) (ho : st.opn.length ≠ 1) {n : Nat} (hn : n < 1000000) (KC : Hid (CountIs s n)) :
    Calls Tryz.prog 41 #[.string s] W fun e w' => ∃ bf, e = .returned (.tuple #[.pointer none, .iface 89 (ptr bf)]) ∧ W.heap.size ≤ bf ∧ FaultAt w' bf 3 (n + 1) ∧ Below W.heap.size W w' := by
  have hmm : ∀ w : World, (Instr.makeMap 138 none).run Tryz.prog w = .ok (.map (some w.heap.size)) (w.alloc (.map #[] 0)) := fun _ => rfl
  have hmf : ∀ (fn : Fn) (first cap : Array Value) (w : World), (Instr.makeFunc fn first cap).run Tryz.prog w = .ok (.func fn first cap) w := fun _ _ _ _ => rfl
  have hlo := hE.lo
  have HE := hid hE
  clear hE
  go_enter Tryz.func41, Tryz.ntmps41
  go_wp2_with fail
  refine (signs_is (W.alloc (.map #[] 0))).mono ?_
  rw [show (W.alloc (.map #[] 0)).heap.size = W.heap.size + 1 from by simp]
  rintro e w2 ⟨rfl, hm, hb⟩
  have HG := hid (begun HE.out hm hb)
  clear hm hb
  go_wp2_with fail
  obtain ⟨lab, hm⟩ := HG.out.m
  have K := lines_any (B := W.heap.size) hlo HG.out.low.size HG.out.env hm s
  rw [hg] at K
  refine K.mono ?_
  clear K hm
  rintro e w3 ⟨rfl, h1, h2, h3, h4⟩
  have H := hid (has_of HG.out hg h1 h2 h3 h4)
  clear h1 h2 h3 h4 HG
  obtain ⟨oa, ok, c3⟩ := H.out.open
  have ho' : ¬ (st.opn.length : Int) = 1 := by omega
  have hob : ((st.opn.length : Int) == 1) = false := by simpa using ho'
  have hw : wrap64 ((n : Int) + 1) = (n : Int) + 1 := by unfold wrap64; omega
  go_wp2_with fail
  refine (KC.out w3 H.out.env).mono ?_
  rintro e w4 ⟨rfl, b4⟩
  have H4 := hid (H.out.low.trans (b4.mono H.out.low.size))
  clear b4 H c3
  go_wp2
  go_ret2
  exact ⟨w4.heap.size, rfl, H4.out.size, ⟨World.cell?_alloc_new _ _ _ 0, World.cell?_alloc_new _ _ _ 1⟩, H4.out.trans ((Below.refl _ w4).alloc H4.out.size _)⟩

set_option maxRecDepth 100000 in
set_option maxHeartbeats 2000000 in
theorem read_much {W : World} (hE : Env W) (s : ByteArray) {st : RS} (hg : gLines s = .ok st) (ho : st.opn.length = 1) (KM : Hid (MuchIs W st true)) :
    Calls Tryz.prog 41 #[.string s] W fun e w' => ∃ bf, e = .returned (.tuple #[.pointer none, .iface 89 (ptr bf)]) ∧ W.heap.size ≤ bf ∧ FaultAt w' bf 5 0 ∧ Below W.heap.size W w' := by
  have hmm : ∀ w : World, (Instr.makeMap 138 none).run Tryz.prog w = .ok (.map (some w.heap.size)) (w.alloc (.map #[] 0)) := fun _ => rfl
  have hmf : ∀ (fn : Fn) (first cap : Array Value) (w : World), (Instr.makeFunc fn first cap).run Tryz.prog w = .ok (.func fn first cap) w := fun _ _ _ _ => rfl
  have hlo := hE.lo
  have HE := hid hE
  clear hE
  go_enter Tryz.func41, Tryz.ntmps41
  go_wp2_with fail
  refine (signs_is (W.alloc (.map #[] 0))).mono ?_
  rw [show (W.alloc (.map #[] 0)).heap.size = W.heap.size + 1 from by simp]
  rintro e w2 ⟨rfl, hm, hb⟩
  have HG := hid (begun HE.out hm hb)
  clear hm hb
  go_wp2_with fail
  obtain ⟨lab, hm⟩ := HG.out.m
  have K := lines_any (B := W.heap.size) hlo HG.out.low.size HG.out.env hm s
  rw [hg] at K
  refine K.mono ?_
  clear K hm
  rintro e w3 ⟨rfl, h1, h2, h3, h4⟩
  have H := hid (has_of HG.out hg h1 h2 h3 h4)
  clear h1 h2 h3 h4 HG
  obtain ⟨oa, ok, c3⟩ := H.out.open
  rw [ho] at c3
  go_wp2_with fail
  refine (KM.out w3 _ H.out).mono ?_
  rintro e w4 ⟨rfl, b4⟩
  have H4 := hid (H.out.low.trans (b4.mono H.out.low.size))
  clear b4 H c3
  go_wp2
  go_ret2
  exact ⟨w4.heap.size, rfl, H4.out.size, ⟨World.cell?_alloc_new _ _ _ 0, World.cell?_alloc_new _ _ _ 1⟩, H4.out.trans ((Below.refl _ w4).alloc H4.out.size _)⟩

set_option maxRecDepth 100000 in
set_option maxHeartbeats 2000000 in
theorem read_fine {W : World} (hE : Env W) (s : ByteArray) {st : RS} (hg : gLines s = .ok st) (ho : st.opn.length = 1) (KM : Hid (MuchIs W st false)) :
    Calls Tryz.prog 41 #[.string s] W fun e w' => ∃ br, e = .returned (.tuple #[ptr br, .nilIface]) ∧ Has W w' br st := by
  have hmm : ∀ w : World, (Instr.makeMap 138 none).run Tryz.prog w = .ok (.map (some w.heap.size)) (w.alloc (.map #[] 0)) := fun _ => rfl
  have hmf : ∀ (fn : Fn) (first cap : Array Value) (w : World), (Instr.makeFunc fn first cap).run Tryz.prog w = .ok (.func fn first cap) w := fun _ _ _ _ => rfl
  have hlo := hE.lo
  have HE := hid hE
  clear hE
  go_enter Tryz.func41, Tryz.ntmps41
  go_wp2_with fail
  refine (signs_is (W.alloc (.map #[] 0))).mono ?_
  rw [show (W.alloc (.map #[] 0)).heap.size = W.heap.size + 1 from by simp]
  rintro e w2 ⟨rfl, hm, hb⟩
  have HG := hid (begun HE.out hm hb)
  clear hm hb
  go_wp2_with fail
  obtain ⟨lab, hm⟩ := HG.out.m
  have K := lines_any (B := W.heap.size) hlo HG.out.low.size HG.out.env hm s
  rw [hg] at K
  refine K.mono ?_
  clear K hm
  rintro e w3 ⟨rfl, h1, h2, h3, h4⟩
  have H := hid (has_of HG.out hg h1 h2 h3 h4)
  clear h1 h2 h3 h4 HG
  obtain ⟨oa, ok, c3⟩ := H.out.open
  rw [ho] at c3
  go_wp2_with fail
  refine (KM.out w3 _ H.out).mono ?_
  rintro e w4 ⟨rfl, b4⟩
  have H4 := hid (H.out.below b4)
  clear b4 H c3
  go_wp2
  go_ret2
  exact ⟨_, rfl, H4.out⟩
end Go.Proofs.YtfhkfnoajbbfdabGreatDoor

/- tooMuch: too many cells, too many threads. -/
namespace Go.Proofs.YtfhkfnoajbbfdabGreatDoor
open Go.RowKit Go.Shelf

attribute [local go_sem] Oper.semAt_some

/-- A block that gives out too often. -/
def enMuch (hs : List Hd) (e : En) : Bool := kdA hs e && decide (8 < ((enEnts hs e).map (cntE hs kdO 3)).sum)
def RS.ents (st : RS) (t : Nat) : List En := match st.hs[t]? with
  | some h => h.ents
  | _ => []
/-- A thread that has too much. -/
def RS.thrMuch (st : RS) (t : Nat) : Bool := decide (3 < ((st.ents t).map (cntE st.hs (kdA st.hs) 3)).sum) || (walkL st.hs 3 (st.ents t)).any (enMuch st.hs)
/-- A program that has too much. -/
def gMuch (st : RS) : Bool := decide (6 < st.cells) || (decide (3 < st.threads.length) || st.threads.any st.thrMuch)

section
variable {D : Nat → Prop} {lab : Nat → Nat × Nat} {w : World} {br sb bs : Nat} {tv ov : Value} {st : RS} {ms : List HM}

set_option maxRecDepth 100000 in
set_option maxHeartbeats 2000000 in
theorem much_cells (n : Nat) (h : RMach D lab w br sb bs tv ov st ms) (hc : 6 < st.cells) :
    CallsIn Fence.wide n Tryz.prog 65 #[ptr br] w fun e w' => e = .returned (.bool true) ∧ Below w.heap.size w w' := by
  have c2 : (w.alloc (.cells #[.bool false] 4)).cell? ⟨br, 2, none⟩ = some (.int .i64 st.cells) := (World.cell?_alloc_past _ _ _ (lt_of_shape h.sh)).trans h.c2
  have hw : ∀ f, Fence.wide.fn f := fun _ => trivial
  clear h
  refine callsIn_of_wp_marks Tryz.func65 rfl trivial ?_ rfl
  simp only [Tryz.ntmps65, List.size_toArray, List.length_cons, List.length_nil, Nat.reduceAdd, Nat.reduceSub, Array.replicate_succ, Array.replicate_zero, List.push_toArray, List.append_toArray, List.nil_append, List.cons_append]
  gi_wp2
  exact ⟨.bool true, by simp [results, Tryz.f65, go_sem], rfl, (Below.refl _ w).alloc (Nat.le_refl _) _⟩

set_option maxRecDepth 100000 in
set_option maxHeartbeats 2000000 in
theorem much_threads (n : Nat) (h : RMach D lab w br sb bs tv ov st ms) (hc : ¬ 6 < st.cells) (ht : 3 < st.threads.length) :
    CallsIn Fence.wide n Tryz.prog 65 #[ptr br] w fun e w' => e = .returned (.bool true) ∧ Below w.heap.size w w' := by
  have lb := lt_of_shape h.sh
  have c2 : (w.alloc (.cells #[.bool false] 4)).cell? ⟨br, 2, none⟩ = some (.int .i64 st.cells) := (World.cell?_alloc_past _ _ _ lb).trans h.c2
  obtain ⟨ta, tk, htv⟩ := h.threadS
  have c1 : (w.alloc (.cells #[.bool false] 4)).cell? ⟨br, 1, none⟩ = some (.slice ta st.threads.length tk) := by rw [← htv]; exact (World.cell?_alloc_past _ _ _ lb).trans h.c1
  have ht' : 3 < (st.threads.length : Int) := by omega
  have hw : ∀ f, Fence.wide.fn f := fun _ => trivial
  clear h htv
  refine callsIn_of_wp_marks Tryz.func65 rfl trivial ?_ rfl
  simp only [Tryz.ntmps65, List.size_toArray, List.length_cons, List.length_nil, Nat.reduceAdd, Nat.reduceSub, Array.replicate_succ, Array.replicate_zero, List.push_toArray, List.append_toArray, List.nil_append, List.cons_append]
  gi_wp2
  exact ⟨.bool true, by simp [results, Tryz.f65, go_sem], rfl, (Below.refl _ w).alloc (Nat.le_refl _) _⟩
end
end Go.Proofs.YtfhkfnoajbbfdabGreatDoor

/- What is read is what the coder may be given. -/
namespace Go.Proofs.YtfhkfnoajbbfdabGreatDoor
open Go.RowKit

section
variable {st : RS} {lv : Nat → Nat} {ib : Nat → Bool} {wt : Nat → Nat} {x : Cx}

theorem var_ok (h : Fit st lv ib wt) (hx : x.sh = st.shared) (hc : ¬ 6 < st.cells) {u : ByteArray} (hu : u.size ≤ maxLen) (hs : st.isSh u = true) : x.varOk u := by
  unfold RS.isSh at hs
  have hex : (st.shared.find? fun p => decide (p.1 = u)).isSome = true := by
    rw [List.find?_isSome]
    obtain ⟨p, hp, hq⟩ := List.any_eq_true.1 hs
    exact ⟨p, hp, hq⟩
  obtain ⟨p, hp⟩ := Option.isSome_iff_exists.1 hex
  obtain ⟨q1, q2, q3⟩ := h.sh p (List.mem_of_find?_eq_some hp)
  refine ⟨hu, p.2.1.toNat, p.2.2.toNat, ?_, by omega, by omega⟩
  unfold Cx.var
  rw [hx, hp]
  simp only [Option.map_some, Option.getD_some]
  refine Prod.ext ?_ ?_
  · show p.2.1 = _; omega
  · show p.2.2 = _; omega

theorem rd_ok {s : St} (hz : StSz s) (hn : StNum s) {v : PV} (hv : v ∈ stReads s) : v.ok := ⟨hz.rd v hv, hn.rd v hv⟩

theorem leaf_ok (h : Fit st lv ib wt) (hx : x.sh = st.shared) (hc : ¬ 6 < st.cells) {b : Bool} {s : St} (hl : LfOk st b s) : x.leafOk b s := by
  have hr := fun v (hv : v ∈ stReads s) => rd_ok hl.sz hl.nm hv
  have hto := hl.sz.to
  have hof := hl.of
  have hofz := hl.sz.of
  have hop := hl.nm.op
  have hnh := hl.nh
  clear hl
  rcases s with ⟨to, a⟩ | ⟨to, o, a, c⟩ | ⟨to, f, a⟩ | ⟨f, a, c⟩ | a | ⟨⟩ | a | n
  · exact ⟨hto, hr a (by simp [stReads])⟩
  · exact ⟨hto, hop, hr a (by simp [stReads]), hr c (by simp [stReads])⟩
  · exact ⟨(hof f rfl).1, hto, var_ok h hx hc (hofz f rfl) (hof f rfl).2, hr a (by simp [stReads])⟩
  · exact ⟨(hof f rfl).1, var_ok h hx hc (hofz f rfl) (hof f rfl).2, hr a (by simp [stReads]), hr c (by simp [stReads])⟩
  · exact hr a (by simp [stReads])
  · simp [stHolds] at hnh
  · simp [stHolds] at hnh
  · simp [stHolds] at hnh

/-- What a holder holds, by how deep it lies. -/
theorem ent_w (h : Fit st lv ib wt) (he : ∀ (j : Nat) (y : Hd), st.hs[j]? = some y → y.ents.length ≤ 14) (hx : x.sh = st.shared) (hc : ¬ 6 < st.cells) : ∀ (f i : Nat) (y : Hd), st.hs[i]? = some y → lv i + f = 3 → ∀ e ∈ y.ents, enW st.hs x f (ib i) e
  | 0, i, y, hy, _, .inl s, hm => leaf_ok h hx hc (h.leaf i y hy s hm)
  | f + 1, i, y, hy, _, .inl s, hm => leaf_ok h hx hc (h.leaf i y hy s hm)
  | 0, i, y, hy, hf, .inr j, hm => by
    obtain ⟨q1, s, q2, q3⟩ := h.nest i y hy j hm
    obtain ⟨z, hz, _⟩ := hk_some q2
    have := h.le j (List.getElem?_eq_some_iff.1 hz).1
    omega
  | f + 1, i, y, hy, hf, .inr j, hm => by
    obtain ⟨q1, s, q2, q3⟩ := h.nest i y hy j hm
    obtain ⟨z, hz, hzk⟩ := hk_some q2
    have ih := ent_w h he hx hc f j z hz (by omega)
    have hzz : st.hs[j]? = some ⟨.st s, z.ents⟩ := by rw [hz, ← hzk]
    refine ⟨z.ents, he j z hz, ?_⟩
    have hh := q3.hh
    have hr := fun v (hv : v ∈ stReads s) => rd_ok q3.sz q3.nm hv
    have h1 := q3.at1
    have h0 := q3.at0
    have hlp := q3.lp
    clear q3 q2
    rcases s with ⟨to, a⟩ | ⟨to, o, a, c⟩ | ⟨to, f, a⟩ | ⟨f, a, c⟩ | a | ⟨⟩ | a | n
    · simp [stHolds] at hh
    · simp [stHolds] at hh
    · simp [stHolds] at hh
    · simp [stHolds] at hh
    · simp [stHolds] at hh
    · obtain ⟨e1, e2⟩ := h1 rfl
      rw [e2] at ih
      exact .inl ⟨hzz, e1, ih⟩
    · rw [h0 rfl] at ih
      exact .inr (.inl ⟨a, hzz, hr a (by simp [stReads]), ih⟩)
    · rw [h0 rfl] at ih
      exact .inr (.inr ⟨n, hzz, hlp n rfl, ih⟩)

theorem wE_le (h : Fit st lv ib wt) : ∀ (f : Nat) (e : En), wE st.hs f e ≤ wtE wt e
  | 0, .inl _ => Nat.le_refl 1
  | 0, .inr j => by show 1 ≤ 1 + wt j; omega
  | f + 1, .inl _ => Nat.le_refl 1
  | f + 1, .inr j => by
    show 1 + ((enEnts st.hs (.inr j)).map (wE st.hs f)).sum ≤ 1 + wt j
    cases hj : st.hs[j]? with
    | none => simp [enEnts, hj]
    | some y =>
      have h1 := h.w j y hj
      have h2 : (y.ents.map (wE st.hs f)).sum ≤ (y.ents.map (wtE wt)).sum := by
        have ih := wE_le h f
        generalize y.ents = es
        induction es with
        | nil => simp
        | cons e r ih2 =>
          have := ih e
          simp only [List.map_cons, List.sum_cons]
          omega
      simp only [enEnts, hj]
      omega
end

/-- A thread of a program, for the coder. -/
theorem thread_w {s : ByteArray} {st : RS} (hg : gLines s = .ok st) (hok : st.Ok 2000) (hm : gMuch st = false) (x : Cx) (hx : x.sh = st.shared) (t : Nat) (ht : t ∈ st.threads) :
    (st.ents t).length ≤ 14 ∧ (∀ e ∈ st.ents t, enW st.hs x 3 false e) ∧ ((st.ents t).map (wE st.hs 3)).sum ≤ 14 := by
  obtain ⟨lv, ib, wt, h⟩ := gLines_fits hg
  have hc : ¬ 6 < st.cells := by
    unfold gMuch at hm
    simp only [Bool.or_eq_false_iff, decide_eq_false_iff_not] at hm
    exact hm.1
  obtain ⟨l, c, q1, q2, q3⟩ := hok.thr t ht
  obtain ⟨y, hy, _⟩ := hk_some q1
  have he : st.ents t = y.ents := by unfold RS.ents; rw [hy]
  obtain ⟨l0, i0⟩ := h.thr t ht
  have hw := h.w t y hy
  have hcc := h.c t ht l c q1
  rw [he]
  refine ⟨hok.e14 t y hy, ?_, ?_⟩
  · have := ent_w h hok.e14 hx hc 3 t y hy (by omega)
    rw [i0] at this
    exact this
  · have h2 : (y.ents.map (wE st.hs 3)).sum ≤ (y.ents.map (wtE wt)).sum := by
      have ih := wE_le h 3
      generalize y.ents = es
      induction es with
      | nil => simp
      | cons e r ih2 =>
        have := ih e
        simp only [List.map_cons, List.sum_cons]
        omega
    omega
end Go.Proofs.YtfhkfnoajbbfdabGreatDoor

/- tooMuch: what it finds of a thread. -/
namespace Go.Proofs.YtfhkfnoajbbfdabGreatDoor
open Go.RowKit

section
variable {D : Nat → Prop} {lab : Nat → Nat × Nat} {w w' : World} {br sb bs : Nat} {tv ov : Value} {st : RS} {ms : List HM} {k : Nat}

theorem RMach.ar (h : RMach D lab w br sb bs tv ov st ms) : Ar st.hs ms w := ⟨h.hd, h.hs⟩

/-- The k-th thread, as it lies. -/
theorem RMach.thread_at (h : RMach D lab w br sb bs tv ov st ms) (hok : st.Ok k) (i : Nat) (hi : i < st.threads.length) :
    ∃ g cp, tv = .slice (some ⟨g, 0, none⟩) st.threads.length cp ∧ st.threads.length ≤ cp ∧ g < w.heap.size ∧ ∃ ht : st.threads[i] < ms.length, w.cell? ⟨g, i, none⟩ = some (ptr ms[st.threads[i]].b) ∧ ms[st.threads[i]].b < w.heap.size ∧
      w.cell? ⟨ms[st.threads[i]].b, 0, none⟩ = some ms[st.threads[i]].rv ∧ (∃ a c, ms[st.threads[i]].rv = .slice a (st.ents st.threads[i]).length c) ∧ w.ownsRow 0 222 1 ms[st.threads[i]].rv (st.ents st.threads[i]).length ((st.ents st.threads[i]).map (enV (idsOf ms))) ∧ (st.ents st.threads[i]).length ≤ 14 := by
  have hr := h.trow
  have ht : st.threads[i] < ms.length := by rw [h.len]; exact hok.ent.2.1 _ (List.getElem_mem hi)
  have hx := h.hsAt _ ht
  have he : st.ents st.threads[i] = ms[st.threads[i]].h.ents := by unfold RS.ents; rw [hx]
  have hd := h.hd _ ht
  obtain ⟨g, cp, htv, hcp⟩ : ∃ g cp, tv = .slice (some ⟨g, 0, none⟩) st.threads.length cp ∧ st.threads.length ≤ cp := by
    rcases hr.2 with ⟨_, e2⟩ | ⟨g', cap', cur, e1, _, _, e3, _⟩
    · omega
    · exact ⟨g', cap', e1, e3⟩
  subst htv
  obtain ⟨q1, _, _⟩ := ownsRow_cell hr i hi
  refine ⟨g, cp, rfl, hcp, (hr.lt g rfl).2, ht, ?_, lt_of_shape hd.sh, hd.rc, ?_, by rw [he]; exact hd.row, by rw [he]; exact hok.e14 _ _ hx⟩
  · rw [q1, List.getElem?_map, List.getElem?_eq_getElem hi]
    simp [idP, idsOf, List.getElem?_eq_getElem ht]
  · rw [he]
    rcases hd.row.2 with ⟨e1, e2⟩ | ⟨g', cap', cur, e1, _⟩
    · exact ⟨Option.none, 0, by rw [e1, e2]⟩
    · exact ⟨_, _, e1⟩

/-- Its statements may be gone over. -/
theorem ents_G (hd : st.Deep) (hok : st.Ok k) (t : Nat) : ∀ e ∈ st.ents t, enG st.hs 3 e := by
  obtain ⟨lv, hd⟩ := hd
  intro e he
  unfold RS.ents at he
  cases hx : st.hs[t]? with
  | none => simp [hx] at he
  | some x =>
    rw [hx] at he
    exact enG_thread hd hok hx e he

/-- How many blocks it comes to. -/
theorem thread_blocks (h : RMach D lab w br sb bs tv ov st ms) (hok : st.Ok k) (hd : st.Deep) (i : Nat) (hi : i < st.threads.length) (ht : st.threads[i] < ms.length) (hb : Below w.heap.size w w') :
    Calls Tryz.prog 99 #[ms[st.threads[i]].rv] w' fun r w'' => r = .returned (.int .i64 ((st.ents st.threads[i]).map (cntE st.hs (kdA st.hs) 3)).sum) ∧ Below w'.heap.size w' w'' := by
  obtain ⟨g, cp, _, _, _, _, _, _, _, _, hrow, h14⟩ := (h.below hb).thread_at hok i hi
  exact blocks_is (by omega) (h.below hb).ar hrow h14 (ents_G hd hok _)

end
end Go.Proofs.YtfhkfnoajbbfdabGreatDoor

/- tooMuch: its loop, behind the last thread (written by gen-pr38.py). -/
namespace Go.Proofs.YtfhkfnoajbbfdabGreatDoor
open Go.RowKit Go.Shelf

attribute [local go_sem] Oper.semAt_some

/-- The activation between two threads. -/
abbrev muchA (br Br : Nat) (c : Int) (tv : Value) (N k : Nat) (u4 u29 u30 u31 u32 u33 u34 u35 u36 u37 u38 u39 u40 u41 u42 u43 u44 u61 : Value) (Ds : List Nat) : Act := { tmps := #[ptr br, undef, .pointer (some ⟨Br, 0, none⟩), undef, u4, undef, undef, undef, ptr br, .pointer (some ⟨br, 0, none⟩), .pointer (some ⟨br, 2, none⟩), .int .i64 c, .bool false, .bool false, ptr br, .pointer (some ⟨br, 0, none⟩), .pointer (some ⟨br, 0, none⟩), .pointer (some ⟨br, 1, none⟩), tv, .int .i64 (N : Int), .bool false, .bool false, ptr br, .pointer (some ⟨br, 0, none⟩), .pointer (some ⟨br, 0, none⟩), .pointer (some ⟨br, 1, none⟩), tv, .int .i64 (N : Int), .int .i64 (k : Int), u29, u30, u31, u32, u33, u34, u35, u36, u37, u38, u39, u40, u41, u42, u43, u44, undef, undef, undef, undef, undef, undef, undef, undef, undef, undef, undef, undef, undef, undef, undef, undef, u61], defers := marks Ds }

structure MuchI (w : World) (st : RS) (k : Nat) (Ds : List Nat) (W : World) : Prop where
  low : Below w.heap.size w W
  box : Boxed W w.heap.size 4 (.bool false)
  nd : Ds.Nodup
  ds : ∀ D ∈ Ds, w.heap.size + 1 ≤ D ∧ D < W.heap.size ∧ W.heap[D]? = some (.deferred (some []))
  no : ∀ j (h : j < st.threads.length), j < k → st.thrMuch st.threads[j] = false

/-- Leaving with an answer. -/
theorem much_leave {w W : World} {n : Nat} {Ds : List Nat} {b : Bool} {tmps : Array Value} (h2 : tmps[2]? = some (.pointer (some ⟨w.heap.size, 0, none⟩))) (low : Below w.heap.size w W) (hb : W.cell? ⟨w.heap.size, 0, none⟩ = some (.bool b)) (nd : Ds.Nodup) (ds : ∀ D ∈ Ds, w.heap.size + 1 ≤ D ∧ W.heap[D]? = some (.deferred (some []))) (bb : Bool) (e : bb = b) :
    LeavesInM Fence.wide n Tryz.prog Tryz.f65 tmps (fun e w' => e = .returned (.bool bb) ∧ Below w.heap.size w w') (marks Ds) .returning W := by
  refine leaves_marks w Ds W nd (fun D hD => ⟨by have := (ds D hD).1; omega, (ds D hD).2⟩) (fun W' hW' hk => ?_)
  have hc : W'.cell? ⟨w.heap.size, 0, none⟩ = some (.bool b) := by
    have hn : w.heap.size ∉ Ds := fun e => by have := (ds _ e).1; omega
    rw [← hb]
    unfold World.cell?
    simp only [hk _ hn]
  refine ⟨.bool b, ?_, by rw [e], low.trans hW'⟩
  simp [results, Tryz.f65, go_sem, h2, hc]
end Go.Proofs.YtfhkfnoajbbfdabGreatDoor
