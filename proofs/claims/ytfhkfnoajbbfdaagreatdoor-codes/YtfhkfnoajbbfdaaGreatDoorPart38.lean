import Derived.Test.YtfhkfnoajbbfdaaGreatDoorPart37
import Derived.Test.YtfhkfnoajbbfdaaGreatDoorPart25
import Derived.Test.YtfhkfnoajbbfdaaGreatDoorPart26
/- The document's row, whatever the words are. -/
namespace Go.Proofs.YtfhkfnoajbbfdaaGreatDoor
open Go.RowKit

/-- The document's machine of a code's threads. -/
def CLoads (D : Nat → Prop) (w : World) (bm : Nat) (acc : List (List Ic)) : Prop :=
  ∃ lab mb tv ts, CMach D lab w bm mb tv (fun _ => 0) ts ∧ ts.map (fun t => t.code) = acc ∧ ∀ t ∈ ts, t.T = Th.init

section
variable {D : Nat → Prop} {w : World} {bm bw c : Nat} {us : List ByteArray} {u : ByteArray} {acc : List (List Ic)}

theorem CLoads.below {w' : World} (h : CLoads D w bm acc) (hb : Below w.heap.size w w') : CLoads D w' bm acc := by
  obtain ⟨lab, mb, tv, ts, h1, h2⟩ := h
  exact ⟨lab, mb, tv, ts, h1.below hb, h2⟩

theorem cRow_any (h : CLoads D w bm acc) (hacc : AccOk acc) (hD : ∀ k, w.heap.size ≤ k → D k) (hbw : bw < w.heap.size) (hw : StrsAt w bw (u :: us)) :
    Calls Tryz.prog 71 #[ptr bm, .slice (some ⟨bw, 0, none⟩) (us.length + 1) c] w fun e w' => (match gLine (u :: us) acc with
      | .ok acc' => e = .returned (.int .i64 0) ∧ CLoads D w' bm acc'
      | .error er => e = .returned (.int .i64 er)) ∧ Chg (fun j _ => D j) w w' := by
  obtain ⟨lab, mb, tv, ts, h1, h2, h3⟩ := h
  subst h2
  have hl3 : ts.length ≤ 3 := by have := hacc.1; simpa using this
  by_cases hhead : us = [] ∧ u = wThread
  · obtain ⟨rfl, rfl⟩ := hhead
    by_cases hfull : ts.length = 3
    · have e : gLine [wThread] (ts.map fun t => t.code) = .error 5 := by simp [gLine, hfull]
      rw [e]
      refine (cRow_limit (c := c) h1 hw hfull).mono ?_
      rintro e w' ⟨rfl, rfl⟩
      exact ⟨rfl, Chg.refl _ _⟩
    · have e : gLine [wThread] (ts.map fun t => t.code) = .ok ((ts.map fun t => t.code) ++ [[]]) := by simp [gLine, hfull]
      rw [e]
      refine (cRow_thread (c := c) h1 hD hw (by omega)).mono ?_
      rintro e w' ⟨rfl, ⟨lab', tv', t, g1, g2, g3⟩, g4⟩
      refine ⟨⟨rfl, lab', mb, tv', _, g1, by simp [g3], ?_⟩, g4⟩
      intro x hx
      simp at hx
      rcases hx with hx | rfl
      · exact h3 x hx
      · exact g2
  · have hN : NotHead u us := by
      by_cases e : us = []
      · exact .inr (fun e2 => hhead ⟨e, e2⟩)
      · exact .inl e
    have hlin : gLine (u :: us) (ts.map fun t => t.code) = match gIns u us with
        | none => .error 2
        | some (_, _ :: _) => .error 2
        | some (ic, []) => match (ts.map fun t => t.code).getLast? with
          | none => .error 3
          | some c => if c.length = 4000 then .error 5 else .ok ((ts.map fun t => t.code).dropLast ++ [c ++ [ic]]) := by
      by_cases e : u = wThread
      · subst e
        have hus : us ≠ [] := fun e => hhead ⟨e, rfl⟩
        have : gIns wThread us = none := by
          rw [gIns_word (by decide)]
          rfl
        rw [this]
        cases us with
        | nil => exact absurd rfl hus
        | cons x xs => simp [gLine]
      · unfold gLine
        simp only [if_neg e]
        cases gIns u us with
        | none => rfl
        | some p =>
          obtain ⟨ic, r⟩ := p
          cases r <;> rfl
    rw [hlin]
    have hany := cIns_any w bw c u us hbw hw
    cases hg : gIns u us with
    | none =>
      refine (cRow_syntax h1 hN hw (hid (hany.mono ?_))).mono ?_
      · rintro e w' ⟨⟨i, ok, rfl, (⟨rfl, _⟩ | ⟨rfl, ic, hx, _⟩)⟩, hb⟩
        · exact ⟨⟨i, rfl⟩, hb⟩
        · rw [hg] at hx; cases hx
      · rintro e w' ⟨rfl, hb⟩
        exact ⟨rfl, Chg.of_below hb⟩
    | some p =>
      obtain ⟨ic, r⟩ := p
      cases r with
      | cons x xs =>
        refine (cRow_syntax h1 hN hw (hid (hany.mono ?_))).mono ?_
        · rintro e w' ⟨⟨i, ok, rfl, (⟨rfl, _⟩ | ⟨rfl, ic, hx, _⟩)⟩, hb⟩
          · exact ⟨⟨i, rfl⟩, hb⟩
          · rw [hg] at hx; simp at hx
        · rintro e w' ⟨rfl, hb⟩
          exact ⟨rfl, Chg.of_below hb⟩
      | nil =>
        have hok : Calls Tryz.prog 101 #[.slice (some ⟨bw, 0, none⟩) (us.length + 1) c] w fun e w' => e = .returned (.tuple #[encDI (dOf ic), .bool true]) ∧ Below w.heap.size w w' := by
          refine hany.mono ?_
          rintro e w' ⟨⟨i, ok, rfl, (⟨rfl, hx | ⟨ic', x, xs, hx⟩⟩ | ⟨rfl, ic', hx, rfl⟩)⟩, hb⟩
          · rw [hg] at hx; cases hx
          · rw [hg] at hx; simp at hx
          · rw [hg] at hx
            simp at hx
            subst hx
            exact ⟨rfl, hb⟩
        have hok' := hok.mono (R' := fun e w' => (∃ i, e = .returned (.tuple #[encDI i, .bool true])) ∧ Below w.heap.size w w') (fun e w' h => ⟨⟨_, h.1⟩, h.2⟩)
        by_cases hts : ts = []
        · subst hts
          refine (cRow_place h1 hN hw hok').mono ?_
          rintro e w' ⟨rfl, hb⟩
          exact ⟨rfl, Chg.of_below hb⟩
        · obtain ⟨k, hk⟩ : ∃ k, ts.length = k + 1 := ⟨ts.length - 1, by have := List.length_pos_iff.2 hts; omega⟩
          have hlast : (ts.map fun t => t.code).getLast? = some (ts[k]'(by omega)).code := by
            rw [List.getLast?_eq_getElem?]
            simp [hk]
          simp only [hlast]
          by_cases hf : (ts[k]'(by omega)).code.length = 4000
          · rw [if_pos hf]
            refine (cRow_full h1 k hk hf hN hw (by omega) hok').mono ?_
            rintro e w' ⟨rfl, hb⟩
            exact ⟨rfl, Chg.of_below hb⟩
          · rw [if_neg hf]
            have hle : (ts[k]'(by omega)).code.length ≤ 4000 := (hacc.2 _ (List.mem_map.2 ⟨_, List.getElem_mem (show k < ts.length by omega), rfl⟩)).1
            refine (cRow_ins h1 hD k hk (by omega) hN hw ic (by omega) hok).mono ?_
            rintro e w' ⟨rfl, ⟨lab', cv, g1⟩, g2⟩
            refine ⟨⟨rfl, lab', mb, tv, _, g1, ?_, ?_⟩, g2⟩
            · apply List.ext_getElem
              · simp [hk]
              · intro j j1 j2
                have hj : j < ts.length := by simpa using j1
                simp only [List.getElem_map, List.getElem_set]
                by_cases e : k = j
                · subst e
                  rw [if_pos rfl, List.getElem_append_right (by simp [hk])]
                  simp [hk]
                · rw [if_neg e, List.getElem_append_left (by simp; omega)]
                  simp
            · intro x hx
              obtain ⟨j, hj, rfl⟩ := List.mem_iff_getElem.1 hx
              have hj' : j < ts.length := by simpa using hj
              rw [List.getElem_set]
              by_cases e : k = j
              · subst e
                rw [if_pos rfl]
                exact h3 (ts[k]'hj') (List.getElem_mem hj')
              · rw [if_neg e]
                exact h3 _ (List.getElem_mem hj')
end
end Go.Proofs.YtfhkfnoajbbfdaaGreatDoor

/- The document's Load, whatever the text is. -/
namespace Go.Proofs.YtfhkfnoajbbfdaaGreatDoor
open Go.RowKit

theorem cut_hit (l r : List UInt8) (h : (10 : UInt8) ∉ l) : Lib.cut (l ++ 10 :: r) [10] = (l, r, true) := by
  unfold Lib.cut
  rw [index_at 10 l r h, if_pos (by omega)]
  simp

theorem cut_miss (l : List UInt8) (h : (10 : UInt8) ∉ l) : (Lib.cut l [10]).2.2 = false := by
  unfold Lib.cut
  rw [index_miss 10 l h, if_neg (by omega)]

/-- The bytes of a text from one place on, up to another one. -/
def piece (s : ByteArray) (a b : Nat) : List UInt8 := (s.data.toList.drop a).take (b - a)

theorem piece_more (s : ByteArray) (a b : Nat) (hab : a ≤ b) (hb : b < s.size) : piece s a (b + 1) = piece s a b ++ [s[b]] := by
  unfold piece
  have hl : b - a < (s.data.toList.drop a).length := by rw [List.length_drop, Array.length_toList]; show b - a < s.size - a; omega
  rw [show b + 1 - a = (b - a) + 1 by omega, List.take_succ_eq_append_getElem hl]
  congr 2
  simp [ByteArray.getElem_eq_getElem_data, show a + (b - a) = b by omega]

theorem piece_rest (s : ByteArray) (a b : Nat) (hab : a ≤ b) (hb : b < s.size) : s.data.toList.drop a = piece s a b ++ s[b] :: s.data.toList.drop (b + 1) := by
  unfold piece
  have hl : b < s.data.toList.length := by rw [Array.length_toList]; exact hb
  have h1 : s.data.toList.drop b = s[b] :: s.data.toList.drop (b + 1) := by rw [List.drop_eq_getElem_cons hl]; simp [ByteArray.getElem_eq_getElem_data]
  rw [← h1]
  have := (List.take_append_drop (b - a) (s.data.toList.drop a)).symm
  rw [List.drop_drop, show a + (b - a) = b by omega] at this
  exact this

theorem piece_all (s : ByteArray) (a : Nat) : piece s a s.size = s.data.toList.drop a := by
  unfold piece
  rw [List.take_of_length_le (by rw [List.length_drop, Array.length_toList]; exact Nat.le_refl _)]

theorem piece_str (s : ByteArray) (a b : Nat) : s.extract a b = ⟨(piece s a b).toArray⟩ := by
  apply ByteArray.ext
  apply Array.ext'
  rw [ByteArray.data_extract]
  simp [piece, List.extract_eq_take_drop]

/-- What holds while the document's Load looks for a line's end. -/
structure LdInv (s : ByteArray) (D : Nat → Prop) (W0 W : World) (bm : Nat) (a n i : Nat) (R : Except (Int × Int) (List (List Ic))) : Prop where
  le : a ≤ i
  na : n ≤ a
  no : (10 : UInt8) ∉ piece s a i
  mach : ∃ f acc, s.size - a + 1 ≤ f ∧ gText f (s.data.toList.drop a) n acc = R ∧ AccOk acc ∧ CLoads D W bm acc
  bel : Below W0.heap.size W0 W

set_option maxRecDepth 100000 in
set_option maxHeartbeats 1000000 in
theorem cLoad2_long (W : World) (s : ByteArray) (h : 131072 < s.size) : Calls Tryz.prog 48 #[.string s] W fun e w' => e = .returned (.tuple #[.pointer none, .int .i64 1, .int .i64 0]) ∧ w' = W := by
  have h' : (131072 : Int) < (s.size : Int) := by omega
  go_enter Tryz.func48, Tryz.ntmps48
  go_wp2
  go_ret3
  exact ⟨rfl, rfl⟩

theorem CLoads.new (W : World) (D : Nat → Prop) (hD : ∀ k, W.heap.size ≤ k → D k) : CLoads D ((W.alloc (.cells (zeros 256) 2)).alloc (.cells #[.slice (some ⟨W.heap.size, 0, none⟩) 256 256, .slice none 0 0] 61)) (W.heap.size + 1) [] := by
  have hs : (W.alloc (.cells (zeros 256) 2)).heap.size = W.heap.size + 1 := by simp
  have c := fun o => World.cell?_alloc_new (W.alloc (.cells (zeros 256) 2)) #[.slice (some ⟨W.heap.size, 0, none⟩) 256 256, .slice none 0 0] 61 o
  have sh := shape_new (W.alloc (.cells (zeros 256) 2)) #[.slice (some ⟨W.heap.size, 0, none⟩) 256 256, .slice none 0 0] 61
  rw [hs] at c sh
  refine ⟨fun k => if k = W.heap.size then (0, 1) else (0, 0), W.heap.size, .slice none 0 0, [], ⟨sh, c 0, c 1, ?_, ?_, ?_, ?_, ⟨rfl, .inl ⟨rfl, rfl⟩⟩, fun i h => absurd h (by simp), ?_, ?_, fun g e => by simp [Value.ownBlock] at e, fun i h => absurd h (by simp)⟩, rfl, fun t h => by simp at h⟩
  · intro j _
    rw [← hs]
    simp
  · exact (shape_of_block (Below.heap_alloc _ _ _ (by simp))).trans ((shape_new W _ _).trans (by rw [zeros_size]))
  · exact fun j hj => (World.cell?_alloc_past _ _ _ (by simp)).trans ((World.cell?_alloc_new W _ _ j).trans (zeros_get 256 j hj))
  · exact fun j _ => (World.frozen?_alloc_past _ _ _ (by simp)).trans (by simp)
  · exact ⟨by simp, hD _ (by omega)⟩
  · exact ⟨by simp, hD _ (Nat.le_refl _)⟩

/-- What the document's Load tells. -/
def DLoadPost (D : Nat → Prop) (W : World) (R : Except (Int × Int) (List (List Ic))) (e : Ending) (w' : World) : Prop := (match R with
      | .ok acc => e = .returned (.tuple #[ptr (W.heap.size + 1), .int .i64 0, .int .i64 0]) ∧ CLoads D w' (W.heap.size + 1) acc ∧ AccOk acc
      | .error (er, ln) => e = .returned (.tuple #[.pointer none, .int .i64 er, .int .i64 ln])) ∧ Below W.heap.size W w'

theorem gLine_nos {ws : List ByteArray} {acc : List (List Ic)} {er : Int} (h : gLine ws acc = .error er) : er = 2 ∨ er = 3 ∨ er = 5 := by
  unfold gLine at h
  repeat (first | (split at h) | (simp at h; omega) | simp at h)

theorem cut_strs {w W : World} {g cap : Nat} {L : List (List UInt8)} (h : CutInv w W g cap L) : StrsAt W g (L.map fun x => ⟨x.toArray⟩) := by
  intro j hj
  have hj' : j < L.length := by simpa using hj
  obtain ⟨q1, _, _⟩ := ownsRow_cell h.own j hj'
  rw [q1]
  simp [List.getElem?_eq_getElem hj']

set_option maxRecDepth 100000 in
set_option maxHeartbeats 1000000 in
theorem cLoad2_walk (W : World) (s : ByteArray) (hs : s.size ≤ 131072) (D : Nat → Prop) (hD : ∀ k, W.heap.size ≤ k → D k) (hDo : ∀ k, D k → W.heap.size ≤ k) (R : Except (Int × Int) (List (List Ic))) (hR : Hid (gText (s.size + 2) s.data.toList 0 [] = R)) :
    Calls Tryz.prog 48 #[.string s] W (DLoadPost D W R) := by
  have hs' : ¬ (131072 : Int) < (s.size : Int) := by omega
  have hmk : ∀ w, (Instr.makeSlice 34 (.int .i64 256) (.int .i64 256)).run Tryz.prog w = .ok (.slice (some ⟨w.heap.size, 0, none⟩) 256 256) (w.alloc (.cells (zeros 256) 2)) := fun w => make_zeros 256 (by decide) w
  have HN := hid (CLoads.new W D hD)
  go_enter Tryz.func48, Tryz.ntmps48
  go_wp2
  go_loopw [6, 7, 8] (fun v6 v7 v8 wr => ∃ (a n i : Nat), i ≤ s.size ∧ v6 = .int .i64 a ∧ v7 = .int .i64 n ∧ v8 = .int .i64 i ∧ Hid (LdInv s D W wr (W.heap.size + 1) a n i R)) (fun _ _ v8 _ => s.size + 1 - (intOf v8).toNat)
  case atStart =>
    refine ⟨0, 0, 0, by omega, rfl, rfl, rfl, hid ⟨by omega, by omega, by simp [piece], ⟨s.size + 2, [], by omega, by simpa using hR.out, ⟨by simp, fun c hc => by simp at hc⟩, HN.out⟩, ?_⟩⟩
    exact ((Below.refl _ W).alloc (Nat.le_refl _) _).alloc (by simp) _
  case round =>
    clear HN hmk
    obtain ⟨a, n, i, hi, rfl, rfl, rfl, HI⟩ := hrel
    have hai := HI.out.le
    have hna := HI.out.na
    have hi' : (i : Int) ≤ (s.size : Int) := by omega
    by_cases hlt : i < s.size
    · have hlt' : (i : Int) < (s.size : Int) := by omega
      have hne' : ¬ (i : Int) = (s.size : Int) := by omega
      by_cases h10 : s[i] = 10
      · have h10' : (s[i].toNat : Int) = 10 := by rw [h10]; rfl
        have hai' : (a : Int) ≤ (i : Int) := by omega
        have hrest := piece_rest s a i hai hlt
        rw [h10] at hrest
        obtain ⟨f, acc, hf, hg, hacc, hm⟩ := HI.out.mach
        obtain ⟨f, rfl⟩ : ∃ f', f = f' + 1 := ⟨f - 1, by omega⟩
        have hg2 : (match gLine (wordsOf (piece s a i)) acc with | .ok acc' => gText f (s.data.toList.drop (i + 1)) (n + 1) acc' | .error er => .error (er, (n : Int) + 1)) = R := by
          rw [← hg, gText, if_neg (by rw [hrest]; simp), hrest, cut_hit _ _ HI.out.no]
          rfl
        have hbel := HI.out.bel
        clear HI hrest hg h10
        go_wp2_with fail
        rw [piece_str]
        refine (cCut_any wr ⟨(piece s a i).toArray⟩ 32 (by rw [mk_size']; unfold piece; simp; omega)).mono ?_
        rintro e W2 ⟨g, cap, rfl, hcut⟩
        have hcut' : CutInv wr W2 g cap (cutF 32 (piece s a i)) := hcut
        have hwl : wordsOf (piece s a i) = (cutF 32 (piece s a i)).map fun x => ⟨x.toArray⟩ := wordsOf_cutF _
        have hst := cut_strs hcut'
        rw [← hwl] at hst
        obtain ⟨u, us, hus⟩ : ∃ u us, wordsOf (piece s a i) = u :: us := by
          cases h : wordsOf (piece s a i) with
          | nil => rw [hwl] at h; simp at h; exact absurd h (cutF_ne _ _)
          | cons u us => exact ⟨u, us, rfl⟩
        have hlen : (cutF 32 (⟨(piece s a i).toArray⟩ : ByteArray).data.toList).length = us.length + 1 := by
          have := congrArg List.length hwl
          rw [hus] at this
          simpa using this.symm
        rw [hlen]
        rw [hus] at hst hg2
        have hm2 := hm.below (hcut'.bel.mono (Nat.le_refl _))
        have hrow := cRow_any (c := cap) hm2 hacc (fun k hk => hD k (by have := hbel.size; have := hcut'.bel.size; omega)) (bw := g) (by obtain ⟨_, _, q3⟩ := ownsRow_cell hcut'.own 0 (List.length_pos_iff.2 (cutF_ne _ _)); exact q3) hst
        have HB2 := hid (hbel.trans (hcut'.bel.mono hbel.size))
        clear hcut hcut' hst hlen hwl hus hm hm2 hbel
        have hn1 : wrap64 ((n : Int) + 1) = (n : Int) + 1 := by unfold wrap64; omega
        cases hgl : gLine (u :: us) acc with
        | ok acc' =>
          rw [hgl] at hrow hg2
          have hacc' := (gLine_ok hgl hacc).1
          have HROW := hid hrow
          have HG2 := hid hg2
          clear hrow hg2
          go_wp2_with fail
          refine HROW.out.mono ?_
          rintro e W3 ⟨⟨rfl, hm3⟩, hc3⟩
          have HM3 := hid hm3
          have HC3 := hid hc3
          clear hm3 hc3 HROW
          go_wp2
          refine ⟨⟨i + 1, n + 1, i + 1, by omega, by go_num, by go_num, by go_num, hid ⟨by omega, by omega, by simp [piece], ⟨f, acc', by omega, HG2.out, hacc', HM3.out⟩, ?_⟩⟩, by simp [intOf]; omega⟩
          exact HB2.out.trans (HC3.out.below HB2.out.size (fun k _ hk => hDo k hk))
        | error er =>
          rw [hgl] at hrow hg2
          have hRR : R = .error (er, (n : Int) + 1) := hg2.symm
          subst hRR
          have her := gLine_nos hgl
          have her' : ¬ er = 0 := by omega
          have HROW := hid hrow
          clear hrow hg2
          go_wp2_with fail
          refine HROW.out.mono ?_
          rintro e W3 ⟨rfl, hc3⟩
          have HC3 := hid hc3
          clear hc3 HROW
          go_wp2
          go_ret3
          exact ⟨rfl, HB2.out.trans (HC3.out.below HB2.out.size (fun k _ hk => hDo k hk))⟩
      · have h10' : ¬ (s[i].toNat : Int) = 10 := fun e => h10 (UInt8.toNat_inj.1 (by simpa using Int.ofNat.inj e))
        have hp := piece_more s a i hai hlt
        go_wp2
        refine ⟨⟨a, n, i + 1, by omega, rfl, rfl, by go_num, hid ⟨by omega, by omega, ?_, HI.out.mach, HI.out.bel⟩⟩, by simp [intOf]; omega⟩
        rw [hp]
        simp only [List.mem_append, List.mem_singleton, not_or]
        exact ⟨HI.out.no, fun e => h10 e.symm⟩
    · have hlt' : ¬ (i : Int) < (s.size : Int) := by omega
      obtain rfl : i = s.size := by omega
      obtain ⟨f, acc, hf, hg, hacc, hm⟩ := HI.out.mach
      obtain ⟨f, rfl⟩ : ∃ f', f = f' + 1 := ⟨f - 1, by omega⟩
      have hno := HI.out.no
      rw [piece_all] at hno
      by_cases hz : a = s.size ∧ 0 < n
      · have hz1 : (a : Int) = (s.size : Int) := by omega
        have hz2 : (0 : Int) < (n : Int) := by omega
        have hRR : R = .ok acc := by
          rw [← hg, gText, if_pos ⟨List.drop_eq_nil_of_le (by rw [Array.length_toList, hz.1]; exact Nat.le_refl _), by omega⟩]
        subst hRR
        have HB := hid HI.out.bel
        have HM := hid hm
        have HA := hid hacc
        clear HI hg hno hm hacc
        go_wp2
        go_ret3
        exact ⟨⟨rfl, HM.out, HA.out⟩, HB.out⟩
      · have hRR : R = .error (2, (n : Int) + 1) := by
          rw [← hg, gText, if_neg (fun e => hz ⟨?_, by omega⟩)]
          · have := cut_miss _ hno
            split
            · rfl
            · rename_i h; rw [h] at this; cases this
          · have := congrArg List.length e.1
            simp at this
            have h2 : s.data.size = s.size := rfl
            omega
        subst hRR
        have hai' : (a : Int) ≤ (s.size : Int) := by omega
        have HB := hid HI.out.bel
        clear HI hg hno hm hacc
        have hzz : ¬ ((a : Int) = (s.size : Int)) ∨ ((a : Int) = (s.size : Int) ∧ ¬ (0 : Int) < (n : Int)) := by omega
        rcases hzz with hz1 | ⟨hz1, hz2⟩
        · go_wp2_with fail
          rw [piece_str]
          refine (cCut_any wr ⟨(piece s a s.size).toArray⟩ 32 (by rw [mk_size']; unfold piece; simp; omega)).mono ?_
          rintro e W2 ⟨g, cap, rfl, hcut⟩
          have HC := hid hcut
          clear hcut
          go_wp2
          go_ret3
          exact ⟨rfl, HB.out.trans (HC.out.bel.mono HB.out.size)⟩
        · go_wp2_with fail
          refine (cCut_any wr ByteArray.empty 32 (by decide)).mono ?_
          rintro e W2 ⟨g, cap, rfl, hcut⟩
          have HC := hid hcut
          clear hcut
          go_wp2
          go_ret3
          exact ⟨rfl, HB.out.trans (HC.out.bel.mono HB.out.size)⟩

theorem cLoad2_any (W : World) (s : ByteArray) (D : Nat → Prop) (hD : ∀ k, W.heap.size ≤ k → D k) (hDo : ∀ k, D k → W.heap.size ≤ k) : Calls Tryz.prog 48 #[.string s] W (DLoadPost D W (gCode s)) := by
  unfold gCode
  by_cases h : 131072 < s.size
  · rw [if_pos h]
    refine (cLoad2_long W s h).mono ?_
    rintro e w' ⟨rfl, rfl⟩
    exact ⟨rfl, Below.refl _ _⟩
  · rw [if_neg h]
    exact cLoad2_walk W s (by omega) D hD hDo _ rfl
end Go.Proofs.YtfhkfnoajbbfdaaGreatDoor

/- Codes: the program's Load and the document's. -/
namespace Go.Proofs.YtfhkfnoajbbfdaaGreatDoor
open Go.RowKit

section
variable {W : World}

theorem res_cells (W : World) {W1 W2 : World} (b1 : Below (W.alloc (.cells #[.pointer none, .pointer none] 25)).heap.size (W.alloc (.cells #[.pointer none, .pointer none] 25)) W1) (b2 : Below W1.heap.size W1 W2) :
    W2.cell? ⟨W.heap.size, 0, none⟩ = some (.pointer none) ∧ W2.cell? ⟨W.heap.size, 1, none⟩ = some (.pointer none) ∧ W2.frozen? ⟨W.heap.size, 0, none⟩ = false ∧ W2.frozen? ⟨W.heap.size, 1, none⟩ = false ∧ Below W.heap.size W W2 := by
  have hs : (W.alloc (.cells #[.pointer none, .pointer none] 25)).heap.size = W.heap.size + 1 := by simp
  have h1 := b1.size
  have k : ∀ o, W2.cell? ⟨W.heap.size, o, none⟩ = (W.alloc (.cells #[.pointer none, .pointer none] 25)).cell? ⟨W.heap.size, o, none⟩ := fun o => (b2.cell (p := ⟨W.heap.size, o, none⟩) (by show W.heap.size < _; omega)).trans (b1.cell (p := ⟨W.heap.size, o, none⟩) (by show W.heap.size < _; omega))
  have kf : ∀ o, W2.frozen? ⟨W.heap.size, o, none⟩ = (W.alloc (.cells #[.pointer none, .pointer none] 25)).frozen? ⟨W.heap.size, o, none⟩ := fun o => (b2.frozen (p := ⟨W.heap.size, o, none⟩) (by show W.heap.size < _; omega)).trans (b1.frozen (p := ⟨W.heap.size, o, none⟩) (by show W.heap.size < _; omega))
  exact ⟨(k 0).trans (World.cell?_alloc_new _ _ _ 0), (k 1).trans (World.cell?_alloc_new _ _ _ 1), (kf 0).trans (by simp), (kf 1).trans (by simp), ((Below.refl _ W).alloc (Nat.le_refl _) _).trans ((b1.mono (by omega)).trans (b2.mono (by omega)))⟩

set_option maxRecDepth 100000 in
set_option maxHeartbeats 1000000 in
theorem loaded_err (hE : Env W) (s : ByteArray) {er ln : Int} (h : gCode s = .error (er, ln)) (h0 : er ≠ 0) :
    Calls Tryz.prog 15 #[.string s] W fun e w' => e = .returned (.tuple #[.agg #[.pointer none, .pointer none], .bool true]) ∧ Below W.heap.size W w' := by
  have k1 := pload_any (W := W.alloc (.cells #[.pointer none, .pointer none] 25)) (hE.below ((Below.refl _ W).alloc (Nat.le_refl _) _)) s
  have k2 := fun W' => cLoad2_any W' s (fun k => W'.heap.size ≤ k) (fun _ h => h) (fun _ h => h)
  rw [h] at k1 k2
  have K1 := hid k1
  have K2 := hid k2
  clear k1 k2
  have hz : (er != 0) = true := by simpa using h0
  go_enter Tryz.func15, Tryz.ntmps15
  go_wp2_with fail
  refine K1.out.mono ?_
  rintro e W1 ⟨rfl, b1⟩
  have B1 := hid b1
  clear b1
  go_wp2_with fail
  refine (K2.out W1).mono ?_
  rintro e W2 ⟨h1, b2⟩
  simp only at h1
  subst h1
  obtain ⟨c0, c1, f0, f1, bel⟩ := res_cells W B1.out b2
  have BEL := hid bel
  clear b2 bel
  go_wp2
  have d0 := cell_set_eq (v := .pointer none) c0 (i := 0) rfl
  have hbel := (BEL.out.setCell (p := ⟨W.heap.size, 0, none⟩) (Nat.le_refl _) (.pointer none)).setCell (p := ⟨W.heap.size, 1, none⟩) (Nat.le_refl _) (.pointer none)
  have z0 : ((W2.setCell ⟨W.heap.size, 0, none⟩ (.pointer none)).setCell ⟨W.heap.size, 1, none⟩ (.pointer none)).cell? ⟨W.heap.size, 0, none⟩ = some (.pointer none) := (cell_set_ne (by omega)).trans d0
  have z1 : ((W2.setCell ⟨W.heap.size, 0, none⟩ (.pointer none)).setCell ⟨W.heap.size, 1, none⟩ (.pointer none)).cell? ⟨W.heap.size, 1, none⟩ = some (.pointer none) := cell_set_eq ((cell_set_ne (by omega)).trans c1) rfl
  refine ⟨rfl, .tuple #[.agg #[.pointer none, .pointer none], .bool true], ?_, rfl, hbel⟩
  generalize (W2.setCell ⟨W.heap.size, 0, none⟩ (.pointer none)).setCell ⟨W.heap.size, 1, none⟩ (.pointer none) = W' at *
  simp [results, Tryz.results15, go_sem, z0, z1]

set_option maxRecDepth 100000 in
set_option maxHeartbeats 1000000 in
theorem loaded_ok (hE : Env W) (s : ByteArray) {cs : List (List Ic)} (h : gCode s = .ok cs) :
    Calls Tryz.prog 15 #[.string s] W fun e w' => (∃ bx bm n1, e = .returned (.tuple #[.agg #[ptr bx, ptr bm], .bool true]) ∧ W.heap.size < n1 ∧ n1 ≤ bm ∧ MRep (fun k => W.heap.size < k ∧ k < n1) w' bx (cs.map fun c => (Th.init, c)) (fun _ => 0) ∧ CLoads (fun k => n1 ≤ k) w' bm cs ∧ AccOk cs) ∧ Below W.heap.size W w' := by
  have hsz : (W.alloc (.cells #[.pointer none, .pointer none] 25)).heap.size = W.heap.size + 1 := by simp
  have k1 := pload_any (W := W.alloc (.cells #[.pointer none, .pointer none] 25)) (hE.below ((Below.refl _ W).alloc (Nat.le_refl _) _)) s
  have k2 := fun W' => cLoad2_any W' s (fun k => W'.heap.size ≤ k) (fun _ h => h) (fun _ h => h)
  rw [h] at k1 k2
  have K1 := hid k1
  have K2 := hid k2
  clear k1 k2
  go_enter Tryz.func15, Tryz.ntmps15
  go_wp2_with fail
  refine K1.out.mono ?_
  rintro e W1 ⟨bx, rfl, hm, ha, b1⟩
  have B1 := hid b1
  have HM := hid hm
  have HA := hid ha
  clear b1 hm ha
  go_wp2_with fail
  refine (K2.out W1).mono ?_
  rintro e W2 ⟨⟨h1, hc, _⟩, b2⟩
  subst h1
  obtain ⟨c0, c1, f0, f1, bel⟩ := res_cells W B1.out b2
  have BEL := hid bel
  have HC := hid hc
  have B2 := hid b2
  clear b2 bel hc
  go_wp2
  have hs1 : W.heap.size + 1 ≤ W1.heap.size := by have := B1.out.size; omega
  have hch : Chg (fun k _ => k = W.heap.size) W2 ((W2.setCell ⟨W.heap.size, 0, none⟩ (ptr bx)).setCell ⟨W.heap.size, 1, none⟩ (ptr (W1.heap.size + 1))) := chg_two W2 W.heap.size 0 1 _ _
  have hbel := (BEL.out.setCell (p := ⟨W.heap.size, 0, none⟩) (Nat.le_refl _) (ptr bx)).setCell (p := ⟨W.heap.size, 1, none⟩) (Nat.le_refl _) (ptr (W1.heap.size + 1))
  have z0 : ((W2.setCell ⟨W.heap.size, 0, none⟩ (ptr bx)).setCell ⟨W.heap.size, 1, none⟩ (ptr (W1.heap.size + 1))).cell? ⟨W.heap.size, 0, none⟩ = some (ptr bx) := (cell_set_ne (by omega)).trans (cell_set_eq c0 rfl)
  have z1 : ((W2.setCell ⟨W.heap.size, 0, none⟩ (ptr bx)).setCell ⟨W.heap.size, 1, none⟩ (ptr (W1.heap.size + 1))).cell? ⟨W.heap.size, 1, none⟩ = some (ptr (W1.heap.size + 1)) := cell_set_eq ((cell_set_ne (by omega)).trans c1) rfl
  have hM : MRep (fun k => W.heap.size < k ∧ k < W1.heap.size) ((W2.setCell ⟨W.heap.size, 0, none⟩ (ptr bx)).setCell ⟨W.heap.size, 1, none⟩ (ptr (W1.heap.size + 1))) bx (cs.map fun c => (Th.init, c)) (fun _ => 0) := by
    have h1 := HM.out.newD (D' := fun k => W.heap.size < k ∧ k < W1.heap.size) (fun k hk hl => ⟨by omega, hl⟩)
    exact (h1.below B2.out).keep hch (fun k hk _ _ e => by omega)
  have hC : CLoads (fun k => W1.heap.size ≤ k) ((W2.setCell ⟨W.heap.size, 0, none⟩ (ptr bx)).setCell ⟨W.heap.size, 1, none⟩ (ptr (W1.heap.size + 1))) (W1.heap.size + 1) cs := by
    obtain ⟨lab, mb, tv, ts, g1, g2⟩ := HC.out
    exact ⟨lab, mb, tv, ts, g1.keep hch (fun k _ hk e => by omega), g2⟩
  refine ⟨rfl, .tuple #[.agg #[ptr bx, ptr (W1.heap.size + 1)], .bool true], ?_, ⟨bx, W1.heap.size + 1, W1.heap.size, rfl, by omega, by omega, hM, hC, HA.out⟩, hbel⟩
  change (results _ _).run _ ((W2.setCell ⟨W.heap.size, 0, none⟩ (ptr bx)).setCell ⟨W.heap.size, 1, none⟩ (ptr (W1.heap.size + 1))) = .ok _ ((W2.setCell ⟨W.heap.size, 0, none⟩ (ptr bx)).setCell ⟨W.heap.size, 1, none⟩ (ptr (W1.heap.size + 1)))
  clear hM hC hch hbel
  generalize (W2.setCell ⟨W.heap.size, 0, none⟩ (ptr bx)).setCell ⟨W.heap.size, 1, none⟩ (ptr (W1.heap.size + 1)) = W' at *
  simp [results, Tryz.results15, go_sem, z0, z1]

set_option maxRecDepth 100000 in
set_option maxHeartbeats 1000000 in
theorem codes_long (W : World) (s : ByteArray) (h : 262144 < s.size) : Calls Tryz.prog 3 #[.string s] W fun e w' => e = .returned (.bool true) ∧ Below W.heap.size W w' := by
  have h' : (262144 : Int) < (s.size : Int) := by omega
  go_enter Tryz.func3, Tryz.ntmps3
  go_wp2
  go_ret
  exact ⟨rfl, Below.refl _ _⟩

set_option maxRecDepth 100000 in
set_option maxHeartbeats 1000000 in
theorem codes_short (W : World) (s : ByteArray) (h : s.size ≤ 262144) (hl : Hid (Calls Tryz.prog 15 #[.string s] W fun e w' => (∃ p q, e = .returned (.tuple #[.agg #[.pointer p, .pointer q], .bool true])) ∧ Below W.heap.size W w')) :
    Calls Tryz.prog 3 #[.string s] W fun e w' => e = .returned (.bool true) ∧ Below W.heap.size W w' := by
  have h' : ¬ (262144 : Int) < (s.size : Int) := by omega
  go_enter Tryz.func3, Tryz.ntmps3
  go_wp2_with fail
  refine hl.out.mono ?_
  rintro e W1 ⟨⟨p, q, rfl⟩, b1⟩
  have B1 := hid b1
  clear b1
  go_wp2
  go_ret
  exact ⟨rfl, B1.out.alloc B1.out.size _⟩

/-- Codes is true of every text. -/
theorem codes_walk (hE : Env W) (s : ByteArray) : Calls Tryz.prog 3 #[.string s] W fun e w' => e = .returned (.bool true) ∧ Below W.heap.size W w' := by
  by_cases h : 262144 < s.size
  · exact codes_long W s h
  · refine codes_short W s (by omega) ?_
    cases hR : gCode s with
    | error p =>
      obtain ⟨er, ln⟩ := p
      exact (loaded_err hE s hR (gCode_err hR)).mono fun e w' h => ⟨⟨none, none, h.1⟩, h.2⟩
    | ok cs =>
      refine (loaded_ok hE s hR).mono ?_
      rintro e w' ⟨⟨bx, bm, n1, rfl, _⟩, hb⟩
      exact ⟨⟨_, _, rfl⟩, hb⟩
end
end Go.Proofs.YtfhkfnoajbbfdaaGreatDoor
