import Derived.Test.YtfhkfnoajbbfdabGreatDoorPart27
import Derived.Test.YtfhkfnoajbbfdabGreatDoorPart03
import Derived.Test.YtfhkfnoajbbfdabGreatDoorPart26
import Derived.Test.YtfhkfnoajbbfdabGreatDoorPart24
/- All that stands within: the iterator. -/
namespace Go.Proofs.YtfhkfnoajbbfdabGreatDoor
open Go.RowKit Go.Shelf

attribute [local go_sem] Oper.semAt_some

theorem wide_room (k : Nat) : Fence.wide.room k := fun d h => by cases h
theorem yield_any {m : Nat} (m' : Nat) {P : Program} {l : Nat} {args : Array Value} {W : World} {R : Ending → World → Prop} (h : YieldAt Fence.wide m P l args W R) : YieldAt Fence.wide m' P l args W R := by
  obtain ⟨fn, tmps, assign, body, hy, hR⟩ := h
  exact ⟨fn, tmps, assign, body, hy, hR.1, fun c cs _ => hR.2 c cs (wide_room _)⟩

/-- What stands in a list, and within, in the order of the text. -/
def walkL (hs : List Hd) : Nat → List En → List En
  | 0, es => es
  | f + 1, es => es.flatMap fun e => e :: walkL hs f (enEnts hs e)

abbrev EnIn (hs : List Hd) := { e : En // enG hs 3 e }

section
variable {hs : List Hd} {ms : List HM} {W0 : World}

set_option maxRecDepth 100000 in
set_option maxHeartbeats 2000000 in
theorem walk_row (n l n₀ N : Nat) {rv : Value} {es : List En} (hA0 : Ar hs ms W0) (hn₀ : W0.heap.size ≤ n₀) (hrow : W0.ownsRow 0 222 1 rv es.length (es.map (enV (idsOf ms)))) (h14 : es.length ≤ 14) (hes : Hid (∀ e ∈ es, enG hs 3 e)) (J Jx : List (EnIn hs) → World → Prop)
    (hY : Hid (∀ m pre (x : EnIn hs) W, J pre W → Below W0.heap.size W0 W → pre.length < N → YieldAt Fence.wide m Tryz.prog l #[enV (idsOf ms) x.1] W fun e W' => (e = .returned (.bool true) ∧ J (pre ++ [x]) W' ∧ Below n₀ W W') ∨ (e = .returned (.bool false) ∧ Jx (pre ++ [x]) W')))
    (sub : En → List En)
    (RK : Hid (∀ m pre W, J pre W → Below W0.heap.size W0 W → ∀ e ∈ es, pre.length + (sub e).length ≤ N → CallsIn Fence.wide m Tryz.prog 143 #[wiV ms e, .func (.yield l) #[] #[]] W fun e' W' => (e' = .returned (.bool true) ∧ (∃ ys : List (EnIn hs), ys.map (·.1) = sub e ∧ J (pre ++ ys) W') ∧ Below n₀ W W') ∨ (e' = .returned (.bool false) ∧ ∃ q : List (EnIn hs), q.map (·.1) <+: sub e ∧ Jx (pre ++ q) W')))
    (pre : List (EnIn hs)) (W : World) (hJ : J pre W) (hW : Below W0.heap.size W0 W) (hN : pre.length + (es.flatMap fun e => e :: sub e).length ≤ N) :
    CallsIn Fence.wide n Tryz.prog 143 #[rv, .func (.yield l) #[] #[]] W fun e W' => (e = .returned (.bool true) ∧ (∃ ys : List (EnIn hs), ys.map (·.1) = (es.flatMap fun e => e :: sub e) ∧ J (pre ++ ys) W') ∧ Below n₀ W W') ∨ (e = .returned (.bool false) ∧ ∃ q : List (EnIn hs), q.map (·.1) <+: (es.flatMap fun e => e :: sub e) ∧ Jx (pre ++ q) W') := by
  obtain ⟨ra, rk, hrv⟩ : ∃ a k, rv = .slice a es.length k := by
    rcases hrow.2 with ⟨e1, e2⟩ | ⟨g', cap', cur, e1, _⟩
    · exact ⟨none, 0, by rw [e1, e2]⟩
    · exact ⟨_, _, e1⟩
  subst hrv
  have HC : Hid (∀ k (hk : k < es.length), ∃ g, ra = some ⟨g, 0, none⟩ ∧ es.length ≤ rk ∧ g < W0.heap.size ∧ W0.cell? ⟨g, k, none⟩ = some (enV (idsOf ms) es[k])) := by
    intro k hk
    rcases hrow.2 with ⟨_, e2⟩ | ⟨g', cap', cur, e1, _, _, e3, _⟩
    · omega
    · obtain ⟨rfl, rfl⟩ : ra = some ⟨g', 0, none⟩ ∧ rk = cap' := by simpa using e1
      obtain ⟨q1, _, _⟩ := ownsRow_cell hrow k hk
      refine ⟨g', rfl, e3, (hrow.lt g' rfl).2, ?_⟩
      rw [q1, List.getElem?_map, List.getElem?_eq_getElem hk]
      rfl
  have HSN : Hid (∀ k (hk : k < es.length), ((es.take (k + 1)).flatMap fun e => e :: sub e) = ((es.take k).flatMap fun e => e :: sub e) ++ (es[k] :: sub es[k])) := by
    intro k hk
    have e : es.take (k + 1) = es.take k ++ [es[k]] := by rw [List.take_add_one, List.getElem?_eq_getElem hk]; rfl
    rw [e, List.flatMap_append]
    simp only [List.flatMap_cons, List.flatMap_nil, List.append_nil]
  have HPF : Hid (∀ k, ∃ r, (es.flatMap fun e => e :: sub e) = ((es.take k).flatMap fun e => e :: sub e) ++ r) := by
    intro k
    refine ⟨(es.drop k).flatMap fun e => e :: sub e, ?_⟩
    rw [← List.flatMap_append, List.take_append_drop]
  have HA := hid hA0
  clear hrow hA0
  refine callsIn_of_wp Tryz.func143 rfl trivial ?_ rfl
  simp only [Tryz.ntmps143, List.size_toArray, List.length_cons, List.length_nil, Nat.reduceAdd, Nat.reduceSub, Array.replicate_succ, Array.replicate_zero, List.push_toArray, List.append_toArray, List.nil_append, List.cons_append]
  have hw : ∀ f, Fence.wide.fn f := fun _ => trivial
  have hdd : ∀ k : Nat, (Fence.wide.depth.isSome = true → 1 ≤ k) := fun k h => by cases h
  have HJ0 := hid hJ
  have HW0 := hid hW
  have HN := hid hN
  clear hJ hW hN
  gi_wp2
  gi_loopw [9] (fun i wr => ∃ k : Nat, k ≤ es.length ∧ i = .int .i64 k ∧ Hid (∃ ys : List (EnIn hs), ys.map (·.1) = ((es.take k).flatMap fun e => e :: sub e) ∧ J (pre ++ ys) wr) ∧ Hid (Below n₀ W wr))
    (fun i _ => es.length - (intOf i).toNat)
  case atStart => exact ⟨0, Nat.zero_le _, rfl, ⟨[], by simp, by simpa using HJ0.out⟩, Below.refl _ _⟩
  case round =>
    obtain ⟨k, hk, rfl, hys, hB⟩ := hrel
    by_cases hlt : k < es.length
    · have hlt' : (k : Int) < (es.length : Int) := by omega
      obtain ⟨g, hra, hrk, hg, hcell⟩ := HC.out k hlt
      subst hra
      obtain ⟨ys, hy1, hJ1⟩ := hys.out
      have hWr : Below W0.heap.size W0 wr := HW0.out.trans (hB.out.mono hn₀)
      have hcell' : wr.cell? ⟨g, k, none⟩ = some (enV (idsOf ms) es[k]) := (hWr.cell (p := ⟨g, k, none⟩) hg).trans hcell
      have hmem : es[k] ∈ es := List.getElem_mem hlt
      have hlen : ys.length = ((es.take k).flatMap fun e => e :: sub e).length := by rw [← hy1]; simp
      obtain ⟨rest, hrest⟩ := HPF.out (k + 1)
      have hsn := HSN.out k hlt
      have hN1 : pre.length + ys.length + 1 + (sub es[k]).length ≤ N := by
        have h1 := HN.out
        rw [hrest, hsn] at h1
        simp only [List.length_append, List.length_cons] at h1
        omega
      obtain ⟨X, hX⟩ : ∃ X : EnIn hs, X.1 = es[k] := ⟨⟨es[k], hes.out _ hmem⟩, rfl⟩
      obtain ⟨fn, tmps, assign, body, hy, hR⟩ := hY.out (n - 1) (pre ++ ys) X wr hJ1 hWr (by simp; omega)
      rw [hX] at hy
      have hR' := hR.mono (R' := fun e W' => (e = .returned (.bool true) ∧ Hid (J (pre ++ ys ++ [X]) W' ∧ Below n₀ wr W')) ∨ (e = .returned (.bool false) ∧ Hid (Jx (pre ++ ys ++ [X]) W'))) (fun e W' h => h.elim (fun h => .inl ⟨h.1, hid h.2⟩) (fun h => .inr ⟨h.1, hid h.2⟩))
      have KW := hid (fun w1 (h1 : Below W0.heap.size W0 w1) => (callsIn_wide (n := n - 1)).2 (within_any (HA.out.below h1) (hes.out _ hmem)))
      have KR := hid (fun W3 (h1 : J (pre ++ ys ++ [X]) W3) (h2 : Below W0.heap.size W0 W3) => RK.out (n - 1) (pre ++ ys ++ [X]) W3 h1 h2 es[k] hmem (by simp; omega))
      have HWr := hid hWr
      have HS : Hid (∀ zs : List (EnIn hs), zs.map (·.1) = sub es[k] → (ys ++ [X] ++ zs).map (·.1) = ((es.take (k + 1)).flatMap fun e => e :: sub e)) := by
        intro zs hz
        rw [hsn, List.map_append, List.map_append, hy1, hz]
        simp [hX]
      have HP : Hid (∀ q : List (EnIn hs), q.map (·.1) <+: sub es[k] → (ys ++ [X] ++ q).map (·.1) <+: (es.flatMap fun e => e :: sub e)) := by
        intro q hq
        obtain ⟨r, hr⟩ := hq
        refine ⟨r ++ rest, ?_⟩
        rw [hrest, hsn, ← hr, List.map_append, List.map_append, hy1]
        simp [hX]
      clear hcell hR hWr hJ1 hsn hrest hN1 hlen hy1 hys HJ0 HN
      generalize enV (idsOf ms) es[k] = v at *
      generalize wiV ms es[k] = wv at *
      generalize sub es[k] = sk at *
      gi_wp2_with (first
        | ((try refine ⟨hdd _, ?_⟩); refine hR'.mono ?_; clear hR'; rintro e W3 (⟨rfl, hJ3⟩ | ⟨rfl, hJx3⟩))
        | ((try refine ⟨hdd _, ?_⟩); gi_at_call 183; refine (KW.out _ (HWr.out.trans (hJ3.out.2.mono hn₀))).mono ?_; clear KW; rintro e w' ⟨rfl, rfl⟩)
        | ((try refine ⟨hdd _, ?_⟩); gi_at_call 143; refine (KR.out _ hJ3.out.1 (HWr.out.trans (hJ3.out.2.mono hn₀))).mono ?_; clear KR; rintro e W4 (⟨rfl, hq⟩ | ⟨rfl, hq⟩)))
      · obtain ⟨⟨zs, hz, hJz⟩, hb4⟩ := hq
        refine ⟨⟨k + 1, by omega, rfl, ⟨ys ++ [X] ++ zs, HS.out zs hz, by simpa [List.append_assoc] using hJz⟩, hB.out.trans (hJ3.out.2.trans hb4)⟩, ?_⟩
        simp [intOf]; omega
      · obtain ⟨q, hq1, hq2⟩ := hq
        go_ret
        exact .inr ⟨rfl, ys ++ [X] ++ q, HP.out q hq1, by simpa [List.append_assoc] using hq2⟩
      · go_ret
        exact .inr ⟨rfl, ys ++ [X] ++ [], HP.out [] (by simp), by simpa [List.append_assoc] using hJx3.out⟩
    · have hlt' : ¬ (k : Int) < (es.length : Int) := by omega
      have hke : k = es.length := by omega
      subst hke
      obtain ⟨ys, hy1, hJ1⟩ := hys.out
      rw [List.take_length] at hy1
      have HY := hid hy1
      have HJ1 := hid hJ1
      clear hy1 hJ1 hys HJ0 HN
      gi_wp2
      go_ret
      exact .inl ⟨rfl, ⟨ys, HY.out, HJ1.out⟩, hB.out⟩
end
end Go.Proofs.YtfhkfnoajbbfdabGreatDoor

/- The code of a program, purely: statements within one another; what each part leaves as it was. -/
namespace Go.Proofs.YtfhkfnoajbbfdabGreatDoor

/-- A statement that holds no others. -/
def Cx.leaf (x : Cx) : St → Ck → Ck
  | .inl (to, a), s => s.add [yMov, x.local to, x.val a]
  | .inr (.inl (to, o, a, b)), s => s.add [opWords o, x.local to, x.val a, x.val b]
  | .inr (.inr (.inl (to, of, a))), s => x.get to of a s
  | .inr (.inr (.inr (.inl (of, a, v)))), s => x.put of a v s
  | .inr (.inr (.inr (.inr (.inl a)))), s => x.outC a s
  | _, s => s

/-- A statement that holds others: body does those. -/
def Cx.held (x : Cx) (k : Bk) (body : Ck → Ck) : St → Ck → Ck
  | .inr (.inr (.inr (.inr (.inr (.inl ()))))), s => x.atomicC k body s
  | .inr (.inr (.inr (.inr (.inr (.inr (.inl a)))))), s => (body (s.add [yJz, x.val a])).land s.L.length
  | .inr (.inr (.inr (.inr (.inr (.inr (.inr n)))))), s => x.loopC n body s
  | _, s => s

/-- The code of an entry, f: how deep. -/
def cEn (hs : List Hd) (x : Cx) : Nat → En → Ck → Ck
  | _, .inl st, s => x.leaf st s
  | 0, .inr _, s => s
  | f + 1, .inr j, s => match hs[j]? with
    | some ⟨.inr st, es⟩ => x.held ((walkL hs 3 es).foldl x.seen bk0) (fun s => es.foldl (fun s e => cEn hs x f e s) s) st s
    | _ => s

/-- Loops stay as they are; no less is written. -/
structure Sane (f : Ck → Ck) : Prop where
  lo : ∀ s, (f s).loops = s.loops
  le : ∀ s, s.L.length ≤ (f s).L.length

theorem Sane.id : Sane (fun s => s) := ⟨fun _ => rfl, fun _ => Nat.le_refl _⟩
theorem Sane.add (ws : List ByteArray) : Sane (fun s => s.add ws) := ⟨fun _ => rfl, fun s => by rw [add_len]; omega⟩

theorem saneEach {f : Nat → Ck → Ck} (h : ∀ i, Sane (f i)) : ∀ (l : List Bool) (i : Nat), Sane (eachB f l i)
  | [], _ => Sane.id
  | a :: r, i => by
    have ih := saneEach h r (i + 1)
    refine ⟨fun s => ?_, fun s => ?_⟩
    · simp only [eachB]
      rw [ih.lo]
      by_cases ha : a = true
      · rw [if_pos ha]; exact (h i).lo s
      · rw [if_neg ha]
    · simp only [eachB]
      refine Nat.le_trans ?_ (ih.le _)
      by_cases ha : a = true
      · rw [if_pos ha]; exact (h i).le s
      · rw [if_neg ha]; exact Nat.le_refl _

theorem add_lo (s : Ck) (ws : List ByteArray) : (s.add ws).loops = s.loops := rfl
theorem land_lo (s : Ck) (n : Nat) : (s.land n).loops = s.loops := rfl
theorem read_lo (x : Cx) (to u : ByteArray) (n : Int) (s : Ck) : (x.readC to u n s).loops = s.loops := rfl

theorem saneCheck (x : Cx) (of : ByteArray) (a : PV) : Sane (x.check of a) := ⟨fun s => by unfold Cx.check; dsimp only; split <;> rfl, check_len x of a⟩
theorem saneLock (x : Cx) (i : Int) : Sane (x.lockC i) := ⟨fun _ => rfl, fun s => by simp only [Cx.lockC, add_len, land_len, undoIf_len]; omega⟩
theorem saneLook (x : Cx) (i : Int) : Sane (x.lookC i) := ⟨fun _ => rfl, fun s => by simp only [Cx.lookC, add_len, land_len, undoIf_len, isEarly_len]; omega⟩
theorem saneStore (x : Cx) (i : Int) : Sane (x.storeC i) := ⟨fun _ => rfl, fun s => by simp only [Cx.storeC, add_len, land_len]; omega⟩
theorem saneUnlock (x : Cx) (i : Int) : Sane (x.unlockC i) := ⟨fun _ => rfl, fun s => by simp only [Cx.unlockC, add_len, land_len]; omega⟩
theorem saneGive (x : Cx) : Sane x.give := ⟨fun _ => rfl, fun s => by simp only [Cx.give, add_len, land_len, back_len]; omega⟩
theorem sanePut (x : Cx) (of : ByteArray) (a v : PV) : Sane (x.put of a v) :=
  ⟨fun s => (saneCheck x of a).lo s, fun s => by simp only [Cx.put, add_len]; have := check_len x of a s; omega⟩
theorem saneOut (x : Cx) (a : PV) : Sane (x.outC a) :=
  ⟨fun s => by unfold Cx.outC; split <;> rfl, fun s => by unfold Cx.outC; split <;> simp only [add_len] <;> omega⟩
theorem saneGet (x : Cx) (to of : ByteArray) (a : PV) : Sane (x.get to of a) := by
  refine ⟨fun s => ?_, fun s => ?_⟩
  · unfold Cx.get
    dsimp only
    split
    · rw [read_lo]; exact (saneCheck x of a).lo s
    · simp only [land_lo, read_lo, add_lo]; exact (saneCheck x of a).lo s
  · unfold Cx.get
    dsimp only
    have := check_len x of a s
    split
    · rw [read_len]; omega
    · simp only [land_len, read_len, add_len]; omega

theorem lands_lo : ∀ (ns : List Nat) (s : Ck), (s.lands ns).loops = s.loops
  | [], _ => rfl
  | n :: r, s => (lands_lo r (s.land n)).trans rfl

theorem saneUndo (x : Cx) : Sane x.undoC :=
  ⟨fun s => ((saneEach (saneUnlock x ·) s.bk.puts 0).lo _).trans (lands_lo _ _), fun s => Nat.le_of_lt (undoC_len x s)⟩

theorem saneCommit (x : Cx) : Sane x.commit := by
  refine ⟨fun s => ?_, fun s => ?_⟩
  · refine ((saneUndo x).lo _).trans ?_
    refine ((saneEach (saneStore x ·) s.bk.puts 0).lo _).trans ?_
    refine ((saneEach (saneLook x ·) s.bk.gets 0).lo _).trans ?_
    exact (saneEach (saneLock x ·) s.bk.puts 0).lo s
  · simp only [Cx.commit, land_len]
    refine Nat.le_trans ?_ ((saneUndo x).le _)
    simp only [add_len]
    have h1 := (saneEach (saneStore x ·) s.bk.puts 0).le (eachB (fun i => x.lookC i) s.bk.gets 0 (((eachB (fun i => x.lockC i) s.bk.puts 0 s).add [yXadd, yR5, y0, dec 12, y1]).add [yAdd, yR5, yR5, y1]))
    have h2 := (saneEach (saneLook x ·) s.bk.gets 0).le (((eachB (fun i => x.lockC i) s.bk.puts 0 s).add [yXadd, yR5, y0, dec 12, y1]).add [yAdd, yR5, yR5, y1])
    have h3 := (saneEach (saneLock x ·) s.bk.puts 0).le s
    simp only [add_len] at h2
    omega

theorem saneLeaf (x : Cx) (st : St) : Sane (x.leaf st) := by
  rcases st with ⟨to, a⟩ | ⟨to, o, a, b⟩ | ⟨to, f, a⟩ | ⟨f, a, v⟩ | a | ⟨⟩ | a | n
  · exact Sane.add _
  · exact Sane.add _
  · exact saneGet x to f a
  · exact sanePut x f a v
  · exact saneOut x a
  · exact Sane.id
  · exact Sane.id
  · exact Sane.id

theorem saneFold {α : Type} {f : Ck → α → Ck} (h : ∀ e, Sane (fun s => f s e)) : ∀ (es : List α), Sane (fun s => es.foldl f s)
  | [] => Sane.id
  | e :: r => by
    have ih := saneFold h r
    exact ⟨fun s => (ih.lo (f s e)).trans ((h e).lo s), fun s => Nat.le_trans ((h e).le s) (ih.le (f s e))⟩

theorem saneAdds (ws : Nat → List ByteArray) (l : List Bool) (i : Nat) : Sane (eachB (fun i s => s.add (ws i)) l i) := saneEach (fun i => Sane.add (ws i)) l i

theorem saneBegin (x : Cx) : Sane x.begin := by
  refine ⟨fun s => ?_, fun s => ?_⟩
  · show (eachB (fun i s => s.add [yStore, y0, x.own (12 + (i : Nat)), y0]) s.bk.gets 0 _).loops = _
    rw [(saneAdds (fun i => [yStore, y0, x.own (12 + (i : Nat)), y0]) s.bk.gets 0).lo, (saneAdds (fun i => [yStore, y0, x.own (6 + (i : Nat)), y0]) s.bk.puts 0).lo, add_lo, add_lo, (saneAdds (fun i => [yLoad, regW (i : Nat), y0, x.own (32 + (i : Nat))]) s.bk.chgs 0).lo]
    exact (saneAdds (fun i => [yStore, y0, x.own (32 + (i : Nat)), regW (i : Nat)]) s.bk.chgs 0).lo s
  · simp only [Cx.begin, add_len]
    have h1 := (saneAdds (fun i => [yStore, y0, x.own (32 + (i : Nat)), regW (i : Nat)]) s.bk.chgs 0).le s
    have h2 := (saneAdds (fun i => [yLoad, regW (i : Nat), y0, x.own (32 + (i : Nat))]) s.bk.chgs 0).le { eachB (fun i s => s.add [yStore, y0, x.own (32 + (i : Nat)), regW (i : Nat)]) s.bk.chgs 0 s with blk := some { s.bk with again := (eachB (fun i s => s.add [yStore, y0, x.own (32 + (i : Nat)), regW (i : Nat)]) s.bk.chgs 0 s).L.length } }
    refine Nat.le_trans ?_ (Nat.le_trans ((saneAdds (fun i => [yStore, y0, x.own (12 + (i : Nat)), y0]) s.bk.gets 0).le _) (Nat.le_succ _))
    refine Nat.le_trans ?_ ((saneAdds (fun i => [yStore, y0, x.own (6 + (i : Nat)), y0]) s.bk.puts 0).le _)
    simp only [add_len]
    have h3 : s.L.length ≤ (eachB (fun i s => s.add [yLoad, regW (i : Nat), y0, x.own (32 + (i : Nat))]) s.bk.chgs 0 { eachB (fun i s => s.add [yStore, y0, x.own (32 + (i : Nat)), regW (i : Nat)]) s.bk.chgs 0 s with blk := some { s.bk with again := (eachB (fun i s => s.add [yStore, y0, x.own (32 + (i : Nat)), regW (i : Nat)]) s.bk.chgs 0 s).L.length } }).L.length := Nat.le_trans h1 h2
    exact Nat.le_trans h3 (Nat.le_add_right _ 2)

theorem saneAtomic (x : Cx) (k : Bk) {body : Ck → Ck} (hb : Sane body) : Sane (x.atomicC k body) := by
  refine ⟨fun s => ?_, fun s => ?_⟩
  · have h0 : (body (x.begin { s with blk := some k })).loops = s.loops := (hb.lo _).trans ((saneBegin x).lo _)
    simp only [Cx.atomicC]
    split
    · rw [(saneGive x).lo]
      split
      · exact h0
      · rw [(saneCommit x).lo]; exact h0
    · split
      · exact h0
      · rw [(saneCommit x).lo]; exact h0
  · have h0 : s.L.length ≤ (body (x.begin { s with blk := some k })).L.length := Nat.le_trans ((saneBegin x).le { s with blk := some k }) (hb.le _)
    have h1 := (saneCommit x).le (body (x.begin { s with blk := some k }))
    have h2 := (saneGive x).le (body (x.begin { s with blk := some k }))
    have h3 := (saneGive x).le (x.commit (body (x.begin { s with blk := some k })))
    simp only [Cx.atomicC]
    split <;> split <;> omega

theorem saneLoop (x : Cx) (n : Int) {body : Ck → Ck} (hb : Sane body) : Sane (x.loopC n body) := by
  refine ⟨fun s => ?_, fun s => ?_⟩
  · show (body _).loops - 1 = s.loops
    rw [hb.lo]
    rfl
  · have h0 := hb.le (({ s with loops := s.loops + 1 } : Ck).add [yStore, y0, x.own (36 + (s.loops : Int)), dec n])
    rw [add_len] at h0
    simp only [Cx.loopC, land_len, back_len, add_len]
    have h1 : s.L.length + 1 ≤ (body (({ s with loops := s.loops + 1 } : Ck).add [yStore, y0, x.own (36 + (s.loops : Int)), dec n])).L.length := h0
    omega

theorem saneHeld (x : Cx) (k : Bk) {body : Ck → Ck} (hb : Sane body) (st : St) : Sane (x.held k body st) := by
  rcases st with ⟨to, a⟩ | ⟨to, o, a, b⟩ | ⟨to, f, a⟩ | ⟨f, a, v⟩ | a | ⟨⟩ | a | n
  · exact Sane.id
  · exact Sane.id
  · exact Sane.id
  · exact Sane.id
  · exact Sane.id
  · exact saneAtomic x k hb
  · refine ⟨fun s => (hb.lo _).trans rfl, fun s => ?_⟩
    have := hb.le (s.add [yJz, x.val a])
    rw [add_len] at this
    show s.L.length ≤ ((body (s.add [yJz, x.val a])).land s.L.length).L.length
    rw [land_len]
    omega
  · exact saneLoop x n hb

theorem saneEn (hs : List Hd) (x : Cx) : ∀ (f : Nat) (e : En), Sane (cEn hs x f e)
  | 0, .inl st => saneLeaf x st
  | 0, .inr _ => Sane.id
  | f + 1, .inl st => saneLeaf x st
  | f + 1, .inr j => by
    have hb := fun es => saneFold (f := fun s e => cEn hs x f e s) (fun e => saneEn hs x f e) es
    refine ⟨fun s => ?_, fun s => ?_⟩
    · simp only [cEn]
      split
      · exact (saneHeld x _ (hb _) _).lo s
      · rfl
    · simp only [cEn]
      split
      · exact (saneHeld x _ (hb _) _).le s
      · exact Nat.le_refl _
end Go.Proofs.YtfhkfnoajbbfdabGreatDoor

/- The code of a program, purely: how much is done. -/
namespace Go.Proofs.YtfhkfnoajbbfdabGreatDoor

/-- A part of the coder that stands in a block, and lets at most U leaps more lead to where it is undone. -/
def Undoes (U : Nat) (f : Nat → Ck → Ck) : Prop := ∀ i s k, s.blk = some k → ∃ k', (f i s).blk = some k' ∧ k.sim k' ∧ k'.undo.length ≤ k.undo.length + U

theorem Undoes.each {U : Nat} {f : Nat → Ck → Ck} (h : Undoes U f) : ∀ (l : List Bool) (i : Nat) (s : Ck) (k : Bk), s.blk = some k → ∃ k', (eachB f l i s).blk = some k' ∧ k.sim k' ∧ k'.undo.length ≤ k.undo.length + l.length * U
  | [], _, s, k, hk => ⟨k, hk, Bk.sim.refl k, by simp⟩
  | a :: r, i, s, k, hk => by
    simp only [eachB]
    have e : (a :: r).length * U = r.length * U + U := by rw [List.length_cons, Nat.add_mul, Nat.one_mul]
    by_cases ha : a = true
    · obtain ⟨k1, h1, s1, u1⟩ := h i s k hk
      rw [if_pos ha]
      obtain ⟨k2, h2, s2, u2⟩ := h.each r (i + 1) (f i s) k1 h1
      exact ⟨k2, h2, s1.trans s2, by omega⟩
    · rw [if_neg ha]
      obtain ⟨k2, h2, s2, u2⟩ := h.each r (i + 1) s k hk
      exact ⟨k2, h2, s2, by omega⟩

theorem lock_undoes (x : Cx) : Undoes 2 (fun i => x.lockC i) := fun i s k hk => ⟨_, rfl, by simp [Bk.sim, Ck.bk, Ck.add, Ck.undoIf, hk], by simp [Ck.bk, Ck.add, Ck.undoIf, hk]⟩
theorem look_undoes (x : Cx) : Undoes 1 (fun i => x.lookC i) := fun i s k hk => ⟨_, rfl, by simp [Bk.sim, Ck.bk, Ck.add, gIsEarly, hk], by simp [Ck.bk, Ck.add, gIsEarly, hk]⟩
theorem store_undoes (x : Cx) : Undoes 0 (fun i => x.storeC i) := fun _ _ k hk => ⟨k, hk, Bk.sim.refl k, Nat.le_refl _⟩

theorem commit_g (x : Cx) {s : Ck} {k : Bk} (hk : s.blk = some k) (hu : k.undo = []) (h1 : k.puts.length = 6) (h2 : k.gets.length = 6) : (x.commit s).g ≤ s.g + 186 := by
  have hb := bk_of hk
  obtain ⟨k1, hk1, s1, u1⟩ := (lock_undoes x).each s.bk.puts 0 s k hk
  have g1 := (lock_fair x).eachG s.bk.puts 0 s
  obtain ⟨k3, hk3, s3, u3⟩ := (look_undoes x).each s.bk.gets 0 (((eachB (fun i => x.lockC i) s.bk.puts 0 s).add [yXadd, yR5, y0, dec 12, y1]).add [yAdd, yR5, yR5, y1]) k1 hk1
  have g3 := (look_fair x).eachG s.bk.gets 0 (((eachB (fun i => x.lockC i) s.bk.puts 0 s).add [yXadd, yR5, y0, dec 12, y1]).add [yAdd, yR5, yR5, y1])
  obtain ⟨k4, hk4, s4, u4⟩ := (store_undoes x).each s.bk.puts 0 (eachB (fun i => x.lookC i) s.bk.gets 0 (((eachB (fun i => x.lockC i) s.bk.puts 0 s).add [yXadd, yR5, y0, dec 12, y1]).add [yAdd, yR5, yR5, y1])) k3 hk3
  have g4 := (store_fair x).eachG s.bk.puts 0 (eachB (fun i => x.lookC i) s.bk.gets 0 (((eachB (fun i => x.lockC i) s.bk.puts 0 s).add [yXadd, yR5, y0, dec 12, y1]).add [yAdd, yR5, yR5, y1]))
  have g5 := undoC_g x (((eachB (fun i => x.storeC i) s.bk.puts 0 (eachB (fun i => x.lookC i) s.bk.gets 0 (((eachB (fun i => x.lockC i) s.bk.puts 0 s).add [yXadd, yR5, y0, dec 12, y1]).add [yAdd, yR5, yR5, y1]))).add [yFence]).add [yJmp])
  have hb4 : ((((eachB (fun i => x.storeC i) s.bk.puts 0 (eachB (fun i => x.lookC i) s.bk.gets 0 (((eachB (fun i => x.lockC i) s.bk.puts 0 s).add [yXadd, yR5, y0, dec 12, y1]).add [yAdd, yR5, yR5, y1]))).add [yFence]).add [yJmp])).bk = k4 := bk_of hk4
  rw [hb4] at g5
  have hp4 : k4.puts.length = 6 := by rw [s4.2.1, s3.2.1, s1.2.1, h1]
  have hp : s.bk.puts.length = 6 := by rw [hb]; exact h1
  have hq : s.bk.gets.length = 6 := by rw [hb]; exact h2
  have hu0 : k.undo.length = 0 := by rw [hu]; rfl
  have e : (x.commit s).g = (x.undoC (((eachB (fun i => x.storeC i) s.bk.puts 0 (eachB (fun i => x.lookC i) s.bk.gets 0 (((eachB (fun i => x.lockC i) s.bk.puts 0 s).add [yXadd, yR5, y0, dec 12, y1]).add [yAdd, yR5, yR5, y1]))).add [yFence]).add [yJmp])).g + 1 := rfl
  rw [e]
  have a2 : (((eachB (fun i => x.lockC i) s.bk.puts 0 s).add [yXadd, yR5, y0, dec 12, y1]).add [yAdd, yR5, yR5, y1]).g = (eachB (fun i => x.lockC i) s.bk.puts 0 s).g + 2 := rfl
  have a4 : (((eachB (fun i => x.storeC i) s.bk.puts 0 (eachB (fun i => x.lookC i) s.bk.gets 0 (((eachB (fun i => x.lockC i) s.bk.puts 0 s).add [yXadd, yR5, y0, dec 12, y1]).add [yAdd, yR5, yR5, y1]))).add [yFence]).add [yJmp]).g = (eachB (fun i => x.storeC i) s.bk.puts 0 (eachB (fun i => x.lookC i) s.bk.gets 0 (((eachB (fun i => x.lockC i) s.bk.puts 0 s).add [yXadd, yR5, y0, dec 12, y1]).add [yAdd, yR5, yR5, y1]))).g + 2 := rfl
  rw [a4] at g5
  rw [a2] at g3
  rw [hp] at g1 u1 g4 u4
  rw [hq] at g3 u3
  rw [hp4] at g5
  omega
end Go.Proofs.YtfhkfnoajbbfdabGreatDoor

/- What may stand where, for the coder; what it leaves of a block. -/
namespace Go.Proofs.YtfhkfnoajbbfdabGreatDoor

/-- A shared variable that is there. -/
def Cx.varOk (x : Cx) (u : ByteArray) : Prop := u.size ≤ maxLen ∧ ∃ (f : Nat) (n : Nat), x.var u = ((f : Int), (n : Int)) ∧ f < 6 ∧ f + n ≤ 6

/-- A statement that holds no others, b: in a block. -/
def Cx.leafOk (x : Cx) (b : Bool) : St → Prop
  | .inl (to, a) => to.size ≤ maxLen ∧ a.ok
  | .inr (.inl (to, o, a, c)) => to.size ≤ maxLen ∧ o < 12 ∧ a.ok ∧ c.ok
  | .inr (.inr (.inl (to, of, a))) => b = true ∧ to.size ≤ maxLen ∧ x.varOk of ∧ a.ok
  | .inr (.inr (.inr (.inl (of, a, v)))) => b = true ∧ x.varOk of ∧ a.ok ∧ v.ok
  | .inr (.inr (.inr (.inr (.inl a)))) => a.ok
  | _ => False

/-- An entry, f: how deep; b: in a block. -/
def enW (hs : List Hd) (x : Cx) : Nat → Bool → En → Prop
  | _, b, .inl st => x.leafOk b st
  | 0, _, .inr _ => False
  | f + 1, b, .inr j => ∃ es : List En, es.length ≤ 14 ∧
      ((hs[j]? = some ⟨.st .atomic, es⟩ ∧ b = false ∧ ∀ e ∈ es, enW hs x f true e) ∨
       (∃ a : PV, hs[j]? = some ⟨.st (.iff a), es⟩ ∧ a.ok ∧ ∀ e ∈ es, enW hs x f b e) ∨
       (∃ n : Int, hs[j]? = some ⟨.st (.loop n), es⟩ ∧ (1 ≤ n ∧ n ≤ 4) ∧ ∀ e ∈ es, enW hs x f b e))

theorem leaf_blk (x : Cx) (st : St) (s : Ck) : (x.leaf st s).blk = s.blk := by
  rcases st with ⟨to, a⟩ | ⟨to, o, a, b⟩ | ⟨to, f, a⟩ | ⟨f, a, v⟩ | a | ⟨⟩ | a | n
  · rfl
  · rfl
  · show (x.get to f a s).blk = _
    unfold Cx.get
    dsimp only
    have hr : ∀ t u n (s : Ck), (x.readC t u n s).blk = s.blk := fun _ _ _ _ => rfl
    have ha : ∀ (s : Ck) ws, (s.add ws).blk = s.blk := fun _ _ => rfl
    have hl : ∀ (s : Ck) n, (s.land n).blk = s.blk := fun _ _ => rfl
    split
    · rw [hr]; exact check_blk x f a s
    · simp only [hl, hr, ha]; exact check_blk x f a s
  · exact check_blk x f a s
  · show (x.outC a s).blk = _
    unfold Cx.outC
    split <;> rfl
  · rfl
  · rfl
  · rfl

theorem fold_blk {f : Ck → En → Ck} : ∀ (es : List En) (s : Ck), (∀ e ∈ es, ∀ s, (f s e).blk = s.blk) → (es.foldl f s).blk = s.blk
  | [], _, _ => rfl
  | e :: r, s, h => (fold_blk r (f s e) (fun e' he => h e' (List.mem_cons_of_mem _ he))).trans (h e (by simp) s)

theorem loop_blk (x : Cx) (n : Int) (body : Ck → Ck) (h : ∀ s, (body s).blk = s.blk) (s : Ck) : (x.loopC n body s).blk = s.blk := by
  show (body _).blk = _
  rw [h]
  rfl

/-- In a block, and outside of one: the block is as it was. -/
theorem en_blk (hs : List Hd) (x : Cx) : ∀ (f : Nat) (b : Bool) (e : En), enW hs x f b e → ∀ s : Ck, (b = false → s.blk = none) → (cEn hs x f e s).blk = s.blk
  | 0, _, .inl st, _, s, _ => leaf_blk x st s
  | 0, _, .inr _, h, _, _ => h.elim
  | f + 1, _, .inl st, _, s, _ => leaf_blk x st s
  | f + 1, true, .inr j, h, s, _ => by
    obtain ⟨es, _, h⟩ := h
    rcases h with ⟨_, hb, _⟩ | ⟨a, hj, _, he⟩ | ⟨n, hj, _, he⟩
    · cases hb
    · have hf := fun s' => fold_blk (f := fun s e => cEn hs x f e s) es s' (fun e he' s => en_blk hs x f true e (he e he') s (fun q => by cases q))
      simp only [cEn, hj]
      show ((es.foldl (fun s e => cEn hs x f e s) (s.add [yJz, x.val a])).land s.L.length).blk = _
      exact (hf _).trans rfl
    · have hf := fun s' => fold_blk (f := fun s e => cEn hs x f e s) es s' (fun e he' s => en_blk hs x f true e (he e he') s (fun q => by cases q))
      simp only [cEn, hj]
      exact loop_blk x n _ hf s
  | f + 1, false, .inr j, h, s, hn => by
    have h0 := hn rfl
    obtain ⟨es, _, h⟩ := h
    have hfold : ∀ (l : List En) (s' : Ck), (∀ e ∈ l, enW hs x f false e) → s'.blk = none → (l.foldl (fun s e => cEn hs x f e s) s').blk = none := by
      intro l
      induction l with
      | nil => exact fun _ _ h => h
      | cons e r ih => exact fun s' hl hb => ih _ (fun e' he' => hl e' (List.mem_cons_of_mem _ he')) ((en_blk hs x f false e (hl e (by simp)) s' (fun _ => hb)).trans hb)
    rw [h0]
    rcases h with ⟨hj, _, _⟩ | ⟨a, hj, _, he⟩ | ⟨n, hj, _, he⟩
    · simp only [cEn, hj]
      rfl
    · simp only [cEn, hj]
      exact hfold es (s.add [yJz, x.val a]) he h0
    · simp only [cEn, hj]
      exact hfold es _ he h0
end Go.Proofs.YtfhkfnoajbbfdabGreatDoor

/- The code of a program, purely: how much a statement does. -/
namespace Go.Proofs.YtfhkfnoajbbfdabGreatDoor

/-- How many statements an entry is made of. -/
def wE (hs : List Hd) : Nat → En → Nat
  | 0, _ => 1
  | f + 1, e => 1 + ((enEnts hs e).map (wE hs f)).sum

/-- A block of which nothing is written yet. -/
structure Bk.New (k : Bk) : Prop where
  g : k.gets.length = 6
  p : k.puts.length = 6
  c : k.chgs.length = 4
  u : k.undo = []

theorem fold_set_len (v : Int) : ∀ (is : List Nat) (l : List Bool), (is.foldl (fun l i => l.set (v.toNat + i) true) l).length = l.length
  | [], _ => rfl
  | i :: r, l => by simp only [List.foldl_cons]; rw [fold_set_len v r]; simp
theorem markB_len (l : List Bool) (v : Int × Int) : (markB l v).length = l.length := fold_set_len v.1 _ l

theorem seen_new (x : Cx) {k : Bk} (h : k.New) (e : En) : (x.seen k e).New := by
  rcases e with st | j
  · rcases st with ⟨to, a⟩ | ⟨to, o, a, b⟩ | ⟨to, f, a⟩ | ⟨f, a, v⟩ | a | ⟨⟩ | a | n
    · exact ⟨h.g, h.p, (List.length_set ..).trans h.c, h.u⟩
    · exact ⟨h.g, h.p, (List.length_set ..).trans h.c, h.u⟩
    · exact ⟨(markB_len _ _).trans h.g, h.p, (List.length_set ..).trans h.c, h.u⟩
    · exact ⟨h.g, (markB_len _ _).trans h.p, h.c, h.u⟩
    · exact ⟨h.g, h.p, h.c, h.u⟩
    · exact h
    · exact h
    · exact h
  · exact h

theorem blk_new (x : Cx) : ∀ (es : List En) (k : Bk), k.New → (es.foldl x.seen k).New
  | [], _, h => h
  | e :: r, k, h => blk_new x r (x.seen k e) (seen_new x h e)

theorem bk0_new : bk0.New := ⟨rfl, rfl, rfl, rfl⟩

theorem begin_g (x : Cx) {s : Ck} {k : Bk} (hk : s.blk = some k) (h : k.New) : (x.begin s).g ≤ s.g + 23 := by
  have hb := bk_of hk
  have g1 := (add_fair fun i => [yStore, y0, x.own (32 + (i : Nat)), regW (i : Nat)]).eachG s.bk.chgs 0 s
  have g2 := (add_fair fun i => [yLoad, regW (i : Nat), y0, x.own (32 + (i : Nat))]).eachG s.bk.chgs 0 { eachB (fun i s => s.add [yStore, y0, x.own (32 + (i : Nat)), regW (i : Nat)]) s.bk.chgs 0 s with blk := some { s.bk with again := (eachB (fun i s => s.add [yStore, y0, x.own (32 + (i : Nat)), regW (i : Nat)]) s.bk.chgs 0 s).L.length } }
  have g3 := (add_fair fun i => [yStore, y0, x.own (6 + (i : Nat)), y0]).eachG s.bk.puts 0 (((eachB (fun i s => s.add [yLoad, regW (i : Nat), y0, x.own (32 + (i : Nat))]) s.bk.chgs 0 { eachB (fun i s => s.add [yStore, y0, x.own (32 + (i : Nat)), regW (i : Nat)]) s.bk.chgs 0 s with blk := some { s.bk with again := (eachB (fun i s => s.add [yStore, y0, x.own (32 + (i : Nat)), regW (i : Nat)]) s.bk.chgs 0 s).L.length } }).add [yLoad, yR6, y0, dec 12]).add [yAdd, yR6, yR6, y1])
  have g4 := (add_fair fun i => [yStore, y0, x.own (12 + (i : Nat)), y0]).eachG s.bk.gets 0 (eachB (fun i s => s.add [yStore, y0, x.own (6 + (i : Nat)), y0]) s.bk.puts 0 (((eachB (fun i s => s.add [yLoad, regW (i : Nat), y0, x.own (32 + (i : Nat))]) s.bk.chgs 0 { eachB (fun i s => s.add [yStore, y0, x.own (32 + (i : Nat)), regW (i : Nat)]) s.bk.chgs 0 s with blk := some { s.bk with again := (eachB (fun i s => s.add [yStore, y0, x.own (32 + (i : Nat)), regW (i : Nat)]) s.bk.chgs 0 s).L.length } }).add [yLoad, yR6, y0, dec 12]).add [yAdd, yR6, yR6, y1]))
  have e : (x.begin s).g = (eachB (fun i s => s.add [yStore, y0, x.own (12 + (i : Nat)), y0]) s.bk.gets 0 (eachB (fun i s => s.add [yStore, y0, x.own (6 + (i : Nat)), y0]) s.bk.puts 0 (((eachB (fun i s => s.add [yLoad, regW (i : Nat), y0, x.own (32 + (i : Nat))]) s.bk.chgs 0 { eachB (fun i s => s.add [yStore, y0, x.own (32 + (i : Nat)), regW (i : Nat)]) s.bk.chgs 0 s with blk := some { s.bk with again := (eachB (fun i s => s.add [yStore, y0, x.own (32 + (i : Nat)), regW (i : Nat)]) s.bk.chgs 0 s).L.length } }).add [yLoad, yR6, y0, dec 12]).add [yAdd, yR6, yR6, y1]))).g + 1 := rfl
  have h1 : s.bk.chgs.length = 4 := by rw [hb]; exact h.c
  have h2 : s.bk.puts.length = 6 := by rw [hb]; exact h.p
  have h3 : s.bk.gets.length = 6 := by rw [hb]; exact h.g
  rw [h1] at g1 g2
  rw [h2] at g3
  rw [h3] at g4
  rw [e]
  dsimp only at g2
  have a3 : ∀ (t : Ck) u v, ((t.add u).add v).g = t.g + 2 := fun _ _ _ => rfl
  rw [a3] at g3
  exact Nat.le_trans (Nat.add_le_add_right (Nat.le_trans g4 (Nat.add_le_add_right (Nat.le_trans g3 (Nat.add_le_add_right (Nat.add_le_add_right (Nat.le_trans g2 (Nat.add_le_add_right g1 _)) _) _)) _)) 1) (by omega)

theorem leaf_g (x : Cx) (st : St) (s : Ck) : (x.leaf st s).g ≤ s.g + 40 := by
  rcases st with ⟨to, a⟩ | ⟨to, o, a, b⟩ | ⟨to, f, a⟩ | ⟨f, a, v⟩ | a | ⟨⟩ | a | n
  · show s.g + 1 ≤ _; omega
  · show s.g + 1 ≤ _; omega
  · show (x.get to f a s).g ≤ _
    have hc := check_g x f a s
    have hr : ∀ t u n (s : Ck), (x.readC t u n s).g = s.g + 9 := fun _ _ _ _ => rfl
    have ha : ∀ (s : Ck) ws, (s.add ws).g = s.g + 1 := fun _ _ => rfl
    have hl : ∀ (s : Ck) n, (s.land n).g = s.g + 1 := fun _ _ => rfl
    unfold Cx.get
    dsimp only
    split
    · rw [hr]; omega
    · simp only [hl, hr, ha]; omega
  · have hc := check_g x f a s
    show (x.check f a s).g + 3 ≤ _
    omega
  · show (x.outC a s).g ≤ _
    unfold Cx.outC
    split
    · show s.g + 1 ≤ _; omega
    · show s.g + 2 ≤ _; omega
  · show s.g ≤ _; omega
  · show s.g ≤ _; omega
  · show s.g ≤ _; omega
end Go.Proofs.YtfhkfnoajbbfdabGreatDoor

/- The code of a program, purely: how much a statement does, with all that it holds. -/
namespace Go.Proofs.YtfhkfnoajbbfdabGreatDoor

theorem begin_blk (x : Cx) {s : Ck} {k : Bk} (hk : s.blk = some k) : ∃ n, (x.begin s).blk = some { k with again := n } ∧ n ≤ (x.begin s).L.length := by
  refine ⟨(eachB (fun i s => s.add [yStore, y0, x.own (32 + (i : Nat)), regW (i : Nat)]) s.bk.chgs 0 s).L.length, ?_, ?_⟩
  · show (eachB (fun i s => s.add [yStore, y0, x.own (12 + (i : Nat)), y0]) s.bk.gets 0 _).blk = _
    refine (eachA_blk (fun i => [yStore, y0, x.own (12 + (i : Nat)), y0]) _ _ _).trans ?_
    refine (eachA_blk (fun i => [yStore, y0, x.own (6 + (i : Nat)), y0]) _ _ _).trans ?_
    refine (eachA_blk (fun i => [yLoad, regW (i : Nat), y0, x.own (32 + (i : Nat))]) s.bk.chgs 0 _).trans ?_
    show some _ = some _
    rw [bk_of hk]
  · have h2 := (saneAdds (fun i => [yLoad, regW (i : Nat), y0, x.own (32 + (i : Nat))]) s.bk.chgs 0).le { eachB (fun i s => s.add [yStore, y0, x.own (32 + (i : Nat)), regW (i : Nat)]) s.bk.chgs 0 s with blk := some { s.bk with again := (eachB (fun i s => s.add [yStore, y0, x.own (32 + (i : Nat)), regW (i : Nat)]) s.bk.chgs 0 s).L.length } }
    simp only [Cx.begin, add_len]
    refine Nat.le_trans ?_ (Nat.le_succ _)
    refine Nat.le_trans ?_ ((saneAdds (fun i => [yStore, y0, x.own (12 + (i : Nat)), y0]) s.bk.gets 0).le _)
    refine Nat.le_trans ?_ ((saneAdds (fun i => [yStore, y0, x.own (6 + (i : Nat)), y0]) s.bk.puts 0).le _)
    simp only [add_len]
    exact Nat.le_trans h2 (Nat.le_add_right _ 2)

theorem foldG {f : Ck → En → Ck} {c : En → Nat} {I : Ck → Prop} : ∀ (es : List En) (s : Ck), (∀ e ∈ es, ∀ s, I s → (f s e).g ≤ s.g + c e ∧ I (f s e)) → I s → (es.foldl f s).g ≤ s.g + (es.map c).sum
  | [], _, _, _ => by simp
  | e :: r, s, h, hI => by
    obtain ⟨h1, h2⟩ := h e (by simp) s hI
    have := foldG r (f s e) (fun e' he => h e' (List.mem_cons_of_mem _ he)) h2
    simp only [List.foldl_cons, List.map_cons, List.sum_cons]
    omega

theorem sum_mul (l : List En) (c : En → Nat) (n : Nat) : (l.map fun e => n * c e).sum = n * (l.map c).sum := by
  induction l with
  | nil => rfl
  | cons a r ih => simp only [List.map_cons, List.sum_cons, ih, Nat.mul_add]

/-- How much an atomic does. -/
theorem atomic_g (x : Cx) {k : Bk} (hk : k.New) {body : Ck → Ck} {N : Nat} (s : Ck) (hb : ∀ s : Ck, (∃ k, s.blk = some k) → (body s).g ≤ s.g + N) (hB : ∀ s : Ck, (body s).blk = s.blk) : (x.atomicC k body s).g ≤ s.g + N + 217 := by
  have h1 : (x.begin { s with blk := some k }).g ≤ s.g + 23 := begin_g x (s := { s with blk := some k }) rfl hk
  obtain ⟨n, h2, _⟩ := begin_blk x (s := { s with blk := some k }) rfl
  have h3 := hb (x.begin { s with blk := some k }) ⟨_, h2⟩
  have h4 := (hB (x.begin { s with blk := some k })).trans h2
  have h5 := commit_g x h4 hk.u hk.p hk.g
  have hg : ∀ s : Ck, (x.give s).g = s.g + 8 := fun _ => rfl
  simp only [Cx.atomicC]
  split
  · rw [hg]
    split <;> omega
  · split <;> omega

theorem en_g (hs : List Hd) (x : Cx) : ∀ (f : Nat) (b : Bool) (e : En), enW hs x f b e → ∀ s : Ck, (b = false → s.blk = none) → (cEn hs x f e s).g ≤ s.g + 300 * wE hs f e
  | 0, _, .inl st, _, s, _ => by
    have := leaf_g x st s
    show (x.leaf st s).g ≤ s.g + 300 * 1
    omega
  | 0, _, .inr _, h, _, _ => h.elim
  | f + 1, _, .inl st, _, s, _ => by
    have := leaf_g x st s
    show (x.leaf st s).g ≤ s.g + 300 * (1 + _)
    omega
  | f + 1, b, .inr j, h, s, hn => by
    obtain ⟨es, _, h⟩ := h
    have hw : ∀ k, hs[j]? = some ⟨k, es⟩ → 300 * wE hs (f + 1) (.inr j) = 300 + 300 * (es.map (wE hs f)).sum := fun k hj => by
      simp only [wE, enEnts, hj, Nat.mul_add]
    rcases h with ⟨hj, hb, he⟩ | ⟨a, hj, _, he⟩ | ⟨n, hj, _, he⟩
    · have hbody : ∀ s : Ck, (∃ k, s.blk = some k) → (es.foldl (fun s e => cEn hs x f e s) s).g ≤ s.g + (es.map fun e => 300 * wE hs f e).sum := fun s' hk =>
        foldG (I := fun _ => True) es s' (fun e he' s _ => ⟨en_g hs x f true e (he e he') s (fun q => by cases q), trivial⟩) trivial
      have hblk : ∀ s : Ck, (es.foldl (fun s e => cEn hs x f e s) s).blk = s.blk := fun s' => fold_blk (f := fun s e => cEn hs x f e s) es s' (fun e he' s => en_blk hs x f true e (he e he') s (fun q => by cases q))
      have := atomic_g x (blk_new x (walkL hs 3 es) bk0 bk0_new) s hbody hblk
      rw [hw _ hj]
      rw [sum_mul] at this
      have e2 : cEn hs x (f + 1) (.inr j) s = x.atomicC ((walkL hs 3 es).foldl x.seen bk0) (fun s => es.foldl (fun s e => cEn hs x f e s) s) s := by
        simp only [cEn, hj]
        rfl
      rw [e2]
      generalize x.atomicC ((walkL hs 3 es).foldl x.seen bk0) (fun s => es.foldl (fun s e => cEn hs x f e s) s) s = A at *
      omega
    · have hbody := foldG (f := fun s e => cEn hs x f e s) (c := fun e => 300 * wE hs f e) (I := fun s => b = false → s.blk = none) es (s.add [yJz, x.val a]) (fun e he' s hI => ⟨en_g hs x f b e (he e he') s hI, fun hb => (en_blk hs x f b e (he e he') s hI).trans (hI hb)⟩) hn
      rw [hw _ hj]
      rw [sum_mul] at hbody
      have e2 : (cEn hs x (f + 1) (.inr j) s).g = (es.foldl (fun s e => cEn hs x f e s) (s.add [yJz, x.val a])).g + 1 := by
        simp only [cEn, hj]
        rfl
      rw [e2]
      have e1 : (s.add [yJz, x.val a]).g = s.g + 1 := rfl
      rw [e1] at hbody
      generalize (es.foldl (fun s e => cEn hs x f e s) (s.add [yJz, x.val a])).g = A at *
      omega
    · have hbody := foldG (f := fun s e => cEn hs x f e s) (c := fun e => 300 * wE hs f e) (I := fun s => b = false → s.blk = none) es (({ s with loops := s.loops + 1 } : Ck).add [yStore, y0, x.own (36 + (s.loops : Int)), dec n]) (fun e he' s hI => ⟨en_g hs x f b e (he e he') s hI, fun hb => (en_blk hs x f b e (he e he') s hI).trans (hI hb)⟩) hn
      rw [hw _ hj]
      rw [sum_mul] at hbody
      have e2 : (cEn hs x (f + 1) (.inr j) s).g = (es.foldl (fun s e => cEn hs x f e s) (({ s with loops := s.loops + 1 } : Ck).add [yStore, y0, x.own (36 + (s.loops : Int)), dec n])).g + 6 := by
        simp only [cEn, hj]
        rfl
      rw [e2]
      have e1 : (({ s with loops := s.loops + 1 } : Ck).add [yStore, y0, x.own (36 + (s.loops : Int)), dec n]).g = s.g + 1 := rfl
      rw [e1] at hbody
      generalize (es.foldl (fun s e => cEn hs x f e s) (({ s with loops := s.loops + 1 } : Ck).add [yStore, y0, x.own (36 + (s.loops : Int)), dec n])).g = A at *
      omega
end Go.Proofs.YtfhkfnoajbbfdabGreatDoor

/- The coder at statements within one another. -/
namespace Go.Proofs.YtfhkfnoajbbfdabGreatDoor
open Go.RowKit

section
variable {W w w' : World} {x : Cx} {K : List (Nat × Nat × Value)} {c : Nat} {s : Ck} {ids : Ids} {rv : Value} {hs : List Hd} {ms : List HM}

theorem fold_inv {step : En → Ck → Ck} {inv : Ck → Prop} {cost : En → Nat} : ∀ (es : List En) (s : Ck), (∀ e ∈ es, ∀ s, inv s → inv (step e s) ∧ (step e s).g ≤ s.g + cost e) → inv s → inv (es.foldl (fun s e => step e s) s) ∧ (es.foldl (fun s e => step e s) s).g ≤ s.g + (es.map cost).sum
  | [], _, _, hI => ⟨hI, by simp⟩
  | e :: r, s, h, hI => by
    obtain ⟨h1, h2⟩ := h e (by simp) s hI
    obtain ⟨h3, h4⟩ := fold_inv r (step e s) (fun e' he => h e' (List.mem_cons_of_mem _ he)) h1
    simp only [List.foldl_cons, List.map_cons, List.sum_cons]
    exact ⟨h3, by omega⟩

theorem list_c {es : List En} (hrow : W.ownsRow 0 222 1 rv es.length (es.map (enV ids))) (hn : es.length ≤ 14) (step : En → Ck → Ck) (inv : Ck → Prop) (cost : En → Nat)
    (hst : ∀ e ∈ es, ∀ K w s, Cw W x K w c s → inv s → s.g + cost e + 1000 < 1000000 → Calls Tryz.prog 102 #[ptr c, enV ids e] w fun r w' => r = .returned (.tuple #[]) ∧ Cw W x K w' c (step e s))
    (hinv : ∀ e ∈ es, ∀ s, inv s → inv (step e s) ∧ (step e s).g ≤ s.g + cost e) (h : Cw W x K w c s) (hi : inv s) (hG : s.g + (es.map cost).sum + 1000 < 1000000) :
    Calls Tryz.prog 66 #[ptr c, rv] w fun r w' => r = .returned (.tuple #[]) ∧ Cw W x K w' c (es.foldl (fun s e => step e s) s) := by
  have key := stmts_m (c := c) (w := w) hrow (by omega) (fun k w => Cw W x K w c ((es.take k).foldl (fun s e => step e s) s)) (hid fun _ _ h => h.low) (hid fun k wr hk hJ => by
    have hmem : es[k] ∈ es := List.getElem_mem hk
    obtain ⟨h1, h2⟩ := fold_inv (step := step) (inv := inv) (cost := cost) (es.take k) s (fun e he => hinv e (List.mem_of_mem_take he)) hi
    have hsum : ((es.take k).map cost).sum + cost es[k] ≤ (es.map cost).sum := by
      have e1 : es = es.take k ++ es[k] :: es.drop (k + 1) := by rw [← List.drop_eq_getElem_cons hk, List.take_append_drop]
      have e2 : (es.map cost).sum = ((es.take k ++ es[k] :: es.drop (k + 1)).map cost).sum := by rw [← e1]
      rw [e2]
      simp only [List.map_append, List.map_cons, List.sum_append, List.sum_cons]
      omega
    refine (hst es[k] hmem K wr _ hJ h1 (by omega)).mono ?_
    rintro r w' ⟨hr, hw⟩
    refine ⟨hr, ?_⟩
    show Cw W x K w' c ((es.take (k + 1)).foldl (fun s e => step e s) s)
    rw [List.take_add_one, List.getElem?_eq_getElem hk, List.foldl_append]
    exact hw) (hid h)
  rw [List.take_length] at key
  exact key

/-- What is asked of newBlock. -/
def NewIs (W : World) (x : Cx) (c : Nat) (hs : List Hd) (ms : List HM) : Prop := ∀ K w s j es (hl : j < ms.length), Cw W x K w c s → hs[j]? = some ⟨.st .atomic, es⟩ → es.length ≤ 14 → (∃ f, f ≤ 2 ∧ ∀ e ∈ es, enW hs x f true e) →
  Calls Tryz.prog 189 #[ptr c, ptr ms[j].b] w fun e w' => ∃ b, e = .returned (ptr b) ∧ w.heap.size ≤ b ∧ NewBk w' b ((walkL hs 3 es).foldl x.seen bk0) ∧ Below w.heap.size w w'

/-- What a statement finds of the block that it stands in. -/
def inB (b : Bool) (s : Ck) : Prop := (b = false → s.blk = none) ∧ (b = true → ∃ k, s.blk = some k ∧ k.again < 100000000 ∧ k.puts.length = 6)

theorem inB_keep {b : Bool} {s s' : Ck} (h : inB b s) (e : s'.blk = s.blk) : inB b s' := ⟨fun q => e.trans (h.1 q), fun q => by obtain ⟨k, hk, r⟩ := h.2 q; exact ⟨k, e.trans hk, r⟩⟩

theorem leaf_c (hE : Env W) (h : Cw W x K w c s) {b : Bool} {st : St} (hl : x.leafOk b st) (hb : inB b s) (hG : s.g + 300 < 1000000) :
    Calls Tryz.prog 102 #[ptr c, stV st] w fun r w' => r = .returned (.tuple #[]) ∧ Cw W x K w' c (x.leaf st s) := by
  rcases st with ⟨to, a⟩ | ⟨to, o, a, d⟩ | ⟨to, f, a⟩ | ⟨f, a, v⟩ | a | ⟨⟩ | a | n
  · exact stmt_set h hl.1 hl.2 hG
  · exact stmt_op h hE hl.1 hl.2.1 hl.2.2.1 hl.2.2.2 hG
  · obtain ⟨h1, h2, ⟨h3, i, n, h4, h5, h6⟩, h7⟩ := hl
    obtain ⟨k, hk, hA, hp⟩ := hb.2 h1
    have hi : i < k.puts.length := by omega
    cases hpi : k.puts[i] with
    | false => exact stmt_getr h hk hA h2 h3 h7 h4 h5 ⟨by omega, by omega⟩ (by rw [List.getElem?_eq_getElem hi, hpi]) hG
    | true => exact stmt_getw h hk hA h2 h3 h7 h4 h5 ⟨by omega, by omega⟩ (by rw [List.getElem?_eq_getElem hi, hpi]) hG
  · obtain ⟨h1, ⟨h3, i, n, h4, h5, h6⟩, h7, h8⟩ := hl
    exact stmt_put h h3 h7 h8 (by rw [h4]; exact ⟨by simp, by simp; omega, by simp, by simp; omega⟩) hG
  · cases hbb : b with
    | false => exact stmt_outn h (hb.1 hbb) hl hG
    | true =>
      obtain ⟨k, hk, _⟩ := hb.2 hbb
      exact stmt_outs h hk hl hG
  · exact hl.elim
  · exact hl.elim
  · exact hl.elim
end
end Go.Proofs.YtfhkfnoajbbfdabGreatDoor

/- The coder at any statement. -/
namespace Go.Proofs.YtfhkfnoajbbfdabGreatDoor
open Go.RowKit

theorem eachA_len (ws : Nat → List ByteArray) : ∀ (l : List Bool) (i : Nat) (s : Ck), (eachB (fun i s => s.add (ws i)) l i s).L.length ≤ s.L.length + l.length
  | [], _, s => by simp [eachB]
  | a :: r, i, s => by
    simp only [eachB, List.length_cons]
    have := eachA_len ws r (i + 1) (if a = true then s.add (ws i) else s)
    by_cases ha : a = true
    · rw [if_pos ha] at this ⊢; rw [add_len] at this; omega
    · rw [if_neg ha] at this ⊢; omega

theorem begin_again (x : Cx) {s : Ck} {k : Bk} (hk : s.blk = some k) : ∃ n, (x.begin s).blk = some { k with again := n } ∧ n ≤ s.L.length + k.chgs.length := by
  refine ⟨(eachB (fun i s => s.add [yStore, y0, x.own (32 + (i : Nat)), regW (i : Nat)]) s.bk.chgs 0 s).L.length, ?_, ?_⟩
  · show (eachB (fun i s => s.add [yStore, y0, x.own (12 + (i : Nat)), y0]) s.bk.gets 0 _).blk = _
    refine (eachA_blk (fun i => [yStore, y0, x.own (12 + (i : Nat)), y0]) _ _ _).trans ?_
    refine (eachA_blk (fun i => [yStore, y0, x.own (6 + (i : Nat)), y0]) _ _ _).trans ?_
    refine (eachA_blk (fun i => [yLoad, regW (i : Nat), y0, x.own (32 + (i : Nat))]) s.bk.chgs 0 _).trans ?_
    show some _ = some _
    rw [bk_of hk]
  · have := eachA_len (fun i => [yStore, y0, x.own (32 + (i : Nat)), regW (i : Nat)]) s.bk.chgs 0 s
    rw [bk_of hk] at this ⊢
    exact this

section
variable {W : World} {x : Cx} {c : Nat} {hs : List Hd} {ms : List HM}

theorem en_c (hE : Env W) (hA : Ar hs ms W) (KN : NewIs W x c hs ms) : ∀ (f : Nat), f ≤ 3 → ∀ (b : Bool) (e : En), enW hs x f b e → ∀ K w s, Cw W x K w c s → inB b s → s.loops + f ≤ 10 → s.g + 300 * wE hs f e + 1000 < 1000000 →
    Calls Tryz.prog 102 #[ptr c, enV (idsOf ms) e] w fun r w' => r = .returned (.tuple #[]) ∧ Cw W x K w' c (cEn hs x f e s)
  | 0, _, _, .inl _, he, K, w, s, h, hb, _, hG => leaf_c hE h he hb (by simp only [wE] at hG; omega)
  | 0, _, _, .inr _, he, _, _, _, _, _, _, _ => he.elim
  | f + 1, _, _, .inl _, he, K, w, s, h, hb, _, hG => leaf_c hE h he hb (by simp only [wE] at hG; omega)
  | f + 1, hf, b, .inr j, he, K, w, s, h, hb, hlo, hG => by
    obtain ⟨es, h14, he⟩ := he
    have hw : ∀ k, hs[j]? = some ⟨k, es⟩ → 300 * wE hs (f + 1) (.inr j) = 300 + 300 * (es.map (wE hs f)).sum := fun k hj => by
      simp only [wE, enEnts, hj, Nat.mul_add]
    have hsum := sum_mul es (wE hs f) 300
    have hLg := h.ok.l
    rcases he with ⟨hj, hbf, he⟩ | ⟨a, hj, ha, he⟩ | ⟨n, hj, hn, he⟩
    · obtain ⟨hl, e1, e2⟩ := enV_sub hA hj
      have hd := hA.hd j hl
      have hrow := hd.row
      rw [e1] at hrow
      rw [hw _ hj] at hG
      have hkn := blk_new x (walkL hs 3 es) bk0 bk0_new
      have hblk : ∀ s : Ck, (es.foldl (fun s e => cEn hs x f e s) s).blk = s.blk := fun s' => fold_blk (f := fun s e => cEn hs x f e s) es s' (fun e he' s => en_blk hs x f true e (he e he') s (fun q => by cases q))
      have h1 := begin_g x (s := { s with blk := some ((walkL hs 3 es).foldl x.seen bk0) }) rfl hkn
      obtain ⟨n, h2, h3⟩ := begin_again x (s := { s with blk := some ((walkL hs 3 es).foldl x.seen bk0) }) rfl
      rw [hkn.c] at h3
      have hbody := foldG (f := fun s e => cEn hs x f e s) (c := fun e => 300 * wE hs f e) (I := fun _ => True) es (x.begin { s with blk := some ((walkL hs 3 es).foldl x.seen bk0) }) (fun e he' s _ => ⟨en_g hs x f true e (he e he') s (fun q => by cases q), trivial⟩) trivial
      rw [hsum] at hbody
      have hb2 := (hblk (x.begin { s with blk := some ((walkL hs 3 es).foldl x.seen bk0) })).trans h2
      have hcg := commit_g x hb2 hkn.u hkn.p hkn.g
      have hlob := (saneBegin x).lo { s with blk := some ((walkL hs 3 es).foldl x.seen bk0) }
      have hst : cEn hs x (f + 1) (.inr j) s = x.atomicC ((walkL hs 3 es).foldl x.seen bk0) (fun s => es.foldl (fun s e => cEn hs x f e s) s) s := by
        simp only [cEn, hj]
        rfl
      rw [e2, hst]
      have hg0 : ({ s with blk := some ((walkL hs 3 es).foldl x.seen bk0) } : Ck).g = s.g := rfl
      have hL0 : ({ s with blk := some ((walkL hs 3 es).foldl x.seen bk0) } : Ck).L = s.L := rfl
      have hlo0 : ({ s with blk := some ((walkL hs 3 es).foldl x.seen bk0) } : Ck).loops = s.loops := rfl
      rw [hg0] at h1
      rw [hL0] at h3
      rw [hlo0] at hlob
      refine stmt_atomic (hid (atomic_c h (rv := ms[j].rv) hd.rc (hid fun w hw => KN K w s j es hl hw hj h14 ⟨f, by omega, he⟩) (fun s => es.foldl (fun s e => cEn hs x f e s) s) (hid fun w hw => ?_) hb2 ⟨rfl, rfl⟩ (by show n < _; omega) (by omega) (by omega) (by omega)))
      refine list_c hrow h14 (fun e s => cEn hs x f e s) (fun s => inB true s ∧ s.loops + f ≤ 10) (fun e => 300 * wE hs f e) (fun e he' K w s h hi hG => en_c hE hA KN f (by omega) true e (he e he') K w s h hi.1 hi.2 hG) (fun e he' s hi => ⟨⟨inB_keep hi.1 (en_blk hs x f true e (he e he') s (fun q => by cases q)), by rw [(saneEn hs x f e).lo]; exact hi.2⟩, en_g hs x f true e (he e he') s (fun q => by cases q)⟩) hw ⟨⟨(fun q => by cases q), fun _ => ⟨_, h2, by show n < _; omega, hkn.p⟩⟩, by omega⟩ (by rw [hsum]; omega)
    · obtain ⟨hl, e1, e2⟩ := enV_sub hA hj
      have hd := hA.hd j hl
      have hrow := hd.row
      have hkk := hd.kind
      rw [e1] at hrow hkk
      rw [hw _ hj] at hG
      have hI0 : inB b (s.add [yJz, x.val a]) := inB_keep hb rfl
      have hbody := foldG (f := fun s e => cEn hs x f e s) (c := fun e => 300 * wE hs f e) (I := fun s => inB b s) es (s.add [yJz, x.val a]) (fun e he' s hI => ⟨en_g hs x f b e (he e he') s hI.1, inB_keep hI (en_blk hs x f b e (he e he') s hI.1)⟩) hI0
      rw [hsum] at hbody
      have hle := (saneFold (f := fun s e => cEn hs x f e s) (fun e => saneEn hs x f e) es).le (s.add [yJz, x.val a])
      have hst : cEn hs x (f + 1) (.inr j) s = (es.foldl (fun s e => cEn hs x f e s) (s.add [yJz, x.val a])).land s.L.length := by
        simp only [cEn, hj]
        rfl
      have hg0 : (s.add [yJz, x.val a]).g = s.g + 1 := rfl
      rw [hg0] at hbody
      rw [e2, hst]
      refine stmt_if h ha hd.rc hkk.1 hkk.2 (fun s => es.foldl (fun s e => cEn hs x f e s) s) (hid fun K w hw => ?_) hle (by omega) (by omega)
      refine list_c hrow h14 (fun e s => cEn hs x f e s) (fun s => inB b s ∧ s.loops + f ≤ 10) (fun e => 300 * wE hs f e) (fun e he' K w s h hi hG => en_c hE hA KN f (by omega) b e (he e he') K w s h hi.1 hi.2 hG) (fun e he' s hi => ⟨⟨inB_keep hi.1 (en_blk hs x f b e (he e he') s hi.1.1), by rw [(saneEn hs x f e).lo]; exact hi.2⟩, en_g hs x f b e (he e he') s hi.1.1⟩) hw ⟨hI0, by show s.loops + f ≤ 10; omega⟩ (by rw [hsum, hg0]; omega)
    · obtain ⟨hl, e1, e2⟩ := enV_sub hA hj
      have hd := hA.hd j hl
      have hrow := hd.row
      have hkk := hd.kind
      rw [e1] at hrow hkk
      rw [hw _ hj] at hG
      have hI0 : inB b (({ s with loops := s.loops + 1 } : Ck).add [yStore, y0, x.own (36 + (s.loops : Int)), dec n]) := inB_keep hb rfl
      have hbody := foldG (f := fun s e => cEn hs x f e s) (c := fun e => 300 * wE hs f e) (I := fun s => inB b s) es (({ s with loops := s.loops + 1 } : Ck).add [yStore, y0, x.own (36 + (s.loops : Int)), dec n]) (fun e he' s hI => ⟨en_g hs x f b e (he e he') s hI.1, inB_keep hI (en_blk hs x f b e (he e he') s hI.1)⟩) hI0
      rw [hsum] at hbody
      have hle := (saneFold (f := fun s e => cEn hs x f e s) (fun e => saneEn hs x f e) es).le (({ s with loops := s.loops + 1 } : Ck).add [yStore, y0, x.own (36 + (s.loops : Int)), dec n])
      rw [add_len] at hle
      have hlp := (saneFold (f := fun s e => cEn hs x f e s) (fun e => saneEn hs x f e) es).lo (({ s with loops := s.loops + 1 } : Ck).add [yStore, y0, x.own (36 + (s.loops : Int)), dec n])
      have hst : cEn hs x (f + 1) (.inr j) s = x.loopC n (fun s => es.foldl (fun s e => cEn hs x f e s) s) s := by
        simp only [cEn, hj]
        rfl
      have hg0 : (({ s with loops := s.loops + 1 } : Ck).add [yStore, y0, x.own (36 + (s.loops : Int)), dec n]).g = s.g + 1 := rfl
      rw [hg0] at hbody
      rw [e2, hst]
      refine stmt_loop (hid (loop_c h (rv := ms[j].rv) ⟨by omega, by omega⟩ hd.rc hkk (by omega) (fun s => es.foldl (fun s e => cEn hs x f e s) s) (hid fun K w hw => ?_) hle hlp (by omega) (by omega)))
      refine list_c hrow h14 (fun e s => cEn hs x f e s) (fun s => inB b s ∧ s.loops + f ≤ 10) (fun e => 300 * wE hs f e) (fun e he' K w s h hi hG => en_c hE hA KN f (by omega) b e (he e he') K w s h hi.1 hi.2 hG) (fun e he' s hi => ⟨⟨inB_keep hi.1 (en_blk hs x f b e (he e he') s hi.1.1), by rw [(saneEn hs x f e).lo]; exact hi.2⟩, en_g hs x f b e (he e he') s hi.1.1⟩) hw ⟨hI0, by show s.loops + 1 + f ≤ 10; omega⟩ (by rw [hsum, hg0]; omega)
end
end Go.Proofs.YtfhkfnoajbbfdabGreatDoor

/- The coder: a thread's end; its text. -/
namespace Go.Proofs.YtfhkfnoajbbfdabGreatDoor
open Go.RowKit

/-- The thread's end, and the one trap of all wrong cells. -/
def Ck.endC (s : Ck) : Ck :=
  if s.T = [] then s.add [yHalt] else ((s.add [yHalt]).lands s.T).add [yTrap, dec 2]
def Ck.text (s : Ck) : ByteArray := joinW 10 s.L ++ ⟨#[10]⟩

section
variable {W w w' : World} {x : Cx} {K : List (Nat × Nat × Value)} {m : Cm} {c : Nat} {s : Ck}

theorem Cd.traps (h : Cd W x K m w c s) : ∃ a k, w.cell? ⟨c, 6, none⟩ = some (.slice a s.T.length k) ∧ m.tv = .slice a s.T.length k := by
  obtain ⟨a, k, e⟩ := slice_of h.trow
  exact ⟨a, k, by rw [h.c6, e], e⟩

set_option maxRecDepth 100000 in
set_option maxHeartbeats 2000000 in
theorem end_c (h : Cw W x K w c s) (hG : s.g + s.T.length + 200 < 10000000) :
    Calls Tryz.prog 67 #[ptr c] w fun e w' => e = .returned (.tuple #[]) ∧ Cw W x K w' c s.endC := by
  have H0 := hid h
  clear h
  by_cases hT : s.T = []
  · have hR : s.endC = s.add [yHalt] := if_pos hT
    rw [hR]
    clear hR
    go_enter Tryz.func67, Tryz.ntmps67
    go_wp2_with fail
    refine (add_new H0.out [yHalt] (by simp) ⟨by decide, trivial⟩ (by omega)).mono ?_
    rintro e w1 ⟨rfl, m, q⟩
    obtain ⟨a, k, c6, _⟩ := q.traps
    have hl : (s.add [yHalt]).T.length = 0 := by show s.T.length = 0; rw [hT]; rfl
    rw [hl] at c6
    have H1 := hid q
    clear q
    go_wp2
    (try simp only [Exit.inBlock, Exit.then])
    refine bodyPost_ret (results_none rfl _ _ _) rfl ?_
    exact ⟨rfl, m, H1.out⟩
  · have hR : s.endC = ((s.add [yHalt]).lands s.T).add [yTrap, dec 2] := if_neg hT
    rw [hR]
    have hpos : 0 < s.T.length := List.length_pos_iff.2 hT
    have hne : ((s.T.length : Int) == 0) = false := by simp; omega
    have hne' : ¬ (s.T.length : Int) = 0 := by omega
    clear hR
    go_enter Tryz.func67, Tryz.ntmps67
    go_wp2_with fail
    refine (add_new H0.out [yHalt] (by simp) ⟨by decide, trivial⟩ (by omega)).mono ?_
    rintro e w1 ⟨rfl, m, q⟩
    obtain ⟨a, kc, c6, htv⟩ := q.traps
    have hTe : (s.add [yHalt]).T = s.T := rfl
    have hgT : (s.add [yHalt]).g + s.T.length + 100 < 10000000 := by show s.g + 1 + _ + _ < _; omega
    have H1 := hid q
    clear q H0
    generalize hS : s.add [yHalt] = S at *
    rw [hTe] at c6 htv
    go_wp2
    go_loopw [20] (fun v20 wr => ∃ i : Nat, i ≤ s.T.length ∧ v20 = .int .i64 i ∧ Hid (Cd W x K m wr c (S.lands (s.T.take i)))) (fun v20 _ => s.T.length - (intOf v20).toNat)
    case atStart => exact ⟨0, Nat.zero_le _, rfl, H1⟩
    case round =>
      obtain ⟨i, hi, rfl, hB⟩ := hrel
      by_cases hlt : i < s.T.length
      · have hlt' : (i : Int) < (s.T.length : Int) := by omega
        have hi0 : (0 : Int) ≤ (i : Int) := by omega
        have hTi : (S.lands (s.T.take i)).T = s.T := (lands_T _ _).trans hTe
        have r1 := hB.out.trow
        have r2 := hB.out.tl
        rw [hTi] at r1 r2
        obtain ⟨g, cap, bl, ba, e1, e2, h1, h2⟩ := row_leap r1 r2 hlt
        rw [htv] at e1
        injection e1 with e3 _ e4
        subst e3 e4
        have hun := hB.out.ok.tb s.T[i] (by rw [hTi]; exact List.getElem_mem hlt)
        have D1 := hid (land_d hB.out h1 h2 hun (by rw [lands_g]; simp; omega))
        have hs : (S.lands (s.T.take i)).land s.T[i] = S.lands (s.T.take (i + 1)) := by
          rw [← lands_snoc, List.take_add_one, List.getElem?_eq_getElem hlt]; rfl
        rw [hs] at D1
        clear r1 r2 h1 h2 hun hs hTi
        go_wp2_with fail
        refine D1.out.mono ?_
        rintro e w1 ⟨rfl, q⟩
        have H2 := hid q
        clear q D1
        go_wp2
        go_roundw
        case rel => exact ⟨i + 1, by omega, by go_num, H2⟩
        case measure => simp [intOf]; omega
      · have hlt' : ¬ (i : Int) < (s.T.length : Int) := by omega
        have hie : i = s.T.length := by omega
        rw [hie, List.take_length] at hB
        have H2 : Hid (Cw W x K wr c (S.lands s.T)) := hid ⟨m, hB.out⟩
        have hg2 := lands_g s.T S
        go_wp2_with fail
        go_region_law (first
          | (go_simp; go_at_call 104; refine (itoa_c H2.out.drew 2 (by omega) (by omega)).mono ?_; rintro e w3 ⟨rfl, q⟩; have H3 := hid q; clear q)
          | (go_simp; go_at_call 103; refine (add_new H3.out [yTrap, dec 2] (by simp) ⟨by decide, szDec _ (by omega) (by omega), trivial⟩ (by omega)).mono ?_; rintro e w4 ⟨rfl, q⟩; have H4 := hid q; clear q))
        go_wp2
        go_end0
        subst hS
        exact ⟨rfl, H4.out⟩

theorem join10_len (B : Nat) : ∀ (ws : List ByteArray), (∀ u ∈ ws, u.size ≤ B) → (Lib.join (ws.map (·.data.toList)) [10]).length ≤ (B + 1) * ws.length
  | [], _ => by simp [Lib.join_nil]
  | [a], h => by
    have h1 : a.data.size ≤ B := h a (by simp)
    simp only [List.map_cons, List.map_nil, Lib.join_one, List.length_cons, List.length_nil, Array.length_toList]
    omega
  | a :: b :: r, h => by
    have ih := join10_len B (b :: r) (fun u hu => h u (List.mem_cons_of_mem _ hu))
    have h1 : a.data.size ≤ B := h a (by simp)
    have e : Lib.join ((a :: b :: r).map (·.data.toList)) [10] = a.data.toList ++ [10] ++ Lib.join ((b :: r).map (·.data.toList)) [10] := by
      simp [Lib.join, List.intercalate]
    have e2 : (B + 1) * (a :: b :: r).length = (B + 1) * (b :: r).length + (B + 1) := by rw [List.length_cons, Nat.mul_add, Nat.mul_one]
    rw [e, e2]
    simp only [List.length_append, List.length_cons, List.length_nil, Array.length_toList] at ih ⊢
    omega

theorem text_size (h : s.Ok) (hG : s.g < 1000000) : (Lib.join (s.L.map (·.data.toList)) [10]).length ≤ 31000000000000 := by
  have h1 := join10_len (200 + 30 * s.g) s.L h.z
  have h2 := h.l
  have h3 : (200 + 30 * s.g + 1) * s.L.length ≤ (200 + 30 * s.g + 1) * 1000000 := Nat.mul_le_mul_left _ (by omega)
  omega

set_option maxRecDepth 100000 in
set_option maxHeartbeats 2000000 in
theorem text_c (h : Cw W x K w c s) (hne : s.L ≠ []) (hG : s.g < 1000000) :
    Calls Tryz.prog 69 #[ptr c] w fun e w' => e = .returned (.string s.text) ∧ Cw W x K w' c s := by
  obtain ⟨m, hm⟩ := h
  have hsz := text_size hm.ok hG
  have hL := hm.ok.l
  have hpos : 0 < s.L.length := List.length_pos_iff.2 hne
  obtain ⟨g, cap, hlv, hcap, hcells, hgl⟩ : ∃ g cap, m.lv = .slice (some ⟨g, 0, none⟩) s.L.length cap ∧ s.L.length ≤ cap ∧ (∀ (j : Nat) u, s.L[j]? = some u → w.cell? ⟨g, 0 + j, none⟩ = some (.string u)) ∧ g < w.heap.size := by
    rcases hm.lrow.2 with ⟨_, e⟩ | ⟨g, cap, cur, e, h1, h2, h3, h4, h5, h6⟩
    · omega
    · have hc := hm.lrow.cells (g := g) (by rw [e]; rfl)
      refine ⟨g, cap, e, h3, fun j u hu => ?_, (Array.getElem?_eq_some_iff.1 h2).1⟩
      have e1 := hc j (.string u) (by simp [hu])
      have e2 : (⟨g, 0, none⟩ : Addr).add j = ⟨g, 0 + j, none⟩ := by cases j <;> simp [Addr.add]
      rw [e2] at e1
      exact e1
  have c0 := hm.c0
  rw [hlv] at c0
  have KJ : Hid (Calls Tryz.prog 106 #[.slice (some ⟨g, 0, none⟩) s.L.length cap, .string ⟨#[10]⟩] w fun e w' => e = .returned (.string (joinW 10 s.L)) ∧ Below w.heap.size w w') := hid (Tryz.strings_Join g 0 cap s.L ⟨#[10]⟩ w hcells hgl (by omega) hcap (by show (Lib.join (s.L.map (·.data.toList)) [10]).length ≤ _; omega))
  have hjs : (joinW 10 s.L).size = (Lib.join (s.L.map (·.data.toList)) [10]).length := by simp [joinW, ByteArray.size]
  have hs1 : ¬ 9223372036854775807 < (joinW 10 s.L).size + 1 := by omega
  have H := hid hm
  clear hm hcells hlv
  go_enter Tryz.func69, Tryz.ntmps69
  go_wp2_with fail
  refine KJ.out.mono ?_
  rintro e w1 ⟨rfl, b1⟩
  have H1 := hid (H.out.below b1)
  clear b1 H KJ c0
  clear hjs hsz
  generalize hjJ : joinW 10 s.L = J at *
  go_wp2
  go_ret
  subst hjJ
  exact ⟨rfl, m, H1.out⟩
end
end Go.Proofs.YtfhkfnoajbbfdabGreatDoor

/- The coder of a thread, as it is made; a thread's text. -/
namespace Go.Proofs.YtfhkfnoajbbfdabGreatDoor
open Go.RowKit

def Ck.none' : Ck := ⟨[], [], 0, Option.none, 0⟩

theorem Ck.none_ok : Ck.none'.Ok := ⟨Nat.le_refl _, fun _ h => by simp [Ck.none'] at h, Nat.le_refl _, fun _ h => by simp [Ck.none'] at h, fun _ h => by simp [Ck.none'] at h⟩

theorem newest (w : World) (o : Obj) : (w.alloc o).heap[w.heap.size]? = some o := by show (w.heap.push _)[w.heap.size]? = _; exact Array.getElem?_push_size

/-- The coder as it is made. -/
theorem cd_init {W : World} {x : Cx} (h : CBase W x) :
    Cw W x [] (W.alloc (.cells #[.slice Option.none 0 0, .map (some x.sb), .map (some x.lb), .int .i64 x.th, .int .i64 0, .pointer Option.none, .slice Option.none 0 0] 166)) W.heap.size Ck.none' := by
  refine ⟨⟨fun k => if k = W.heap.size then 1 else 0, .slice Option.none 0 0, .slice Option.none 0 0, [], 0, .slice Option.none 0 0, []⟩, {
    base := h, ok := Ck.none_ok, low := (Below.refl _ W).alloc (Nat.le_refl _) _
    sh := by unfold World.shape?; rw [newest]; rfl
    c0 := World.cell?_alloc_new _ _ _ 0, c1 := World.cell?_alloc_new _ _ _ 1, c2 := World.cell?_alloc_new _ _ _ 2, c3 := World.cell?_alloc_new _ _ _ 3
    c4 := World.cell?_alloc_new _ _ _ 4, c5 := World.cell?_alloc_new _ _ _ 5, c6 := World.cell?_alloc_new _ _ _ 6
    free := fun j => by unfold World.frozen?; rw [newest]; simp
    lrow := ⟨rfl, .inl ⟨rfl, rfl⟩⟩, trow := ⟨rfl, .inl ⟨rfl, rfl⟩⟩
    tl := ⟨rfl, fun i f n hf => by simp at hf⟩
    bk := fun k hk => by simp [Ck.none'] at hk
    kp := fun p hp => by simp at hp
    lz := fun k hk => if_neg (by simp at hk; omega)
    lo := fun k hk => if_neg (by omega)
    lc := if_pos rfl
    llv := fun g hg => by simp [Value.ownBlock] at hg
    ltv := fun g hg => by simp [Value.ownBlock] at hg }⟩

/-- The code of a thread. -/
def cThread (hs : List Hd) (x : Cx) (es : List En) : Ck := (es.foldl (fun s e => cEn hs x 3 e s) Ck.none').endC

/-- A thread's text, with the line that begins it. -/
def threadText (hs : List Hd) (x : Cx) (es : List En) : ByteArray := ⟨#[116, 104, 114, 101, 97, 100, 10]⟩ ++ (cThread hs x es).text
end Go.Proofs.YtfhkfnoajbbfdabGreatDoor

/- A builder of strings: what is written is behind what was. -/
namespace Go.Proofs.YtfhkfnoajbbfdabGreatDoor
open Go.RowKit Go.Shelf

section
variable {w : World} {B b : Nat} {l : List UInt8} {u : ByteArray}

theorem write_c (h : Lib.IsBuilderF 151 5 B b (Lib.byteCells l) w) (hlen : l.length + u.size ≤ 140737488355328) (hB : B ≤ w.heap.size) :
    Calls Tryz.prog 68 #[ptr b, .string u] w fun e w' => e = .returned (.tuple #[.int .i64 u.size, .nilIface]) ∧ Lib.IsBuilderF 151 5 B b (Lib.byteCells (l ++ u.data.toList)) w' ∧ Below B w w' := by
  have hl : (Lib.byteCells l).length + u.size ≤ 140737488355328 := by simpa [Lib.byteCells] using hlen
  refine (Any.Builder_WriteString_k (ρ := Tryz.lays156_ren) { Tryz.lays156 with } Tryz.Builder_Extra_156 B b (Lib.byteCells l) u w h hl hB).mono ?_
  rintro e w' ⟨he, h1, h2, _⟩
  refine ⟨he, .inr ?_, h2⟩
  have e1 : Lib.byteCells (l ++ u.data.toList) = Lib.byteCells l ++ Lib.strCells u := by simp [Lib.byteCells, Lib.strCells]
  rw [e1]
  exact h1

theorem string_c (h : Lib.IsBuilderF 151 5 B b (Lib.byteCells l) w) (hB : B ≤ w.heap.size) :
    Calls Tryz.prog 70 #[ptr b] w fun e w' => e = .returned (.string ⟨l.toArray⟩) ∧ Below B w w' := by
  refine (Tryz.Builder_String_any_k B b l w h hB).mono ?_
  rintro e w' ⟨he, _, h2, _⟩
  exact ⟨he, h2⟩
end
end Go.Proofs.YtfhkfnoajbbfdabGreatDoor

/- coder.Code: thread after thread. -/
namespace Go.Proofs.YtfhkfnoajbbfdabGreatDoor
open Go.RowKit

abbrev coderV (sb lb i : Nat) : Obj := .cells #[.slice none 0 0, .map (some sb), .map (some lb), .int .i64 (i : Int), .int .i64 0, .pointer none, .slice none 0 0] 166

section
variable {W : World} {br sb n : Nat} {ta : Option Addr} {tk : Nat} {tb lb : Nat → Nat} {rv : Nat → Value} {tx : Nat → ByteArray}

set_option maxRecDepth 100000 in
set_option maxHeartbeats 4000000 in
theorem code_m (hn : n ≤ 3) (c0 : W.cell? ⟨br, 0, none⟩ = some (.map (some sb))) (c1 : W.cell? ⟨br, 1, none⟩ = some (.slice ta n tk))
    (HT : Hid (∀ i, i < n → ∃ g, ta = some ⟨g, 0, none⟩ ∧ W.cell? ⟨g, i, none⟩ = some (ptr (tb i)) ∧ W.cell? ⟨tb i, 0, none⟩ = some (rv i) ∧ W.cell? ⟨tb i, 1, none⟩ = some (.map (some (lb i)))))
    (J : Nat → World → Prop) (P1 P2 P3 : Nat → Nat → World → Prop) (R : Value → World → Prop) (HTX : Hid (∀ i c w, i < n → P3 i c w → (tx i).size ≤ 1000000000000))
    (hlow : Hid (∀ i wr, J i wr → Below W.heap.size W wr)) (h0 : Hid (J 0 (W.alloc (.cells #[.pointer none, .slice none 0 0] 151))))
    (K1 : Hid (∀ i wr, i < n → J i wr → Calls Tryz.prog 66 #[ptr wr.heap.size, rv i] (wr.drew.alloc (coderV sb (lb i) i)) fun e w' => e = .returned (.tuple #[]) ∧ P1 i wr.heap.size w'))
    (K2 : Hid (∀ i c w, i < n → P1 i c w → Calls Tryz.prog 67 #[ptr c] w fun e w' => e = .returned (.tuple #[]) ∧ P2 i c w'))
    (K3 : Hid (∀ i c w, i < n → P2 i c w → Calls Tryz.prog 69 #[ptr c] w fun e w' => e = .returned (.string (tx i)) ∧ P3 i c w'))
    (K4 : Hid (∀ i c w, i < n → P3 i c w → Calls Tryz.prog 68 #[ptr W.heap.size, .string (⟨#[116, 104, 114, 101, 97, 100, 10]⟩ ++ tx i)] w fun e w' => (∃ v, e = .returned v) ∧ J (i + 1) w'))
    (K5 : Hid (∀ w, J n w → Calls Tryz.prog 70 #[ptr W.heap.size] w fun e w' => ∃ v, e = .returned v ∧ R v w')) :
    Calls Tryz.prog 42 #[ptr br] W fun e w' => ∃ v, e = .returned v ∧ R v w' := by
  have l0 := World.block_lt_of_cell? _ _ c0
  have HC0 : Hid (∀ wr, Below W.heap.size W wr → wr.cell? ⟨br, 0, none⟩ = some (.map (some sb))) := hid fun wr h => (h.cell (p := ⟨br, 0, none⟩) l0).trans c0
  have HK : Hid (∀ wr, Below W.heap.size W wr → ∀ b o v, W.cell? ⟨b, o, none⟩ = some v → wr.cell? ⟨b, o, none⟩ = some v) := hid fun wr h b o v hv => (h.cell (p := ⟨b, o, none⟩) (World.block_lt_of_cell? _ _ hv)).trans hv
  go_enter Tryz.func42, Tryz.ntmps42
  go_wp2
  go_loopw [12] (fun v12 wr => ∃ i : Nat, i ≤ n ∧ v12 = .int .i64 i ∧ Hid (J i wr)) (fun v12 _ => n - (intOf v12).toNat)
  case atStart => exact ⟨0, Nat.zero_le _, rfl, h0⟩
  case round =>
    obtain ⟨i, hi, rfl, hB⟩ := hrel
    by_cases hlt : i < n
    · have hlt' : (i : Int) < (n : Int) := by omega
      have hi0 : (0 : Int) ≤ (i : Int) := by omega
      obtain ⟨g, hta, t1, t2, t3⟩ := HT.out i hlt
      subst hta
      have hbl := hlow.out i wr hB.out
      have d0 := HC0.out wr hbl
      have d1 := HK.out wr hbl _ _ _ t1
      have d3 := HK.out wr hbl _ _ _ t3
      have d2 := HK.out wr hbl _ _ _ t2
      have lt : tb i < wr.heap.size := World.block_lt_of_cell? _ _ d2
      have D1 := hid (K1.out i wr hlt hB.out)
      have D2 := hid (fun c w => K2.out i c w hlt)
      have D3 := hid (fun c w => K3.out i c w hlt)
      have D4 := hid (fun c w => K4.out i c w hlt)
      have D5 := hid (fun c w => HTX.out i c w hlt)
      clear hbl t1 t2 t3 K1 K2 K3 K4 HT HC0 HK c0 c1
      generalize tb i = tbi at *
      generalize lb i = lbi at *
      generalize rv i = rvi at *
      generalize tx i = txi at *
      go_wp2_with fail
      go_region_law fail
      all_goals
        go_wp2_with fail
        refine D1.out.mono ?_
        rintro e w1 ⟨rfl, q⟩
        have H1 := hid q
        clear q
        go_wp2_with fail
        refine (D2.out _ _ H1.out).mono ?_
        rintro e w2 ⟨rfl, q⟩
        have H2 := hid q
        clear q
        go_wp2_with fail
        refine (D3.out _ _ H2.out).mono ?_
        rintro e w3 ⟨rfl, q⟩
        have hs : ¬ 9223372036854775807 < 7 + txi.size := by have := D5.out _ _ q; omega
        have H3 := hid q
        clear q
        go_wp2_with fail
        refine (D4.out _ _ H3.out).mono ?_
        rintro e w4 ⟨⟨v, rfl⟩, q⟩
        have H4 := hid q
        clear q
        go_wp2
        go_roundw
        case rel => exact ⟨i + 1, by omega, by go_num, H4⟩
        case measure => simp [intOf]; omega
    · have hlt' : ¬ (i : Int) < (n : Int) := by omega
      have hie : i = n := by omega
      subst hie
      have D5 := hid (K5.out wr hB.out)
      go_wp2_with fail
      refine D5.out.mono ?_
      rintro e w1 ⟨v, rfl, q⟩
      have H1 := hid q
      clear q
      go_wp2
      go_ret
      exact ⟨v, rfl, H1.out⟩
end
end Go.Proofs.YtfhkfnoajbbfdabGreatDoor
