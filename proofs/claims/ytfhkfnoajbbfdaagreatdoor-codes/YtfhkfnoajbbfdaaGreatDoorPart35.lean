import Derived.Test.YtfhkfnoajbbfdaaGreatDoorPart05
import Derived.Test.YtfhkfnoajbbfdaaGreatDoorPart32
import Derived.Test.YtfhkfnoajbbfdaaGreatDoorPart33
import Derived.Test.YtfhkfnoajbbfdaaGreatDoorPart09
import Derived.Laws.Concat
import Derived.Test.YtfhkfnoajbbfdaaGreatDoorPart34
import Derived.Test.YtfhkfnoajbbfdaaGreatDoorPart24
/- One element more, of several cells, on a row of one's own: what has turned. -/
namespace Go.Proofs.YtfhkfnoajbbfdaaGreatDoor
open Go.RowKit

theorem run_appN {P : Program} (w : World) (t ty e : TypeId) (i : TypeInfo) (z : Value) (sz bytes : Nat) (hpos : 0 < sz) (ht : P.underlying t = some (.slice e)) (hi : P.info? e = some i) (hz : i.zero = some z) (hsize : i.size = sz) (hby : i.bytes = bytes) (hzs : z.cells.size = sz)
    (v : Value) (n : Nat) (xs : List Value) (hown : w.ownsRow 0 e sz v n xs) (ad : Addr) (us : List Value) (hus : us.length = sz) (hu : ∀ j u', us[j]? = some u' → w.cell? (ad.add j) = some u') (h1 : ∀ u' ∈ us, u'.oneCell' = true) (h63 : n + 1 ≤ maxLen) (hbytes : (n + 1) * bytes ≤ 140737488355328) :
    ∃ g cap w', (Builtin.append_ #[t, t] ty #[v, .slice (some ad) 1 1]).run P w = .ok (.slice (some ⟨g, 0, none⟩) (n + 1) cap) w' ∧
      w'.ownsRow 0 e sz (.slice (some ⟨g, 0, none⟩) (n + 1) cap) (n + 1) (xs ++ us) ∧ Chg (fun k _ => v.ownBlock = some k) w w' ∧ (v.ownBlock = some g ∨ g = w.heap.size) := by
  obtain ⟨v', w', hr, h2, _, _⟩ := run_append_own (P := P) w 0 t ty e i z sz bytes ht hi hz hsize hby hzs hpos v n xs hown ad 1 1 us (by omega) hu h1 h63 hbytes (Nat.zero_le _)
  subst hby
  subst hsize
  have hlu : us.length = 1 * i.size := by omega
  rcases hown.2 with ⟨rfl, rfl⟩ | ⟨g, cap, cur, rfl, hbg, hg, hnc, hcm, hcs, htake⟩
  · have hx := run_append_nil (P := P) w t ty e i z ht hi hz ad 1 1 us hlu hu (by decide) (by decide) (by omega)
    rw [hx] at hr
    injection hr with e1 e2
    subst e1; subst e2
    exact ⟨_, _, _, hx, h2, ((Chg.refl _ w).drew).alloc _, .inr rfl⟩
  · by_cases hroom : n + 1 ≤ cap
    · have hsq : (n + 1) * i.size ≤ cap * i.size := Nat.mul_le_mul_right _ hroom
      rw [Nat.add_mul] at hsq
      have hx := run_append_room (P := P) w t ty e i ht hi g n cap cur hg ad 1 1 us hlu hu h1 hroom (by rw [hcs]; omega)
      rw [hx] at hr
      injection hr with e1 e2
      subst e1; subst e2
      refine ⟨_, _, _, hx, h2, (Chg.setRow hg ?_).mono (fun k i _ e => by simp [Value.ownBlock, e]), .inl rfl⟩
      simp only [List.size_toArray, List.length_append, List.length_take, List.length_drop, Array.length_toList]
      omega
    · have hx := run_append_grow (P := P) w t ty e i z ht hi hz ⟨g, 0, none⟩ n cap xs hown.1 (hown.cells (g := g) rfl) ad 1 1 us hlu hu (by omega) (by unfold maxLen at h63; omega) (growslice_fits (by omega) hbytes)
      rw [hx] at hr
      injection hr with e1 e2
      subst e1; subst e2
      exact ⟨_, _, _, hx, h2, ((Chg.refl _ w).drew).alloc _, .inr rfl⟩

theorem wpList_appN {P : Program} {w : World} {ops : Array Oper} {rest : List Oper} {o : Oper} {a : Act} {Q : Exit → Act → World → Prop} (hgd : o.guard = none) (s x : Operand) (t : TypeId)
    (ho : o.op = .call { callee := .builtin .append, args := #[s, x], argTypes := #[t, t] })
    (e : TypeId) (i : TypeInfo) (z : Value) (sz bytes : Nat) (hpos : 0 < sz) (ht : P.underlying t = some (.slice e)) (hi : P.info? e = some i) (hz : i.zero = some z) (hsize : i.size = sz) (hby : i.bytes = bytes) (hzs : z.cells.size = sz)
    (v : Value) (n : Nat) (xs : List Value) (hs : a.eval s = v) (hown : w.ownsRow 0 e sz v n xs) (ad : Addr) (us : List Value) (hus : us.length = sz) (hx : a.eval x = .slice (some ad) 1 1) (hu : ∀ j u', us[j]? = some u' → w.cell? (ad.add j) = some u') (hu1 : ∀ u' ∈ us, u'.oneCell' = true) (h63 : n + 1 ≤ maxLen) (hbytes : (n + 1) * bytes ≤ 140737488355328)
    (h : ∀ g cap w', w'.ownsRow 0 e sz (.slice (some ⟨g, 0, none⟩) (n + 1) cap) (n + 1) (xs ++ us) → Chg (fun k _ => v.ownBlock = some k) w w' → (v.ownBlock = some g ∨ g = w.heap.size) → wpList P ops Q rest (a.put o.dst (.slice (some ⟨g, 0, none⟩) (n + 1) cap)) w') : wpList P ops Q (o :: rest) a w :=
  wpList_plain hgd fun K hK => by
    obtain ⟨g, cap, w', hr, h2, h3, h4⟩ := run_appN (P := P) w t o.type e i z sz bytes hpos ht hi hz hsize hby hzs v n xs hown ad us hus hu hu1 h63 hbytes
    unfold Oper.wp execOp
    simp only [ho, resolve, invoke, builtin, Sem.run_bind, Sem.run_pure, Result.andThen_ok, List.map_toArray, List.map_cons, List.map_nil, hs, hx, hr]
    exact hK _ _ (h g cap w' h2 h3 h4)

theorem step_appN {P : Program} {w : World} {ops : Array Oper} {o : Oper} {a : Act} {K : Act → World → Prop} {Q : Exit → Act → World → Prop} {E : Prop} (hgd : o.guard = none) (s x : Operand) (t : TypeId)
    (ho : o.op = .call { callee := .builtin .append, args := #[s, x], argTypes := #[t, t] })
    (e : TypeId) (i : TypeInfo) (z : Value) (sz bytes : Nat) (hpos : 0 < sz) (ht : P.underlying t = some (.slice e)) (hi : P.info? e = some i) (hz : i.zero = some z) (hsize : i.size = sz) (hby : i.bytes = bytes) (hzs : z.cells.size = sz)
    (v : Value) (n : Nat) (xs : List Value) (hs : a.eval s = v) (hown : w.ownsRow 0 e sz v n xs) (ad : Addr) (us : List Value) (hus : us.length = sz) (hx : a.eval x = .slice (some ad) 1 1) (hu : ∀ j u', us[j]? = some u' → w.cell? (ad.add j) = some u') (hu1 : ∀ u' ∈ us, u'.oneCell' = true) (h63 : n + 1 ≤ maxLen) (hbytes : (n + 1) * bytes ≤ 140737488355328)
    (h : ∀ g cap w', w'.ownsRow 0 e sz (.slice (some ⟨g, 0, none⟩) (n + 1) cap) (n + 1) (xs ++ us) → Chg (fun k _ => v.ownBlock = some k) w w' → (v.ownBlock = some g ∨ g = w.heap.size) → K (a.put o.dst (.slice (some ⟨g, 0, none⟩) (n + 1) cap)) w') :
    if Region.wanted o (yielded ops a.tmps) = true then Oper.wp P o a w K Q else E := by
  have hw : Region.wanted o (yielded ops a.tmps) = true := by simp [Region.wanted, hgd]
  rw [if_pos hw]
  obtain ⟨g, cap, w', hr, h2, h3, h4⟩ := run_appN (P := P) w t o.type e i z sz bytes hpos ht hi hz hsize hby hzs v n xs hown ad us hus hu hu1 h63 hbytes
  unfold Oper.wp execOp
  simp only [ho, resolve, invoke, builtin, Sem.run_bind, Sem.run_pure, Result.andThen_ok, List.map_toArray, List.map_cons, List.map_nil, hs, hx, hr]
  exact h g cap w' h2 h3 h4

end Go.Proofs.YtfhkfnoajbbfdaaGreatDoor

/- The document's cut. -/
namespace Go.Proofs.YtfhkfnoajbbfdaaGreatDoor
open Go.RowKit

theorem infoString : (Tryz.prog.info? 9).map (fun i => (i.zero, i.size, i.bytes)) = some (some (.string ⟨#[]⟩), 1, 16) := by kernel_rfl

abbrev strV (l : List UInt8) : Value := .string ⟨l.toArray⟩

/-- What holds while a text is cut. -/
structure CutInv (w : World) (W : World) (g cap : Nat) (L : List (List UInt8)) : Prop where
  own : W.ownsRow 0 9 1 (.slice (some ⟨g, 0, none⟩) L.length cap) L.length (L.map strV)
  lo : w.heap.size ≤ g
  bel : Below w.heap.size w W

theorem CutInv.new (w : World) : CutInv w (w.alloc (.cells #[.string ⟨#[]⟩] 9)) w.heap.size 1 [[]] := by
  refine ⟨⟨rfl, .inr ⟨w.heap.size, 1, #[.string ⟨#[]⟩], rfl, Nat.zero_le _, ?_, Nat.le_refl _, by unfold maxLen; omega, rfl, rfl⟩⟩, Nat.le_refl _, (Below.refl _ w).alloc (Nat.le_refl _) _⟩
  show (w.heap.push _)[w.heap.size]? = _
  simp

theorem CutInv.app {w W W' : World} {g cap g' cap' : Nat} {L : List (List UInt8)} {o : Obj} (h : CutInv w W g cap L) (ho : W'.ownsRow 0 9 1 (.slice (some ⟨g', 0, none⟩) (L.length + 1) cap') (L.length + 1) (L.map strV ++ [.string ⟨#[]⟩]))
    (hc : Chg (fun k _ => (Value.slice (some ⟨g, 0, none⟩) L.length cap).ownBlock = some k) (W.alloc o) W') (hg : (Value.slice (some ⟨g, 0, none⟩) L.length cap).ownBlock = some g' ∨ g' = (W.alloc o).heap.size) : CutInv w W' g' cap' (L ++ [[]]) := by
  have hl := h.lo
  have hs := h.bel.size
  have hb : Below w.heap.size (W.alloc o) W' := hc.below (by simp; omega) (fun k i e => by simp [Value.ownBlock] at e; omega)
  refine ⟨by simpa using ho, ?_, (h.bel.alloc hs _).trans hb⟩
  rcases hg with e | e
  · simp [Value.ownBlock] at e; omega
  · simp at e; omega

theorem CutInv.add {w W : World} {g cap : Nat} {L : List (List UInt8)} {q : List UInt8} (h : CutInv w W g cap (L ++ [q])) (q' : List UInt8) : CutInv w (W.setCell ⟨g, L.length, none⟩ (strV q')) g cap (L ++ [q']) := by
  refine ⟨?_, h.lo, h.bel.setCell h.lo _⟩
  have := ownsRow_set h.own L.length (strV q')
  simpa using this

theorem CutInv.drew {w W : World} {g cap : Nat} {L : List (List UInt8)} (h : CutInv w W g cap L) : CutInv w W.drew g cap L :=
  ⟨ownsRow_chg h.own ((Chg.refl (fun _ _ => False) W).drew) (fun _ _ _ e => e), h.lo, h.bel.drew⟩

theorem str_add (q : List UInt8) (s : ByteArray) (k : Nat) (h : k < s.size) : (⟨q.toArray⟩ : ByteArray) ++ s.extract k (k + 1) = ⟨(q ++ [s[k]]).toArray⟩ := by
  apply ByteArray.ext
  apply Array.ext'
  rw [ByteArray.data_append, ByteArray.data_extract]
  have hk : k < s.data.toList.length := by rw [Array.length_toList]; exact h
  simp [Array.toList_extract, List.drop_eq_getElem_cons hk, ByteArray.getElem_eq_getElem_data]

theorem cutF_len (c : UInt8) (l : List UInt8) : (cutF c l).length ≤ l.length + 1 := by
  induction l with
  | nil => simp [cutF]
  | cons b l ih =>
    unfold cutF
    split
    · simp; exact ih
    · split
      · simp
      · rename_i h; rw [h] at ih; simp at ih ⊢; omega

theorem cutF_part (c : UInt8) (l : List UInt8) : ∀ p ∈ cutF c l, p.length ≤ l.length := by
  induction l with
  | nil => intro p hp; simp [cutF] at hp; subst hp; exact Nat.le_refl _
  | cons b l ih =>
    intro p hp
    unfold cutF at hp
    split at hp
    · rcases List.mem_cons.1 hp with rfl | hp
      · simp
      · have := ih p hp; simp; omega
    · split at hp
      · simp at hp; subst hp; simp
      · rename_i h
        rw [h] at ih
        rcases List.mem_cons.1 hp with rfl | hp
        · have := ih _ List.mem_cons_self; simp; exact this
        · have := ih p (List.mem_cons_of_mem _ hp); simp; omega

theorem mk_size' (l : List UInt8) : (⟨l.toArray⟩ : ByteArray).size = l.length := by show l.toArray.size = _; simp

theorem take_one (s : ByteArray) (k : Nat) (h : k < s.size) : s.data.toList.take (k + 1) = s.data.toList.take k ++ [s[k]] := by
  have hk : k < s.data.toList.length := by rw [Array.length_toList]; exact h
  rw [List.take_succ_eq_append_getElem hk]
  simp [ByteArray.getElem_eq_getElem_data]

set_option maxRecDepth 100000 in
set_option maxHeartbeats 1000000 in
theorem cCut_any (w : World) (s : ByteArray) (c : UInt8) (hs : s.size ≤ 262144) :
    Calls Tryz.prog 67 #[.string s, .int .u8 c.toNat] w fun e w' => ∃ g cap, e = .returned (.slice (some ⟨g, 0, none⟩) (cutF c s.data.toList).length cap) ∧ CutInv w w' g cap (cutF c s.data.toList) := by
  obtain ⟨i0, hi, hz0, hz1, hz2⟩ := info_parts infoString
  go_enter Tryz.func67, Tryz.ntmps67
  go_wp2
  go_loopw [5, 6] (fun v5 v6 wr => ∃ (k g cap : Nat), k ≤ s.size ∧ v6 = .int .i64 k ∧ v5 = .slice (some ⟨g, 0, none⟩) (cutF c (s.data.toList.take k)).length cap ∧ Hid (CutInv w wr g cap (cutF c (s.data.toList.take k)))) (fun _ v6 _ => s.size - (intOf v6).toNat)
  case atStart => exact ⟨0, w.heap.size, 1, by omega, rfl, rfl, hid (CutInv.new w)⟩
  case round =>
    obtain ⟨k, g, cap, hk, rfl, rfl, HI⟩ := hrel
    have hlen := cutF_len c (s.data.toList.take k)
    have hlt0 : (s.data.toList.take k).length ≤ k := by simp; omega
    by_cases hlt : k < s.size
    · have hlt' : (k : Int) < (s.size : Int) := by omega
      have ht1 := take_one s k hlt
      by_cases hc : s[k] = c
      · have hc' : (s[k].toNat : Int) = (c.toNat : Int) := by rw [hc]
        have hq := cutF_sep c (s.data.toList.take k)
        rw [hc] at ht1
        rw [← ht1] at hq
        have HQ := hid hq
        clear hq ht1 hc
        generalize hL : cutF c (s.data.toList.take k) = L at *
        have hl1 : L.length + 1 ≤ maxLen := by unfold maxLen; omega
        have hl2 : (L.length + 1) * 16 ≤ 140737488355328 := by omega
        have HL := hid hL
        clear hL
        go_wp2_with (at_builtin; refine wpList_app1 rfl _ _ 39 rfl 9 i0 (.string ⟨#[]⟩) 16 Tryz.underlying39 hi hz0 hz1 hz2 rfl (.slice (some ⟨g, 0, none⟩) L.length cap) L.length _ rfl (HI.out.own.alloc _) ⟨wr.heap.size, 0, none⟩ (.string ⟨#[]⟩) rfl (cell_one_new _ _ _) rfl hl1 hl2 ?_; go_must (intro g' cap' w1 hown1 hch hg; have HC := hid (HI.out.app hown1 hch hg); clear hown1 hch hg))
        refine ⟨⟨k + 1, g', cap', by omega, by go_num, by rw [HQ.out]; simp, by rw [HQ.out]; exact HC⟩, by simp [intOf]; omega⟩
      · have hc' : ¬ (s[k].toNat : Int) = (c.toNat : Int) := fun e => hc (UInt8.toNat_inj.1 (Int.ofNat.inj e))
        obtain ⟨ps, q, e1, e2⟩ := cutF_snoc c s[k] hc (s.data.toList.take k)
        rw [← ht1] at e2
        have hpq := cutF_part c (s.data.toList.take k) q (by rw [e1]; simp)
        have hqs : ((⟨q.toArray⟩ : ByteArray).size : Int) ≤ 8388608 := by rw [mk_size']; omega
        have hxs : ((s.extract k (k + 1)).size : Int) ≤ 8388608 := by rw [ByteArray.size_extract]; omega
        have hsum : ¬ (9223372036854775807 < q.length + (min (k + 1) s.size - k)) := by omega
        rw [e1] at HI
        rw [e1] at hlen
        have hln : (cutF c (s.data.toList.take k)).length = ps.length + 1 := by rw [e1]; simp
        rw [hln]
        obtain ⟨q1, q2, q3⟩ := ownsRow_cell (n := ps.length + 1) (by simpa using HI.out.own) ps.length (by omega)
        simp at q1
        change wr.cell? ⟨g, ps.length, none⟩ = some (.string ⟨q.toArray⟩) at q1
        have hps : ps.length ≤ 262144 := by simp at hlen; omega
        have E2 := hid e2
        have HT := hid ht1
        clear e1 e2 hln ht1 hlen
        go_wp2
        go_region
        all_goals
          go_wp2
          rw [str_add q s k hlt]
          refine ⟨⟨k + 1, g, cap, by omega, by go_num, by rw [E2.out]; simp, ?_⟩, by simp [intOf]; omega⟩
          rw [E2.out]
          exact hid (HI.out.add _).drew
    · have hlt' : ¬ (k : Int) < (s.size : Int) := by omega
      obtain rfl : k = s.size := by omega
      have hall : s.data.toList.take s.size = s.data.toList := List.take_of_length_le (by rw [Array.length_toList]; exact Nat.le_refl _)
      rw [hall] at HI
      rw [hall]
      go_wp2
      go_ret
      exact ⟨g, cap, rfl, HI.out⟩
end Go.Proofs.YtfhkfnoajbbfdaaGreatDoor

/- An instruction's words: the document's letters against what the program reads. -/
namespace Go.Proofs.YtfhkfnoajbbfdaaGreatDoor
open Go.RowKit

abbrev zV : Vl := ⟨false, 0⟩

/-- An instruction as the document keeps it. -/
def dOf (ic : Ic) : DI := match ic.k with
  | 0 => ⟨wMov, ic.d, ic.a, zV, zV, 0⟩
  | 1 => ⟨opWords ic.op, ic.d, ic.a, ic.b, zV, 0⟩
  | 2 => ⟨wLoad, ic.d, ic.a, zV, zV, ic.n⟩
  | 3 => ⟨wStore, 0, ic.a, ic.b, zV, ic.n⟩
  | 4 => ⟨wCas, ic.d, ic.a, ic.b, ic.c, ic.n⟩
  | 5 => ⟨wXadd, ic.d, ic.a, ic.b, zV, ic.n⟩
  | 6 => ⟨wFence, 0, zV, zV, zV, 0⟩
  | 7 => ⟨wOut, 0, ic.a, zV, zV, 0⟩
  | 8 => ⟨wJmp, 0, zV, zV, zV, ic.n⟩
  | 9 => ⟨wJz, 0, ic.a, zV, zV, ic.n⟩
  | _ => if ic.n = 10 then ⟨wHalt, 0, zV, zV, zV, 0⟩ else ⟨wTrap, 0, zV, zV, zV, ic.n⟩

/-- The letters and what is read agree. -/
def Agree (f : List UInt8) (u : ByteArray) (g : List ByteArray → Option (Ic × List ByteArray)) : Prop := ∀ ws,
  (ws.length ≠ f.length → g ws = none ∨ ∃ ic x xs, g ws = some (ic, x :: xs)) ∧
  (ws.length = f.length → ((runL f ws (zeroI u)).2 = false → g ws = none) ∧ ((runL f ws (zeroI u)).2 = true → ∃ ic, g ws = some (ic, []) ∧ (runL f ws (zeroI u)).1 = dOf ic))

theorem gVal_nil : gVal [] = none := rfl
theorem gReg_nil : gReg [] = none := rfl
theorem gNum_nil : gNum [] = none := rfl
theorem gIn_nil (lo hi : Int) : gIn lo hi [] = none := rfl
theorem gCell_nil : gCell [] = none := rfl
theorem gVal_cons (x : ByteArray) (ws : List ByteArray) : gVal (x :: ws) = if (valD x).2 = true then some ((valD x).1, ws) else none := by
  show (match regVal x with | some r => _ | none => _) = _
  unfold valD
  cases regVal x with
  | some r => simp
  | none => cases h : numVal x <;> simp
theorem gReg_cons (x : ByteArray) (ws : List ByteArray) : gReg (x :: ws) = if (regVal x).isSome = true then some ((regVal x).getD 0, ws) else none := by
  show (regVal x).map _ = _
  cases regVal x <;> simp
theorem gNum_cons (x : ByteArray) (ws : List ByteArray) : gNum (x :: ws) = if (numVal x).isSome = true then some ((numVal x).getD 0, ws) else none := by
  show (numVal x).map _ = _
  cases numVal x <;> simp
theorem gIn_cons (lo hi : Int) (x : ByteArray) (ws : List ByteArray) : gIn lo hi (x :: ws) = if ((numVal x).isSome && decide (lo ≤ (numVal x).getD 0) && decide ((numVal x).getD 0 ≤ hi)) = true then some ((numVal x).getD 0, ws) else none := by
  unfold gIn
  rw [gNum_cons]
  cases numVal x with
  | none => simp
  | some v => by_cases h1 : lo ≤ v <;> by_cases h2 : v ≤ hi <;> simp [h1, h2]
theorem gCell_cons (x : ByteArray) (ws : List ByteArray) : gCell (x :: ws) = if (valD x).2 = true then (gNum ws).map (fun q => (((valD x).1, q.1), q.2)) else none := by
  unfold gCell
  rw [gVal_cons]
  split <;> simp

theorem agree_fence : Agree [] wFence gfence := by
  intro ws
  rcases ws with _ | ⟨z, ws⟩
  · refine ⟨fun h => absurd rfl h, fun _ => ⟨fun h => ?_, fun _ => ?_⟩⟩
    · simp [runL, zeroI] at h
    · refine ⟨_, by simp [gfence]; rfl, ?_⟩
      simp [runL, zeroI, dOf]
  · refine ⟨fun _ => .inr ?_, fun h => by simp at h⟩
    simp [gfence]
theorem agree_halt : Agree [] wHalt ghalt := by
  intro ws
  rcases ws with _ | ⟨z, ws⟩
  · refine ⟨fun h => absurd rfl h, fun _ => ⟨fun h => ?_, fun _ => ?_⟩⟩
    · simp [runL, zeroI] at h
    · refine ⟨_, by simp [ghalt]; rfl, ?_⟩
      simp [runL, zeroI, dOf]
  · refine ⟨fun _ => .inr ?_, fun h => by simp at h⟩
    simp [ghalt]
theorem agree_out : Agree [97] wOut gout := by
  intro ws
  rcases ws with _ | ⟨x0, ws⟩
  · exact ⟨fun _ => .inl (by simp [gout, gVal_nil]), fun h => by simp at h⟩
  cases h0 : (valD x0).2
  · have hn : gout (x0 :: ws) = none := by simp [gout, gVal_cons, h0]
    have hr : (runL [97] (x0 :: ws) (zeroI wOut)).2 = false := by simp [runL, stepL, zeroI, h0]
    exact ⟨fun _ => .inl hn, fun _ => ⟨fun _ => hn, fun h => by rw [hr] at h; cases h⟩⟩
  rcases ws with _ | ⟨z, ws⟩
  · refine ⟨fun h => absurd rfl h, fun _ => ⟨fun h => ?_, fun _ => ?_⟩⟩
    · simp [runL, stepL, zeroI, h0] at h
    · refine ⟨_, by simp [gout, gVal_cons, h0]; rfl, ?_⟩
      simp [runL, stepL, zeroI, dOf, h0]
  · refine ⟨fun _ => .inr ?_, fun h => by simp at h⟩
    simp [gout, gVal_cons, h0]
theorem agree_mov : Agree [100, 97] wMov gmov := by
  intro ws
  rcases ws with _ | ⟨x0, ws⟩
  · exact ⟨fun _ => .inl (by simp [gmov, gReg_nil]), fun h => by simp at h⟩
  cases h0 : (regVal x0).isSome
  · have hn : gmov (x0 :: ws) = none := by simp [gmov, gReg_cons, h0]
    have hr : (runL [100, 97] (x0 :: ws) (zeroI wMov)).2 = false := by simp [runL, stepL, zeroI, h0]
    exact ⟨fun _ => .inl hn, fun _ => ⟨fun _ => hn, fun h => by rw [hr] at h; cases h⟩⟩
  rcases ws with _ | ⟨x1, ws⟩
  · exact ⟨fun _ => .inl (by simp [gmov, gVal_nil, gReg_cons, h0]), fun h => by simp at h⟩
  cases h1 : (valD x1).2
  · have hn : gmov (x0 :: x1 :: ws) = none := by simp [gmov, gReg_cons, gVal_cons, h0, h1]
    have hr : (runL [100, 97] (x0 :: x1 :: ws) (zeroI wMov)).2 = false := by simp [runL, stepL, zeroI, h0, h1]
    exact ⟨fun _ => .inl hn, fun _ => ⟨fun _ => hn, fun h => by rw [hr] at h; cases h⟩⟩
  rcases ws with _ | ⟨z, ws⟩
  · refine ⟨fun h => absurd rfl h, fun _ => ⟨fun h => ?_, fun _ => ?_⟩⟩
    · simp [runL, stepL, zeroI, h0, h1] at h
    · refine ⟨_, by simp [gmov, gReg_cons, gVal_cons, h0, h1]; rfl, ?_⟩
      simp [runL, stepL, zeroI, dOf, h0, h1]
  · refine ⟨fun _ => .inr ?_, fun h => by simp at h⟩
    simp [gmov, gReg_cons, gVal_cons, h0, h1]
theorem agree_jmp : Agree [116] wJmp gjmp := by
  intro ws
  rcases ws with _ | ⟨x0, ws⟩
  · exact ⟨fun _ => .inl (by simp [gjmp, gIn_nil]), fun h => by simp at h⟩
  cases h0 : ((numVal x0).isSome && decide (0 ≤ (numVal x0).getD 0) && decide ((numVal x0).getD 0 ≤ 4000))
  · have hn : gjmp (x0 :: ws) = none := by simp [gjmp, gIn_cons, h0]
    have hr : (runL [116] (x0 :: ws) (zeroI wJmp)).2 = false := by simp [runL, stepL, zeroI, h0]
    exact ⟨fun _ => .inl hn, fun _ => ⟨fun _ => hn, fun h => by rw [hr] at h; cases h⟩⟩
  rcases ws with _ | ⟨z, ws⟩
  · refine ⟨fun h => absurd rfl h, fun _ => ⟨fun h => ?_, fun _ => ?_⟩⟩
    · simp [runL, stepL, zeroI, h0] at h
    · refine ⟨_, by simp [gjmp, gIn_cons, h0]; rfl, ?_⟩
      simp [runL, stepL, zeroI, dOf, h0]
  · refine ⟨fun _ => .inr ?_, fun h => by simp at h⟩
    simp [gjmp, gIn_cons, h0]
theorem agree_jz : Agree [97, 116] wJz gjz := by
  intro ws
  rcases ws with _ | ⟨x0, ws⟩
  · exact ⟨fun _ => .inl (by simp [gjz, gVal_nil]), fun h => by simp at h⟩
  cases h0 : (valD x0).2
  · have hn : gjz (x0 :: ws) = none := by simp [gjz, gVal_cons, h0]
    have hr : (runL [97, 116] (x0 :: ws) (zeroI wJz)).2 = false := by simp [runL, stepL, zeroI, h0]
    exact ⟨fun _ => .inl hn, fun _ => ⟨fun _ => hn, fun h => by rw [hr] at h; cases h⟩⟩
  rcases ws with _ | ⟨x1, ws⟩
  · exact ⟨fun _ => .inl (by simp [gjz, gIn_nil, gVal_cons, h0]), fun h => by simp at h⟩
  cases h1 : ((numVal x1).isSome && decide (0 ≤ (numVal x1).getD 0) && decide ((numVal x1).getD 0 ≤ 4000))
  · have hn : gjz (x0 :: x1 :: ws) = none := by simp [gjz, gVal_cons, gIn_cons, h0, h1]
    have hr : (runL [97, 116] (x0 :: x1 :: ws) (zeroI wJz)).2 = false := by simp [runL, stepL, zeroI, h0, h1]
    exact ⟨fun _ => .inl hn, fun _ => ⟨fun _ => hn, fun h => by rw [hr] at h; cases h⟩⟩
  rcases ws with _ | ⟨z, ws⟩
  · refine ⟨fun h => absurd rfl h, fun _ => ⟨fun h => ?_, fun _ => ?_⟩⟩
    · simp [runL, stepL, zeroI, h0, h1] at h
    · refine ⟨_, by simp [gjz, gVal_cons, gIn_cons, h0, h1]; rfl, ?_⟩
      simp [runL, stepL, zeroI, dOf, h0, h1]
  · refine ⟨fun _ => .inr ?_, fun h => by simp at h⟩
    simp [gjz, gVal_cons, gIn_cons, h0, h1]
theorem agree_store : Agree [97, 107, 98] wStore gstore := by
  intro ws
  rcases ws with _ | ⟨x0, ws⟩
  · exact ⟨fun _ => .inl (by simp [gstore, gCell_nil]), fun h => by simp at h⟩
  cases h0 : (valD x0).2
  · have hn : gstore (x0 :: ws) = none := by simp [gstore, gCell_cons, h0]
    have hr : (runL [97, 107, 98] (x0 :: ws) (zeroI wStore)).2 = false := by simp [runL, stepL, zeroI, h0]
    exact ⟨fun _ => .inl hn, fun _ => ⟨fun _ => hn, fun h => by rw [hr] at h; cases h⟩⟩
  rcases ws with _ | ⟨x1, ws⟩
  · exact ⟨fun _ => .inl (by simp [gstore, gNum_nil, gCell_cons, h0]), fun h => by simp at h⟩
  cases h1 : (numVal x1).isSome
  · have hn : gstore (x0 :: x1 :: ws) = none := by simp [gstore, gNum_cons, gCell_cons, h0, h1]
    have hr : (runL [97, 107, 98] (x0 :: x1 :: ws) (zeroI wStore)).2 = false := by simp [runL, stepL, zeroI, h0, h1]
    exact ⟨fun _ => .inl hn, fun _ => ⟨fun _ => hn, fun h => by rw [hr] at h; cases h⟩⟩
  rcases ws with _ | ⟨x2, ws⟩
  · exact ⟨fun _ => .inl (by simp [gstore, gVal_nil, gNum_cons, gCell_cons, h0, h1]), fun h => by simp at h⟩
  cases h2 : (valD x2).2
  · have hn : gstore (x0 :: x1 :: x2 :: ws) = none := by simp [gstore, gVal_cons, gNum_cons, gCell_cons, h0, h1, h2]
    have hr : (runL [97, 107, 98] (x0 :: x1 :: x2 :: ws) (zeroI wStore)).2 = false := by simp [runL, stepL, zeroI, h0, h1, h2]
    exact ⟨fun _ => .inl hn, fun _ => ⟨fun _ => hn, fun h => by rw [hr] at h; cases h⟩⟩
  rcases ws with _ | ⟨z, ws⟩
  · refine ⟨fun h => absurd rfl h, fun _ => ⟨fun h => ?_, fun _ => ?_⟩⟩
    · simp [runL, stepL, zeroI, h0, h1, h2] at h
    · refine ⟨_, by simp [gstore, gVal_cons, gNum_cons, gCell_cons, h0, h1, h2]; rfl, ?_⟩
      simp [runL, stepL, zeroI, dOf, h0, h1, h2]
  · refine ⟨fun _ => .inr ?_, fun h => by simp at h⟩
    simp [gstore, gVal_cons, gNum_cons, gCell_cons, h0, h1, h2]
theorem agree_load : Agree [100, 97, 107] wLoad gload := by
  intro ws
  rcases ws with _ | ⟨x0, ws⟩
  · exact ⟨fun _ => .inl (by simp [gload, gReg_nil]), fun h => by simp at h⟩
  cases h0 : (regVal x0).isSome
  · have hn : gload (x0 :: ws) = none := by simp [gload, gReg_cons, h0]
    have hr : (runL [100, 97, 107] (x0 :: ws) (zeroI wLoad)).2 = false := by simp [runL, stepL, zeroI, h0]
    exact ⟨fun _ => .inl hn, fun _ => ⟨fun _ => hn, fun h => by rw [hr] at h; cases h⟩⟩
  rcases ws with _ | ⟨x1, ws⟩
  · exact ⟨fun _ => .inl (by simp [gload, gCell_nil, gReg_cons, h0]), fun h => by simp at h⟩
  cases h1 : (valD x1).2
  · have hn : gload (x0 :: x1 :: ws) = none := by simp [gload, gReg_cons, gCell_cons, h0, h1]
    have hr : (runL [100, 97, 107] (x0 :: x1 :: ws) (zeroI wLoad)).2 = false := by simp [runL, stepL, zeroI, h0, h1]
    exact ⟨fun _ => .inl hn, fun _ => ⟨fun _ => hn, fun h => by rw [hr] at h; cases h⟩⟩
  rcases ws with _ | ⟨x2, ws⟩
  · exact ⟨fun _ => .inl (by simp [gload, gNum_nil, gReg_cons, gCell_cons, h0, h1]), fun h => by simp at h⟩
  cases h2 : (numVal x2).isSome
  · have hn : gload (x0 :: x1 :: x2 :: ws) = none := by simp [gload, gReg_cons, gNum_cons, gCell_cons, h0, h1, h2]
    have hr : (runL [100, 97, 107] (x0 :: x1 :: x2 :: ws) (zeroI wLoad)).2 = false := by simp [runL, stepL, zeroI, h0, h1, h2]
    exact ⟨fun _ => .inl hn, fun _ => ⟨fun _ => hn, fun h => by rw [hr] at h; cases h⟩⟩
  rcases ws with _ | ⟨z, ws⟩
  · refine ⟨fun h => absurd rfl h, fun _ => ⟨fun h => ?_, fun _ => ?_⟩⟩
    · simp [runL, stepL, zeroI, h0, h1, h2] at h
    · refine ⟨_, by simp [gload, gReg_cons, gNum_cons, gCell_cons, h0, h1, h2]; rfl, ?_⟩
      simp [runL, stepL, zeroI, dOf, h0, h1, h2]
  · refine ⟨fun _ => .inr ?_, fun h => by simp at h⟩
    simp [gload, gReg_cons, gNum_cons, gCell_cons, h0, h1, h2]
theorem agree_xadd : Agree [100, 97, 107, 98] wXadd gxadd := by
  intro ws
  rcases ws with _ | ⟨x0, ws⟩
  · exact ⟨fun _ => .inl (by simp [gxadd, gReg_nil]), fun h => by simp at h⟩
  cases h0 : (regVal x0).isSome
  · have hn : gxadd (x0 :: ws) = none := by simp [gxadd, gReg_cons, h0]
    have hr : (runL [100, 97, 107, 98] (x0 :: ws) (zeroI wXadd)).2 = false := by simp [runL, stepL, zeroI, h0]
    exact ⟨fun _ => .inl hn, fun _ => ⟨fun _ => hn, fun h => by rw [hr] at h; cases h⟩⟩
  rcases ws with _ | ⟨x1, ws⟩
  · exact ⟨fun _ => .inl (by simp [gxadd, gCell_nil, gReg_cons, h0]), fun h => by simp at h⟩
  cases h1 : (valD x1).2
  · have hn : gxadd (x0 :: x1 :: ws) = none := by simp [gxadd, gReg_cons, gCell_cons, h0, h1]
    have hr : (runL [100, 97, 107, 98] (x0 :: x1 :: ws) (zeroI wXadd)).2 = false := by simp [runL, stepL, zeroI, h0, h1]
    exact ⟨fun _ => .inl hn, fun _ => ⟨fun _ => hn, fun h => by rw [hr] at h; cases h⟩⟩
  rcases ws with _ | ⟨x2, ws⟩
  · exact ⟨fun _ => .inl (by simp [gxadd, gNum_nil, gReg_cons, gCell_cons, h0, h1]), fun h => by simp at h⟩
  cases h2 : (numVal x2).isSome
  · have hn : gxadd (x0 :: x1 :: x2 :: ws) = none := by simp [gxadd, gReg_cons, gNum_cons, gCell_cons, h0, h1, h2]
    have hr : (runL [100, 97, 107, 98] (x0 :: x1 :: x2 :: ws) (zeroI wXadd)).2 = false := by simp [runL, stepL, zeroI, h0, h1, h2]
    exact ⟨fun _ => .inl hn, fun _ => ⟨fun _ => hn, fun h => by rw [hr] at h; cases h⟩⟩
  rcases ws with _ | ⟨x3, ws⟩
  · exact ⟨fun _ => .inl (by simp [gxadd, gVal_nil, gReg_cons, gNum_cons, gCell_cons, h0, h1, h2]), fun h => by simp at h⟩
  cases h3 : (valD x3).2
  · have hn : gxadd (x0 :: x1 :: x2 :: x3 :: ws) = none := by simp [gxadd, gReg_cons, gVal_cons, gNum_cons, gCell_cons, h0, h1, h2, h3]
    have hr : (runL [100, 97, 107, 98] (x0 :: x1 :: x2 :: x3 :: ws) (zeroI wXadd)).2 = false := by simp [runL, stepL, zeroI, h0, h1, h2, h3]
    exact ⟨fun _ => .inl hn, fun _ => ⟨fun _ => hn, fun h => by rw [hr] at h; cases h⟩⟩
  rcases ws with _ | ⟨z, ws⟩
  · refine ⟨fun h => absurd rfl h, fun _ => ⟨fun h => ?_, fun _ => ?_⟩⟩
    · simp [runL, stepL, zeroI, h0, h1, h2, h3] at h
    · refine ⟨_, by simp [gxadd, gReg_cons, gVal_cons, gNum_cons, gCell_cons, h0, h1, h2, h3]; rfl, ?_⟩
      simp [runL, stepL, zeroI, dOf, h0, h1, h2, h3]
  · refine ⟨fun _ => .inr ?_, fun h => by simp at h⟩
    simp [gxadd, gReg_cons, gVal_cons, gNum_cons, gCell_cons, h0, h1, h2, h3]
theorem agree_cas : Agree [100, 97, 107, 98, 99] wCas gcas := by
  intro ws
  rcases ws with _ | ⟨x0, ws⟩
  · exact ⟨fun _ => .inl (by simp [gcas, gReg_nil]), fun h => by simp at h⟩
  cases h0 : (regVal x0).isSome
  · have hn : gcas (x0 :: ws) = none := by simp [gcas, gReg_cons, h0]
    have hr : (runL [100, 97, 107, 98, 99] (x0 :: ws) (zeroI wCas)).2 = false := by simp [runL, stepL, zeroI, h0]
    exact ⟨fun _ => .inl hn, fun _ => ⟨fun _ => hn, fun h => by rw [hr] at h; cases h⟩⟩
  rcases ws with _ | ⟨x1, ws⟩
  · exact ⟨fun _ => .inl (by simp [gcas, gCell_nil, gReg_cons, h0]), fun h => by simp at h⟩
  cases h1 : (valD x1).2
  · have hn : gcas (x0 :: x1 :: ws) = none := by simp [gcas, gReg_cons, gCell_cons, h0, h1]
    have hr : (runL [100, 97, 107, 98, 99] (x0 :: x1 :: ws) (zeroI wCas)).2 = false := by simp [runL, stepL, zeroI, h0, h1]
    exact ⟨fun _ => .inl hn, fun _ => ⟨fun _ => hn, fun h => by rw [hr] at h; cases h⟩⟩
  rcases ws with _ | ⟨x2, ws⟩
  · exact ⟨fun _ => .inl (by simp [gcas, gNum_nil, gReg_cons, gCell_cons, h0, h1]), fun h => by simp at h⟩
  cases h2 : (numVal x2).isSome
  · have hn : gcas (x0 :: x1 :: x2 :: ws) = none := by simp [gcas, gReg_cons, gNum_cons, gCell_cons, h0, h1, h2]
    have hr : (runL [100, 97, 107, 98, 99] (x0 :: x1 :: x2 :: ws) (zeroI wCas)).2 = false := by simp [runL, stepL, zeroI, h0, h1, h2]
    exact ⟨fun _ => .inl hn, fun _ => ⟨fun _ => hn, fun h => by rw [hr] at h; cases h⟩⟩
  rcases ws with _ | ⟨x3, ws⟩
  · exact ⟨fun _ => .inl (by simp [gcas, gVal_nil, gReg_cons, gNum_cons, gCell_cons, h0, h1, h2]), fun h => by simp at h⟩
  cases h3 : (valD x3).2
  · have hn : gcas (x0 :: x1 :: x2 :: x3 :: ws) = none := by simp [gcas, gReg_cons, gVal_cons, gNum_cons, gCell_cons, h0, h1, h2, h3]
    have hr : (runL [100, 97, 107, 98, 99] (x0 :: x1 :: x2 :: x3 :: ws) (zeroI wCas)).2 = false := by simp [runL, stepL, zeroI, h0, h1, h2, h3]
    exact ⟨fun _ => .inl hn, fun _ => ⟨fun _ => hn, fun h => by rw [hr] at h; cases h⟩⟩
  rcases ws with _ | ⟨x4, ws⟩
  · exact ⟨fun _ => .inl (by simp [gcas, gVal_nil, gReg_cons, gVal_cons, gNum_cons, gCell_cons, h0, h1, h2, h3]), fun h => by simp at h⟩
  cases h4 : (valD x4).2
  · have hn : gcas (x0 :: x1 :: x2 :: x3 :: x4 :: ws) = none := by simp [gcas, gReg_cons, gVal_cons, gNum_cons, gCell_cons, h0, h1, h2, h3, h4]
    have hr : (runL [100, 97, 107, 98, 99] (x0 :: x1 :: x2 :: x3 :: x4 :: ws) (zeroI wCas)).2 = false := by simp [runL, stepL, zeroI, h0, h1, h2, h3, h4]
    exact ⟨fun _ => .inl hn, fun _ => ⟨fun _ => hn, fun h => by rw [hr] at h; cases h⟩⟩
  rcases ws with _ | ⟨z, ws⟩
  · refine ⟨fun h => absurd rfl h, fun _ => ⟨fun h => ?_, fun _ => ?_⟩⟩
    · simp [runL, stepL, zeroI, h0, h1, h2, h3, h4] at h
    · refine ⟨_, by simp [gcas, gReg_cons, gVal_cons, gNum_cons, gCell_cons, h0, h1, h2, h3, h4]; rfl, ?_⟩
      simp [runL, stepL, zeroI, dOf, h0, h1, h2, h3, h4]
  · refine ⟨fun _ => .inr ?_, fun h => by simp at h⟩
    simp [gcas, gReg_cons, gVal_cons, gNum_cons, gCell_cons, h0, h1, h2, h3, h4]
theorem agree_op (op : Nat) : Agree [100, 97, 98] (opWords op) (gop op) := by
  intro ws
  rcases ws with _ | ⟨x0, ws⟩
  · exact ⟨fun _ => .inl (by simp [gop, gReg_nil]), fun h => by simp at h⟩
  cases h0 : (regVal x0).isSome
  · have hn : (gop op) (x0 :: ws) = none := by simp [gop, gReg_cons, h0]
    have hr : (runL [100, 97, 98] (x0 :: ws) (zeroI (opWords op))).2 = false := by simp [runL, stepL, zeroI, h0]
    exact ⟨fun _ => .inl hn, fun _ => ⟨fun _ => hn, fun h => by rw [hr] at h; cases h⟩⟩
  rcases ws with _ | ⟨x1, ws⟩
  · exact ⟨fun _ => .inl (by simp [gop, gVal_nil, gReg_cons, h0]), fun h => by simp at h⟩
  cases h1 : (valD x1).2
  · have hn : (gop op) (x0 :: x1 :: ws) = none := by simp [gop, gReg_cons, gVal_cons, h0, h1]
    have hr : (runL [100, 97, 98] (x0 :: x1 :: ws) (zeroI (opWords op))).2 = false := by simp [runL, stepL, zeroI, h0, h1]
    exact ⟨fun _ => .inl hn, fun _ => ⟨fun _ => hn, fun h => by rw [hr] at h; cases h⟩⟩
  rcases ws with _ | ⟨x2, ws⟩
  · exact ⟨fun _ => .inl (by simp [gop, gVal_nil, gReg_cons, gVal_cons, h0, h1]), fun h => by simp at h⟩
  cases h2 : (valD x2).2
  · have hn : (gop op) (x0 :: x1 :: x2 :: ws) = none := by simp [gop, gReg_cons, gVal_cons, h0, h1, h2]
    have hr : (runL [100, 97, 98] (x0 :: x1 :: x2 :: ws) (zeroI (opWords op))).2 = false := by simp [runL, stepL, zeroI, h0, h1, h2]
    exact ⟨fun _ => .inl hn, fun _ => ⟨fun _ => hn, fun h => by rw [hr] at h; cases h⟩⟩
  rcases ws with _ | ⟨z, ws⟩
  · refine ⟨fun h => absurd rfl h, fun _ => ⟨fun h => ?_, fun _ => ?_⟩⟩
    · simp [runL, stepL, zeroI, h0, h1, h2] at h
    · refine ⟨_, by simp [gop, gReg_cons, gVal_cons, h0, h1, h2]; rfl, ?_⟩
      simp [runL, stepL, zeroI, dOf, h0, h1, h2]
  · refine ⟨fun _ => .inr ?_, fun h => by simp at h⟩
    simp [gop, gReg_cons, gVal_cons, h0, h1, h2]
theorem agree_trap : Agree [110] wTrap gtrap := by
  intro ws
  rcases ws with _ | ⟨x0, ws⟩
  · exact ⟨fun _ => .inl (by simp [gtrap, gIn_nil]), fun h => by simp at h⟩
  cases h0 : ((numVal x0).isSome && decide (1 ≤ (numVal x0).getD 0) && decide ((numVal x0).getD 0 ≤ 9))
  · have hn : gtrap (x0 :: ws) = none := by simp [gtrap, gIn_cons, h0]
    have hr : (runL [110] (x0 :: ws) (zeroI wTrap)).2 = false := by simp [runL, stepL, zeroI, h0]
    exact ⟨fun _ => .inl hn, fun _ => ⟨fun _ => hn, fun h => by rw [hr] at h; cases h⟩⟩
  rcases ws with _ | ⟨z, ws⟩
  · refine ⟨fun h => absurd rfl h, fun _ => ⟨fun h => ?_, fun _ => ?_⟩⟩
    · simp [runL, stepL, zeroI, h0] at h
    · refine ⟨_, by simp [gtrap, gIn_cons, h0]; rfl, ?_⟩
      simp only [Bool.and_eq_true, decide_eq_true_eq] at h0
      have hne : ¬ (numVal x0).getD 0 = 10 := by omega
      simp [runL, stepL, zeroI, dOf, h0.1.1, h0.1.2, h0.2, hne]
  · refine ⟨fun _ => .inr ?_, fun h => by simp at h⟩
    simp [gtrap, gIn_cons, h0]

/-- Which words have a form, and which. -/
def FormIs (u f : ByteArray) (g : List ByteArray → Option (Ic × List ByteArray)) : Prop :=
  (∃ k, opIx u = some k ∧ f = ⟨#[100, 97, 98]⟩ ∧ g = gop k) ∨
  (∃ (n : Nat) (hn : n < 11), opIx u = none ∧ cWords[n]'hn = u ∧ (∀ j (h : j < n), cWords[j]'(Nat.lt_trans h hn) ≠ u) ∧ f = cForms[n]'hn ∧ Agree (cForms[n]'hn).data.toList u g ∧ ∀ ws, gIns u ws = g ws)

theorem gIns_word {u : ByteArray} (h : opIx u = none) (ws : List ByteArray) : gIns u ws = (if u = wMov then gmov ws else if u = wLoad then gload ws else if u = wStore then gstore ws else if u = wCas then gcas ws else if u = wXadd then gxadd ws else if u = wFence then gfence ws
    else if u = wOut then gout ws else if u = wJmp then gjmp ws else if u = wJz then gjz ws else if u = wTrap then gtrap ws else if u = wHalt then ghalt ws else none) := by
  unfold gIns
  rw [h]

theorem op_none_word : ∀ n (hn : n < 11), opIx (cWords[n]'hn) = none := by decide

theorem form_cases (u : ByteArray) : (∃ f g, FormIs u f g) ∨ (opIx u = none ∧ (∀ j (h : j < cWords.length), cWords[j] ≠ u) ∧ ∀ ws, gIns u ws = none) := by
  cases ho : opIx u with
  | some k => exact .inl ⟨_, _, .inl ⟨k, ho, rfl, rfl⟩⟩
  | none =>
    have hi := gIns_word ho
    by_cases e0 : u = wMov
    · subst e0; exact .inl ⟨_, _, .inr ⟨0, by decide, ho, rfl, by decide, rfl, agree_mov, fun ws => by rw [hi]; rfl⟩⟩
    by_cases e1 : u = wLoad
    · subst e1; exact .inl ⟨_, _, .inr ⟨1, by decide, ho, rfl, by decide, rfl, agree_load, fun ws => by rw [hi]; rfl⟩⟩
    by_cases e2 : u = wStore
    · subst e2; exact .inl ⟨_, _, .inr ⟨2, by decide, ho, rfl, by decide, rfl, agree_store, fun ws => by rw [hi]; rfl⟩⟩
    by_cases e3 : u = wCas
    · subst e3; exact .inl ⟨_, _, .inr ⟨3, by decide, ho, rfl, by decide, rfl, agree_cas, fun ws => by rw [hi]; rfl⟩⟩
    by_cases e4 : u = wXadd
    · subst e4; exact .inl ⟨_, _, .inr ⟨4, by decide, ho, rfl, by decide, rfl, agree_xadd, fun ws => by rw [hi]; rfl⟩⟩
    by_cases e5 : u = wFence
    · subst e5; exact .inl ⟨_, _, .inr ⟨5, by decide, ho, rfl, by decide, rfl, agree_fence, fun ws => by rw [hi]; rfl⟩⟩
    by_cases e6 : u = wOut
    · subst e6; exact .inl ⟨_, _, .inr ⟨6, by decide, ho, rfl, by decide, rfl, agree_out, fun ws => by rw [hi]; rfl⟩⟩
    by_cases e7 : u = wJmp
    · subst e7; exact .inl ⟨_, _, .inr ⟨7, by decide, ho, rfl, by decide, rfl, agree_jmp, fun ws => by rw [hi]; rfl⟩⟩
    by_cases e8 : u = wJz
    · subst e8; exact .inl ⟨_, _, .inr ⟨8, by decide, ho, rfl, by decide, rfl, agree_jz, fun ws => by rw [hi]; rfl⟩⟩
    by_cases e9 : u = wTrap
    · subst e9; exact .inl ⟨_, _, .inr ⟨9, by decide, ho, rfl, by decide, rfl, agree_trap, fun ws => by rw [hi]; rfl⟩⟩
    by_cases e10 : u = wHalt
    · subst e10; exact .inl ⟨_, _, .inr ⟨10, by decide, ho, rfl, by decide, rfl, agree_halt, fun ws => by rw [hi]; rfl⟩⟩
    refine .inr ⟨rfl, ?_, fun ws => by rw [hi, if_neg e0, if_neg e1, if_neg e2, if_neg e3, if_neg e4, if_neg e5, if_neg e6, if_neg e7, if_neg e8, if_neg e9, if_neg e10]⟩
    intro j hj
    have hj' : j < 11 := hj
    have hc : j = 0 ∨ j = 1 ∨ j = 2 ∨ j = 3 ∨ j = 4 ∨ j = 5 ∨ j = 6 ∨ j = 7 ∨ j = 8 ∨ j = 9 ∨ j = 10 := by omega
    rcases hc with rfl | rfl | rfl | rfl | rfl | rfl | rfl | rfl | rfl | rfl | rfl
    · exact fun e => e0 e.symm
    · exact fun e => e1 e.symm
    · exact fun e => e2 e.symm
    · exact fun e => e3 e.symm
    · exact fun e => e4 e.symm
    · exact fun e => e5 e.symm
    · exact fun e => e6 e.symm
    · exact fun e => e7 e.symm
    · exact fun e => e8 e.symm
    · exact fun e => e9 e.symm
    · exact fun e => e10 e.symm

theorem opIx_first {u : ByteArray} {k : Nat} (h : opIx u = some k) : ∀ j, j < k → opWords j ≠ u := by
  intro j hj e
  unfold opIx at h
  obtain ⟨h1, xs, ys, h2, h3⟩ := List.find?_eq_some_iff_append.1 h
  have hk : xs.length = k := by
    have hlen : xs.length < 12 := by have := congrArg List.length h2; simp at this; omega
    have := congrArg (fun l => l[xs.length]?) h2
    simp [hlen] at this
    exact this
  have : xs[j]? = some j := by
    have := congrArg (fun l => l[j]?) h2
    simp [List.getElem?_append_left (show j < xs.length by omega)] at this
    rw [← this]
    have : j < 12 := by have := congrArg List.length h2; simp at this; omega
    simp [this]
  have := h3 j (List.mem_of_getElem? this)
  simp [e] at this

theorem form_letters (n : Nat) (hn : n < 11) : ∀ j (h : j < (cForms[n]'hn).size), (cForms[n]'hn)[j] = 100 ∨ (cForms[n]'hn)[j] = 97 ∨ (cForms[n]'hn)[j] = 98 ∨ (cForms[n]'hn)[j] = 99 ∨ (cForms[n]'hn)[j] = 107 ∨ (cForms[n]'hn)[j] = 116 ∨ (cForms[n]'hn)[j] = 110 := by
  have key : ∀ n (hn : n < 11), ∀ b ∈ (cForms[n]'hn).data.toList, b = 100 ∨ b = 97 ∨ b = 98 ∨ b = 99 ∨ b = 107 ∨ b = 116 ∨ b = 110 := by decide
  intro j h
  refine key n hn _ ?_
  rw [ByteArray.getElem_eq_getElem_data]
  simp
theorem form_size : ∀ n (hn : n < 11), (cForms[n]'hn).size ≤ 5 := by decide
theorem form_not : ∀ n (hn : n < 11), ((cForms[n]'hn).data.toList == [63]) = false := by decide
end Go.Proofs.YtfhkfnoajbbfdaaGreatDoor

/- The document's ins, whatever the words are. -/
namespace Go.Proofs.YtfhkfnoajbbfdaaGreatDoor
open Go.RowKit

section
variable (w : World) (b c : Nat) (u : ByteArray) (ws : List ByteArray)

set_option maxRecDepth 100000 in
set_option maxHeartbeats 1000000 in
theorem cIns_len (f : ByteArray) (hq : (f.toList == [63]) = false) (hf : f.size ≤ 5) (hl : ws.length ≠ f.size) (hb : b < w.heap.size) (hw : Hid (StrsAt w b (u :: ws)))
    (hform : Hid (∀ W, Calls Tryz.prog 131 #[.string u] W fun e w' => e = .returned (.string f) ∧ Below W.heap.size W w')) :
    Calls Tryz.prog 101 #[.slice (some ⟨b, 0, none⟩) (ws.length + 1) c] w fun e w' => (∃ i, e = .returned (.tuple #[encDI i, .bool false])) ∧ Below w.heap.size w w' := by
  have h0 : w.cell? ⟨b, 0, none⟩ = some (.string u) := hw.out 0 (by simp)
  go_enter Tryz.func101, Tryz.ntmps101
  go_wp2_with fail
  generalize hA : w.alloc _ = WA
  generalize hB : WA.alloc _ = WB
  have sA : WA.heap.size = w.heap.size + 1 := by rw [← hA]; simp
  have bA : Below w.heap.size w WB := by rw [← hB, ← hA]; exact ((Below.refl _ w).alloc (Nat.le_refl _) _).alloc (by simp) _
  have sB : WB.heap.size = w.heap.size + 2 := by rw [← hB]; simp [sA]
  have dI : DIAt WB (w.heap.size + 1) (zeroI u) := by rw [← hB, ← sA]; exact DIAt.new WA (zeroI u) 127
  have dR : DIAt WB w.heap.size (zeroI ⟨#[]⟩) := by rw [← hB]; exact (by rw [← hA]; exact DIAt.new w (zeroI ⟨#[]⟩) 127 : DIAt WA w.heap.size (zeroI ⟨#[]⟩)).below ((Below.refl WA.heap.size WA).alloc (Nat.le_refl _) _) (by omega)
  have fR : ∀ j, WB.frozen? ⟨w.heap.size, j, none⟩ = false := by intro j; rw [← hB, World.frozen?_alloc_past _ _ _ (by omega), ← hA]; simp
  clear hA hB
  refine (hform.out WB).mono ?_
  rintro e W1 ⟨rfl, b1⟩
  obtain ⟨i0, i1, i2, i3, i4, i5, i6, i7, i8⟩ := dI.below b1 (by omega)
  obtain ⟨r0, r1, r2, r3, r4, r5, r6, r7, r8⟩ := dR.below b1 (by omega)
  have f : ∀ j, W1.frozen? ⟨w.heap.size, j, none⟩ = false := fun j => (b1.frozen (p := ⟨w.heap.size, j, none⟩) (by show w.heap.size < _; omega)).trans (fR j)
  have f0 := f 0
  have f1 := f 1
  have f2 := f 2
  have f3 := f 3
  have f4 := f 4
  have f5 := f 5
  have f6 := f 6
  have f7 := f 7
  have f8 := f 8
  have B1 := hid b1
  have BA := hid bA
  clear b1 bA f fR dI dR
  simp only [zeroI] at i0 i1 i2 i3 i4 i5 i6 i7 i8 r0 r1 r2 r3 r4 r5 r6 r7 r8
  have hq' : ¬ f.toList = [63] := by simpa using hq
  have hlen : ((ws.length : Int) + 1 != 1 + (f.size : Int)) = true := by simp; omega
  go_wp2
  have hR : DIAt W1 w.heap.size (zeroI ⟨#[]⟩) := ⟨r0, r1, r2, r3, r4, r5, r6, r7, r8⟩
  obtain ⟨q0, q1, q2, q3, q4, q5, q6, q7, q8⟩ := setDI_at hR (zeroI u)
  have hbel := below_setDI (BA.out.trans (B1.out.mono (by omega))) (Nat.le_refl w.heap.size) (zeroI u)
  refine ⟨rfl, .tuple #[encDI (zeroI u), .bool false], ?_, ⟨_, rfl⟩, hbel⟩
  change (results _ _).run _ (setDI W1 w.heap.size (zeroI u)) = .ok _ (setDI W1 w.heap.size (zeroI u))
  generalize setDI W1 w.heap.size (zeroI u) = W' at *
  simp [results, Tryz.results101, go_sem, q0, q1, q2, q3, q4, q5, q6, q7, q8, encDI, zeroI]

/-- What ins tells of words. -/
def InsRes (u : ByteArray) (us : List ByteArray) (i : DI) (ok : Bool) : Prop :=
  (ok = false ∧ (gIns u us = none ∨ ∃ ic x xs, gIns u us = some (ic, x :: xs))) ∨ (ok = true ∧ ∃ ic, gIns u us = some (ic, []) ∧ i = dOf ic)

theorem cIns_via (f : ByteArray) (g : List ByteArray → Option (Ic × List ByteArray)) (hf : f.size ≤ 5) (hq : (f.data.toList == [63]) = false) (hb : b < w.heap.size) (hw : StrsAt w b (u :: ws))
    (hlet : ∀ j (h : j < f.size), f[j] = 100 ∨ f[j] = 97 ∨ f[j] = 98 ∨ f[j] = 99 ∨ f[j] = 107 ∨ f[j] = 116 ∨ f[j] = 110)
    (hform : ∀ W, Calls Tryz.prog 131 #[.string u] W fun e w' => e = .returned (.string f) ∧ Below W.heap.size W w')
    (ha : Agree f.data.toList u g) (hg : ∀ us, gIns u us = g us) :
    Calls Tryz.prog 101 #[.slice (some ⟨b, 0, none⟩) (ws.length + 1) c] w fun e w' => (∃ i ok, e = .returned (.tuple #[encDI i, .bool ok]) ∧ InsRes u ws i ok) ∧ Below w.heap.size w w' := by
  have hq' : (f.toList == [63]) = false := by rw [ByteArray.toList_eq]; exact hq
  have hfl : f.data.toList.length = f.size := by rw [Array.length_toList]; rfl
  by_cases hl : ws.length = f.size
  · refine (cIns_form w b c u ws f hf hq' hb hw hl hlet hform).mono ?_
    rintro e w' ⟨rfl, hb'⟩
    refine ⟨⟨_, _, rfl, ?_⟩, hb'⟩
    obtain ⟨h1, h2⟩ := (ha ws).2 (by omega)
    cases hr : (runL f.data.toList ws (zeroI u)).2 with
    | false => exact .inl ⟨rfl, .inl (by rw [hg]; exact h1 hr)⟩
    | true =>
      obtain ⟨ic, h3, h4⟩ := h2 hr
      exact .inr ⟨rfl, ic, by rw [hg]; exact h3, h4⟩
  · refine (cIns_len w b c u ws f hq' hf hl hb hw hform).mono ?_
    rintro e w' ⟨⟨i, rfl⟩, hb'⟩
    exact ⟨⟨i, false, rfl, .inl ⟨rfl, by rw [hg]; exact (ha ws).1 (by omega)⟩⟩, hb'⟩

theorem cIns_any (hb : b < w.heap.size) (hw : StrsAt w b (u :: ws)) :
    Calls Tryz.prog 101 #[.slice (some ⟨b, 0, none⟩) (ws.length + 1) c] w fun e w' => (∃ i ok, e = .returned (.tuple #[encDI i, .bool ok]) ∧ InsRes u ws i ok) ∧ Below w.heap.size w w' := by
  rcases form_cases u with ⟨f, g, hF⟩ | ⟨h1, h2, h3⟩
  · rcases hF with ⟨k, h, rfl, rfl⟩ | ⟨n, hn, h, hw', hf, rfl, ha, hg⟩
    · have hg : ∀ us, gIns u us = gop k us := fun us => by unfold gIns; rw [h]
      obtain ⟨hk, hu⟩ := opIx_some h
      have ha := agree_op k
      rw [hu] at ha
      refine cIns_via w b c u ws ⟨#[100, 97, 98]⟩ (gop k) (by decide) (by decide) hb hw ?_ (fun W => cForm_verb W u k hk (opIx_first h) hu) ha hg
      intro j hj
      have hj' : j < 3 := hj
      have hc : j = 0 ∨ j = 1 ∨ j = 2 := by omega
      rcases hc with rfl | rfl | rfl
      · exact .inl rfl
      · exact .inr (.inl rfl)
      · exact .inr (.inr (.inl rfl))
    · exact cIns_via w b c u ws _ g (form_size n hn) (form_not n hn) hb hw (form_letters n hn) (fun W => cForm_word W u (opIx_none h) n hn hf hw') ha hg
  · refine (cIns_none w b c u ws hb hw (opIx_none h1) h2).mono ?_
    rintro e w' ⟨⟨i, rfl⟩, hb'⟩
    exact ⟨⟨i, false, rfl, .inl ⟨rfl, .inl (h3 ws)⟩⟩, hb'⟩
end
end Go.Proofs.YtfhkfnoajbbfdaaGreatDoor
