import Derived.Test.YtfhkfnoajbbfdabGreatDoorPart21
import Derived.Deep.RegionHeld3
/- The coder: a block's beginning, a cell read, what is given out. -/
namespace Go.Proofs.YtfhkfnoajbbfdabGreatDoor
open Go.RowKit

section
variable {W w w' : World} {x : Cx} {K : List (Nat × Nat × Value)} {m : Cm} {c : Nat} {s : Ck}

theorem Cw.blk (h : Cw W x K w c s) {k : Bk} (hk : s.blk = some k) : ∃ b, w.cell? ⟨c, 5, none⟩ = some (ptr b) ∧ w.cell? ⟨b, 17, none⟩ = some (.int .i64 k.again) := by
  obtain ⟨m, h⟩ := h
  refine ⟨m.b, ?_, (h.bk k hk).ag⟩
  rw [h.c5]
  simp only [blkV, hk]

set_option maxRecDepth 100000 in
set_option maxHeartbeats 2000000 in
theorem begin1_c (h : Cw W x K w c s) {bx : Nat} (hbx : (bx, 0, ptr c) ∈ K) {n : Int} (h0 : 0 ≤ n) (h1 : n ≤ 6) (hG : s.g + 100 < 10000000) :
    Calls Tryz.prog 217 #[.int .i64 n, ptr bx] w fun e w' => e = .returned (.tuple #[]) ∧ Cw W x K w' c (s.add [yStore, y0, x.own (32 + n), regW (n)]) := by
  have hth := h.th
  have cb := h.kept hbx
  have H0 := hid h
  clear h
  have q32 : IntKind.i64.wrap (32 + n) = 32 + n := by rw [IntKind.wrap_i64]; omega
  go_enter Tryz.func217, Tryz.ntmps217
  go_wp2_with fail
  go_region_held3 (fun w' => w'.cell? ⟨bx, 0, none⟩ = some (ptr c)) (go_keep)
    (first
      | (go_at_call 188; refine (own_c H0.out.drew (32 + n) (by omega) (by omega)).mono ?_; rintro e wj0 ⟨rfl, q⟩; have HJ0 := hid q; clear q; have cbj0 := HJ0.out.kept hbx)
      | (go_at_call 184; refine (register_c HJ0.out n (by omega) (by omega)).mono ?_; rintro e wj1 ⟨rfl, q⟩; have HJ1 := hid q; clear q; have cbj1 := HJ1.out.kept hbx)
      | (go_at_call 103; refine (add_new HJ1.out [yStore, y0, x.own (32 + n), regW (n)] (by simp) ⟨by decide, by decide, szOwn hth _ (by omega) (by omega), szReg _ (by omega) (by omega), trivial⟩ (by show s.g + 0 < _; omega)).mono ?_; rintro e w1 ⟨rfl, q⟩; have H1 := hid q; clear q; have cbh1 := H1.out.kept hbx))
  go_wp2
  go_end0
  exact ⟨rfl, H1.out⟩

set_option maxRecDepth 100000 in
set_option maxHeartbeats 2000000 in
theorem begin2_c (h : Cw W x K w c s) {bx : Nat} (hbx : (bx, 0, ptr c) ∈ K) {n : Int} (h0 : 0 ≤ n) (h1 : n ≤ 6) (hG : s.g + 100 < 10000000) :
    Calls Tryz.prog 218 #[.int .i64 n, ptr bx] w fun e w' => e = .returned (.tuple #[]) ∧ Cw W x K w' c (s.add [yLoad, regW (n), y0, x.own (32 + n)]) := by
  have hth := h.th
  have cb := h.kept hbx
  have H0 := hid h
  clear h
  have q32 : IntKind.i64.wrap (32 + n) = 32 + n := by rw [IntKind.wrap_i64]; omega
  go_enter Tryz.func218, Tryz.ntmps218
  go_wp2_with fail
  go_region_held3 (fun w' => w'.cell? ⟨bx, 0, none⟩ = some (ptr c)) (go_keep)
    (first
      | (go_at_call 184; refine (register_c H0.out.drew n (by omega) (by omega)).mono ?_; rintro e wj0 ⟨rfl, q⟩; have HJ0 := hid q; clear q; have cbj0 := HJ0.out.kept hbx)
      | (go_at_call 188; refine (own_c HJ0.out (32 + n) (by omega) (by omega)).mono ?_; rintro e wj1 ⟨rfl, q⟩; have HJ1 := hid q; clear q; have cbj1 := HJ1.out.kept hbx)
      | (go_at_call 103; refine (add_new HJ1.out [yLoad, regW (n), y0, x.own (32 + n)] (by simp) ⟨by decide, szReg _ (by omega) (by omega), by decide, szOwn hth _ (by omega) (by omega), trivial⟩ (by show s.g + 0 < _; omega)).mono ?_; rintro e w1 ⟨rfl, q⟩; have H1 := hid q; clear q; have cbh1 := H1.out.kept hbx))
  go_wp2
  go_end0
  exact ⟨rfl, H1.out⟩

set_option maxRecDepth 100000 in
set_option maxHeartbeats 2000000 in
theorem begin3_c (h : Cw W x K w c s) {bx : Nat} (hbx : (bx, 0, ptr c) ∈ K) {n : Int} (h0 : 0 ≤ n) (h1 : n ≤ 6) (hG : s.g + 100 < 10000000) :
    Calls Tryz.prog 221 #[.int .i64 n, ptr bx] w fun e w' => e = .returned (.tuple #[]) ∧ Cw W x K w' c (s.add [yStore, y0, x.own (6 + n), y0]) := by
  have hth := h.th
  have cb := h.kept hbx
  have H0 := hid h
  clear h
  have q6 : IntKind.i64.wrap (6 + n) = 6 + n := by rw [IntKind.wrap_i64]; omega
  go_enter Tryz.func221, Tryz.ntmps221
  go_wp2_with fail
  go_region_held3 (fun w' => w'.cell? ⟨bx, 0, none⟩ = some (ptr c)) (go_keep)
    (first
      | (go_at_call 188; refine (own_c H0.out.drew (6 + n) (by omega) (by omega)).mono ?_; rintro e wj0 ⟨rfl, q⟩; have HJ0 := hid q; clear q; have cbj0 := HJ0.out.kept hbx)
      | (go_at_call 103; refine (add_new HJ0.out [yStore, y0, x.own (6 + n), y0] (by simp) ⟨by decide, by decide, szOwn hth _ (by omega) (by omega), by decide, trivial⟩ (by show s.g + 0 < _; omega)).mono ?_; rintro e w1 ⟨rfl, q⟩; have H1 := hid q; clear q; have cbh1 := H1.out.kept hbx))
  go_wp2
  go_end0
  exact ⟨rfl, H1.out⟩

set_option maxRecDepth 100000 in
set_option maxHeartbeats 2000000 in
theorem begin4_c (h : Cw W x K w c s) {bx : Nat} (hbx : (bx, 0, ptr c) ∈ K) {n : Int} (h0 : 0 ≤ n) (h1 : n ≤ 6) (hG : s.g + 100 < 10000000) :
    Calls Tryz.prog 222 #[.int .i64 n, ptr bx] w fun e w' => e = .returned (.tuple #[]) ∧ Cw W x K w' c (s.add [yStore, y0, x.own (12 + n), y0]) := by
  have hth := h.th
  have cb := h.kept hbx
  have H0 := hid h
  clear h
  have q12 : IntKind.i64.wrap (12 + n) = 12 + n := by rw [IntKind.wrap_i64]; omega
  go_enter Tryz.func222, Tryz.ntmps222
  go_wp2_with fail
  go_region_held3 (fun w' => w'.cell? ⟨bx, 0, none⟩ = some (ptr c)) (go_keep)
    (first
      | (go_at_call 188; refine (own_c H0.out.drew (12 + n) (by omega) (by omega)).mono ?_; rintro e wj0 ⟨rfl, q⟩; have HJ0 := hid q; clear q; have cbj0 := HJ0.out.kept hbx)
      | (go_at_call 103; refine (add_new HJ0.out [yStore, y0, x.own (12 + n), y0] (by simp) ⟨by decide, by decide, szOwn hth _ (by omega) (by omega), by decide, trivial⟩ (by show s.g + 0 < _; omega)).mono ?_; rintro e w1 ⟨rfl, q⟩; have H1 := hid q; clear q; have cbh1 := H1.out.kept hbx))
  go_wp2
  go_end0
  exact ⟨rfl, H1.out⟩

set_option maxRecDepth 100000 in
set_option maxHeartbeats 2000000 in
theorem read_c (h : Cw W x K w c s) {k : Bk} (hk : s.blk = some k) {to u : ByteArray} (hto : to.size ≤ 30) (hu : u.size ≤ 30) {n : Int} (h0 : 0 ≤ n) (h1 : n ≤ 6) (hA : k.again < 100000000) (hG : s.g + 100 < 10000000) :
    Calls Tryz.prog 187 #[ptr c, .string to, .string u, .int .i64 n] w fun e w' => e = .returned (.tuple #[]) ∧ Cw W x K w' c (x.readC to u n s) := by
  have hth := h.th
  obtain ⟨b, c5, c17⟩ := h.blk hk
  have hR : x.readC to u n s = (((gIsEarly u n (((gIsEarly u n s).add [yJz, yR4, dec k.again]).add [yLoad, yR5, u, dec n])).add [yJz, yR4, dec k.again]).add [yStore, u, x.own (12 + n), y1]).add [yMov, to, yR5] := by simp only [Cx.readC, bk_of hk]
  rw [hR]
  have hdk := szDec (k.again : Int) (by omega) (by omega)
  have H0 := hid h
  clear h hR
  have q12 : IntKind.i64.wrap (12 + n) = 12 + n := by rw [IntKind.wrap_i64]; omega
  go_enter Tryz.func187, Tryz.ntmps187
  go_wp2_with fail
  refine (itoa_c H0.out k.again (by omega) (by omega)).mono ?_
  rintro e w1 ⟨rfl, q⟩
  have H1 := hid q
  clear q
  clear c5 c17
  go_wp2_with fail
  refine (isEarly_c H1.out hu h0 (by omega) (by show s.g + 0 + 2 < _; omega)).mono ?_
  rintro e w2 ⟨rfl, q⟩
  have H2 := hid q
  clear q
  go_wp2_with fail
  refine (add_new H2.out [yJz, yR4, dec k.again] (by simp) ⟨by decide, by decide, hdk, trivial⟩ (by show s.g + 2 < _; omega)).mono ?_
  rintro e w3 ⟨rfl, q⟩
  have H3 := hid q
  clear q
  go_wp2_with fail
  go_region_law (first
    | (go_simp; go_at_call 214; refine (shared_c H3.out.drew n (by omega) (by omega)).mono ?_; rintro e wj0 ⟨rfl, q⟩; have HJ0 := hid q; clear q)
    | (go_simp; go_at_call 103; refine (add_new HJ0.out [yLoad, yR5, u, dec (n)] (by simp) ⟨by decide, by decide, hu, szDec _ (by omega) (by omega), trivial⟩ (by show s.g + 3 < _; omega)).mono ?_; rintro e w4 ⟨rfl, q⟩; have H4 := hid q; clear q))
  go_wp2_with fail
  refine (isEarly_c H4.out hu h0 (by omega) (by show s.g + 4 + 2 < _; omega)).mono ?_
  rintro e w5 ⟨rfl, q⟩
  have H5 := hid q
  clear q
  go_wp2_with fail
  refine (add_new H5.out [yJz, yR4, dec k.again] (by simp) ⟨by decide, by decide, hdk, trivial⟩ (by show s.g + 6 < _; omega)).mono ?_
  rintro e w6 ⟨rfl, q⟩
  have H6 := hid q
  clear q
  go_wp2_with fail
  go_region_law (first
    | (go_simp; go_at_call 188; refine (own_c H6.out.drew (12 + n) (by omega) (by omega)).mono ?_; rintro e wj1 ⟨rfl, q⟩; have HJ1 := hid q; clear q)
    | (go_simp; go_at_call 103; refine (add_new HJ1.out [yStore, u, x.own (12 + n), y1] (by simp) ⟨by decide, hu, szOwn hth _ (by omega) (by omega), by decide, trivial⟩ (by show s.g + 7 < _; omega)).mono ?_; rintro e w7 ⟨rfl, q⟩; have H7 := hid q; clear q))
  go_wp2_with fail
  refine (add_new H7.out [yMov, to, yR5] (by simp) ⟨by decide, hto, by decide, trivial⟩ (by show s.g + 8 < _; omega)).mono ?_
  rintro e w8 ⟨rfl, q⟩
  have H8 := hid q
  clear q
  go_wp2
  go_end0
  exact ⟨rfl, H8.out⟩

end
end Go.Proofs.YtfhkfnoajbbfdabGreatDoor

/- The coder: what is given out; whether there is such a cell. -/
namespace Go.Proofs.YtfhkfnoajbbfdabGreatDoor
open Go.RowKit

/-- The cells of a variable of one's own. -/
def boxK (b : Nat) : List Value → Nat → List (Nat × Nat × Value)
  | [], _ => []
  | v :: r, i => (b, i, v) :: boxK b r (i + 1)

section
variable {W w w' : World} {x : Cx} {K : List (Nat × Nat × Value)} {m : Cm} {c : Nat} {s : Ck}

theorem Cd.boxes (h : Cd W x K m w c s) {b : Nat} (hb : b < w.heap.size) (hl : m.lab b = 0) : ∀ (vs : List Value) (i : Nat), (∀ (j : Nat) v, vs[j]? = some v → w.cell? ⟨b, i + j, none⟩ = some v) → Cd W x (boxK b vs i ++ K) m w c s
  | [], _, _ => h
  | v :: r, i, hc => by
    have ih := Cd.boxes h hb hl r (i + 1) (fun j u hu => by
      have := hc (j + 1) u (by simpa using hu)
      rw [show i + (j + 1) = i + 1 + j from by omega] at this
      exact this)
    exact ih.more hb hl (by simpa using hc 0 v rfl)

/-- A variable of one's own. -/
theorem Cw.box (h : Cw W x K w c s) (vs : List Value) (t : TypeId) : Cw W x (boxK w.heap.size vs 0 ++ K) (w.alloc (.cells vs.toArray t)) c s := by
  obtain ⟨m, h⟩ := h
  refine ⟨m, (h.below ((Below.refl _ w).alloc (Nat.le_refl _) _)).boxes (by simp) (h.lz _ (Nat.le_refl _)) vs 0 (fun j v hv => ?_)⟩
  rw [Nat.zero_add, World.cell?_alloc_new]
  simpa using hv

theorem Cw.unbox {b i : Nat} {vs : List Value} (h : Cw W x (boxK b vs i ++ K) w c s) : Cw W x K w c s := h.less fun _ hp => List.mem_append_right _ hp

theorem varF0 (a b : Int) (w : World) : (Instr.field 299 (.agg #[.int .i64 a, .int .i64 b]) 0).run Tryz.prog w = .ok (.int .i64 a) w := by kernel_rfl
theorem varF1 (a b : Int) (w : World) : (Instr.field 299 (.agg #[.int .i64 a, .int .i64 b]) 1).run Tryz.prog w = .ok (.int .i64 b) w := by kernel_rfl

theorem Cw.c5n (h : Cw W x K w c s) (hk : s.blk = none) : w.cell? ⟨c, 5, none⟩ = some (.pointer none) := by
  obtain ⟨m, h⟩ := h
  rw [h.c5]
  simp only [blkV, hk]

set_option maxRecDepth 100000 in
set_option maxHeartbeats 2000000 in
theorem out_n (h : Cw W x K w c s) (hk : s.blk = none) {a : PV} (ha : a.ok) (hG : s.g + 100 < 10000000) :
    Calls Tryz.prog 150 #[ptr c, .agg #[.string a.name, .int .i64 a.num]] w fun e w' => e = .returned (.tuple #[]) ∧ Cw W x K w' c (x.outC a s) := by
  have hth := h.th
  have hR : x.outC a s = s.add [yOut, x.val a] := by simp only [Cx.outC, hk]
  rw [hR]
  have hsv := szVal h.base ha
  have HV := hid (fun (K : List (Nat × Nat × Value)) (w : World) (s : Ck) (h : Cw W x K w c s) => value_c h ha)
  have H0 := hid (h.box [.string a.name, .int .i64 a.num] 311)
  have c5 := h.c5n hk
  have lb := h.lt
  clear h hR ha
  obtain ⟨nm, num⟩ := a
  dsimp only at H0 HV hsv ⊢
  go_enter Tryz.func150, Tryz.ntmps150
  go_wp2_with fail
  generalize hwb : w.alloc (Obj.cells #[.string nm, .int .i64 num] 311) = wb at *
  generalize w.heap.size = bs at *
  have e0 := H0.out.kept (b := bs) (o := 0) (v := .string nm) (by simp [boxK])
  have e1 := H0.out.kept (b := bs) (o := 1) (v := .int .i64 num) (by simp [boxK])
  go_region_held3 (fun w' => w'.cell? ⟨bs, 0, none⟩ = some (.string nm) ∧ w'.cell? ⟨bs, 1, none⟩ = some (.int .i64 num)) (go_keep)
    (first
      | (go_at_call 146; refine (HV.out _ _ _ H0.out.drew).mono ?_; rintro e wj0 ⟨rfl, q⟩; have HJ0 := hid q; clear q; have e0j0 := HJ0.out.kept (b := bs) (o := 0) (v := .string nm) (by simp [boxK]); have e1j0 := HJ0.out.kept (b := bs) (o := 1) (v := .int .i64 num) (by simp [boxK]))
      | (go_at_call 103; refine (add_new HJ0.out [yOut, x.val ⟨nm, num⟩] (by simp) ⟨by decide, hsv, trivial⟩ (by show s.g + 0 < _; omega)).mono ?_; rintro e w1 ⟨rfl, q⟩; have H1 := hid q; clear q; have e0h1 := H1.out.kept (b := bs) (o := 0) (v := .string nm) (by simp [boxK]); have e1h1 := H1.out.kept (b := bs) (o := 1) (v := .int .i64 num) (by simp [boxK])))
  go_wp2
  (try simp only [Exit.inBlock, Exit.then])
  refine bodyPost_ret (results_none rfl _ _ _) rfl ?_
  exact ⟨rfl, H1.out.unbox⟩

set_option maxRecDepth 100000 in
set_option maxHeartbeats 2000000 in
theorem out_s (h : Cw W x K w c s) {k : Bk} (hk : s.blk = some k) {a : PV} (ha : a.ok) (hG : s.g + 100 < 10000000) :
    Calls Tryz.prog 150 #[ptr c, .agg #[.string a.name, .int .i64 a.num]] w fun e w' => e = .returned (.tuple #[]) ∧ Cw W x K w' c (x.outC a s) := by
  have hth := h.th
  have hR : x.outC a s = (s.add [yStore, yR7, x.own 24, x.val a]).add [yAdd, yR7, yR7, y1] := by simp only [Cx.outC, hk]
  rw [hR]
  have hsv := szVal h.base ha
  have HV := hid (fun (K : List (Nat × Nat × Value)) (w : World) (s : Ck) (h : Cw W x K w c s) => value_c h ha)
  have H0 := hid (h.box [.string a.name, .int .i64 a.num] 311)
  obtain ⟨b, c5, _⟩ := h.blk hk
  have lb := h.lt
  clear h hR ha
  obtain ⟨nm, num⟩ := a
  dsimp only at H0 HV hsv ⊢
  go_enter Tryz.func150, Tryz.ntmps150
  go_wp2_with fail
  generalize hwb : w.alloc (Obj.cells #[.string nm, .int .i64 num] 311) = wb at *
  generalize w.heap.size = bs at *
  have e0 := H0.out.kept (b := bs) (o := 0) (v := .string nm) (by simp [boxK])
  have e1 := H0.out.kept (b := bs) (o := 1) (v := .int .i64 num) (by simp [boxK])
  go_region_held3 (fun w' => w'.cell? ⟨bs, 0, none⟩ = some (.string nm) ∧ w'.cell? ⟨bs, 1, none⟩ = some (.int .i64 num)) (go_keep)
    (first
      | (go_at_call 188; refine (own_c H0.out.drew 24 (by omega) (by omega)).mono ?_; rintro e wj0 ⟨rfl, q⟩; have HJ0 := hid q; clear q; have e0j0 := HJ0.out.kept (b := bs) (o := 0) (v := .string nm) (by simp [boxK]); have e1j0 := HJ0.out.kept (b := bs) (o := 1) (v := .int .i64 num) (by simp [boxK]))
      | (go_at_call 146; refine (HV.out _ _ _ HJ0.out).mono ?_; rintro e wj1 ⟨rfl, q⟩; have HJ1 := hid q; clear q; have e0j1 := HJ1.out.kept (b := bs) (o := 0) (v := .string nm) (by simp [boxK]); have e1j1 := HJ1.out.kept (b := bs) (o := 1) (v := .int .i64 num) (by simp [boxK]))
      | (go_at_call 103; refine (add_new HJ1.out [yStore, yR7, x.own (24), x.val ⟨nm, num⟩] (by simp) ⟨by decide, by decide, szOwn hth _ (by omega) (by omega), hsv, trivial⟩ (by show s.g + 0 < _; omega)).mono ?_; rintro e w1 ⟨rfl, q⟩; have H1 := hid q; clear q; have e0h1 := H1.out.kept (b := bs) (o := 0) (v := .string nm) (by simp [boxK]); have e1h1 := H1.out.kept (b := bs) (o := 1) (v := .int .i64 num) (by simp [boxK])))
  go_wp2_with fail
  refine (add_new H1.out [yAdd, yR7, yR7, y1] (by simp) ⟨by decide, by decide, by decide, by decide, trivial⟩ (by show s.g + 1 < _; omega)).mono ?_
  rintro e w2 ⟨rfl, q⟩
  have H2 := hid q
  clear q
  go_wp2
  go_end0
  exact ⟨rfl, H2.out.unbox⟩

set_option maxRecDepth 100000 in
set_option maxHeartbeats 2000000 in
theorem check_in (h : Cw W x K w c s) {of : ByteArray} (hof : of.size ≤ maxLen) {a : PV} (ha : a.ok) (hc : a.name = ⟨#[]⟩ ∧ 0 ≤ a.num ∧ a.num < (x.var of).2) (hv : 0 ≤ (x.var of).2 ∧ (x.var of).2 ≤ 6) :
    Calls Tryz.prog 186 #[ptr c, .agg #[.string of, .string a.name, .int .i64 a.num]] w fun e w' => e = .returned (.tuple #[]) ∧ Cw W x K w' c (x.check of a s) := by
  have hth := h.th
  have hR : x.check of a s = s := by
    simp only [Cx.check]
    rw [if_pos hc]
  rw [hR]
  have hsv := szVal h.base ha
  have HV := hid (fun (K : List (Nat × Nat × Value)) (w : World) (s : Ck) (h : Cw W x K w c s) => value_c h ha)
  have hb := h.box [.string of, .string a.name, .int .i64 a.num] 305
  have c1 := hb.c1
  have hlk := hb.drew.lookS hof
  have H0 := hid hb
  have lb := h.lt
  clear h ha hb hR
  obtain ⟨nm, num⟩ := a
  dsimp only at H0 HV hsv hlk c1 hc ⊢
  generalize x.var of = fn at *
  obtain ⟨first, n⟩ := fn
  have hfd := varF1 first n
  dsimp only at hlk hv hc ⊢
  obtain ⟨rfl, hc1, hc2⟩ := hc
  go_enter Tryz.func186, Tryz.ntmps186
  go_wp2_with fail
  generalize hwb : w.alloc (Obj.cells #[.string of, .string ⟨#[]⟩, .int .i64 num] 305) = wb at *
  generalize w.heap.size = bs at *
  have e0 := H0.out.kept (b := bs) (o := 0) (v := .string of) (by simp [boxK])
  have e1 := H0.out.kept (b := bs) (o := 1) (v := .string ⟨#[]⟩) (by simp [boxK])
  have e2 := H0.out.kept (b := bs) (o := 2) (v := .int .i64 num) (by simp [boxK])
  go_region_held3 (fun w' => w'.cell? ⟨c, 1, none⟩ = some (.map (some x.sb)) ∧ w'.cell? ⟨bs, 0, none⟩ = some (.string of) ∧ (Instr.lookup 138 (.map (some x.sb)) (.string of) false).run Tryz.prog w' = .ok (.agg #[.int .i64 first, .int .i64 n]) w') (go_keep) (fail)
  go_wp2_with fail
  (try simp only [Exit.inBlock, Exit.then])
  refine bodyPost_ret (results_none rfl _ _ _) rfl ?_
  exact ⟨rfl, H0.out.drew.unbox⟩

set_option maxRecDepth 100000 in
set_option maxHeartbeats 2000000 in
theorem check_n (h : Cw W x K w c s) {of : ByteArray} (hof : of.size ≤ maxLen) {a : PV} (ha : a.ok) (hp : ¬ a.name = ⟨#[]⟩) (hv : 0 ≤ (x.var of).2 ∧ (x.var of).2 ≤ 6) (hG : s.g + 100 < 10000000) :
    Calls Tryz.prog 186 #[ptr c, .agg #[.string of, .string a.name, .int .i64 a.num]] w fun e w' => e = .returned (.tuple #[]) ∧ Cw W x K w' c (x.check of a s) := by
  have hc : ¬ (a.name = ⟨#[]⟩ ∧ 0 ≤ a.num ∧ a.num < (x.var of).2) := fun e => by
    exact hp e.1
  have hth := h.th
  have hR : x.check of a s = (((s.add [yLt, yR4, yM1, x.val a]).trapIf).add [yLt, yR4, x.val a, dec (x.var of).2]).trapIf := by
    simp only [Cx.check]
    rw [if_neg hc]
  rw [hR]
  have hsv := szVal h.base ha
  have HV := hid (fun (K : List (Nat × Nat × Value)) (w : World) (s : Ck) (h : Cw W x K w c s) => value_c h ha)
  have hb := h.box [.string of, .string a.name, .int .i64 a.num] 305
  have c1 := hb.c1
  have hlk := hb.drew.lookS hof
  have H0 := hid hb
  have lb := h.lt
  clear h ha hb hR hc
  obtain ⟨nm, num⟩ := a
  dsimp only at H0 HV hsv hlk c1 hp ⊢
  generalize x.var of = fn at *
  obtain ⟨first, n⟩ := fn
  have hfd := varF1 first n
  dsimp only at hlk hv hp ⊢
  have he : nm.toList.isEmpty = false := by
    refine ba_some ?_
    rcases nm with ⟨⟨l⟩⟩
    cases l with
    | nil => exact (hp rfl).elim
    | cons a l => simp [ByteArray.size]
  go_enter Tryz.func186, Tryz.ntmps186
  go_wp2_with fail
  generalize hwb : w.alloc (Obj.cells #[.string of, .string nm, .int .i64 num] 305) = wb at *
  generalize w.heap.size = bs at *
  have e0 := H0.out.kept (b := bs) (o := 0) (v := .string of) (by simp [boxK])
  have e1 := H0.out.kept (b := bs) (o := 1) (v := .string nm) (by simp [boxK])
  have e2 := H0.out.kept (b := bs) (o := 2) (v := .int .i64 num) (by simp [boxK])
  go_region_held3 (fun w' => w'.cell? ⟨c, 1, none⟩ = some (.map (some x.sb)) ∧ w'.cell? ⟨bs, 0, none⟩ = some (.string of) ∧ (Instr.lookup 138 (.map (some x.sb)) (.string of) false).run Tryz.prog w' = .ok (.agg #[.int .i64 first, .int .i64 n]) w') (go_keep) (fail)
  go_wp2_with fail
  refine (HV.out _ _ _ (Cw.drew H0.out)).mono ?_
  rintro e w1 ⟨rfl, q⟩
  have H1 := hid q
  clear q
  go_wp2_with fail
  refine (add_new H1.out [yLt, yR4, yM1, x.val ⟨nm, num⟩] (by simp) ⟨by decide, by decide, by decide, hsv, trivial⟩ (by show s.g + 0 < _; omega)).mono ?_
  rintro e w2 ⟨rfl, q⟩
  have H2 := hid q
  clear q
  go_wp2_with fail
  refine (trapIf_c H2.out (by show s.g + 1 < _; omega)).mono ?_
  rintro e w3 ⟨rfl, q⟩
  have H3 := hid q
  clear q
  go_wp2_with fail
  go_region_law (first
    | (go_simp; go_at_call 185; refine (format_c H3.out.drew n (by omega) (by omega)).mono ?_; rintro e wj0 ⟨rfl, q⟩; have HJ0 := hid q; clear q)
    | (go_simp; go_at_call 103; refine (add_new HJ0.out [yLt, yR4, x.val ⟨nm, num⟩, dec (n)] (by simp) ⟨by decide, by decide, hsv, szDec _ (by omega) (by omega), trivial⟩ (by show s.g + 2 < _; omega)).mono ?_; rintro e w4 ⟨rfl, q⟩; have H4 := hid q; clear q))
  go_wp2_with fail
  refine (trapIf_c H4.out (by show s.g + 3 < _; omega)).mono ?_
  rintro e w5 ⟨rfl, q⟩
  have H5 := hid q
  clear q
  go_wp2
  go_end0
  exact ⟨rfl, H5.out.unbox⟩

set_option maxRecDepth 100000 in
set_option maxHeartbeats 2000000 in
theorem check_lo (h : Cw W x K w c s) {of : ByteArray} (hof : of.size ≤ maxLen) {a : PV} (ha : a.ok) (hp : a.name = ⟨#[]⟩ ∧ a.num < 0) (hv : 0 ≤ (x.var of).2 ∧ (x.var of).2 ≤ 6) (hG : s.g + 100 < 10000000) :
    Calls Tryz.prog 186 #[ptr c, .agg #[.string of, .string a.name, .int .i64 a.num]] w fun e w' => e = .returned (.tuple #[]) ∧ Cw W x K w' c (x.check of a s) := by
  have hc : ¬ (a.name = ⟨#[]⟩ ∧ 0 ≤ a.num ∧ a.num < (x.var of).2) := fun e => by
    omega
  have hth := h.th
  have hR : x.check of a s = (((s.add [yLt, yR4, yM1, x.val a]).trapIf).add [yLt, yR4, x.val a, dec (x.var of).2]).trapIf := by
    simp only [Cx.check]
    rw [if_neg hc]
  rw [hR]
  have hsv := szVal h.base ha
  have HV := hid (fun (K : List (Nat × Nat × Value)) (w : World) (s : Ck) (h : Cw W x K w c s) => value_c h ha)
  have hb := h.box [.string of, .string a.name, .int .i64 a.num] 305
  have c1 := hb.c1
  have hlk := hb.drew.lookS hof
  have H0 := hid hb
  have lb := h.lt
  clear h ha hb hR hc
  obtain ⟨nm, num⟩ := a
  dsimp only at H0 HV hsv hlk c1 hp ⊢
  generalize x.var of = fn at *
  obtain ⟨first, n⟩ := fn
  have hfd := varF1 first n
  dsimp only at hlk hv hp ⊢
  obtain ⟨rfl, hp1⟩ := hp
  have hp2 : ¬ (0 : Int) ≤ num := by omega
  go_enter Tryz.func186, Tryz.ntmps186
  go_wp2_with fail
  generalize hwb : w.alloc (Obj.cells #[.string of, .string ⟨#[]⟩, .int .i64 num] 305) = wb at *
  generalize w.heap.size = bs at *
  have e0 := H0.out.kept (b := bs) (o := 0) (v := .string of) (by simp [boxK])
  have e1 := H0.out.kept (b := bs) (o := 1) (v := .string ⟨#[]⟩) (by simp [boxK])
  have e2 := H0.out.kept (b := bs) (o := 2) (v := .int .i64 num) (by simp [boxK])
  go_region_held3 (fun w' => w'.cell? ⟨c, 1, none⟩ = some (.map (some x.sb)) ∧ w'.cell? ⟨bs, 0, none⟩ = some (.string of) ∧ (Instr.lookup 138 (.map (some x.sb)) (.string of) false).run Tryz.prog w' = .ok (.agg #[.int .i64 first, .int .i64 n]) w') (go_keep) (fail)
  go_wp2_with fail
  refine (HV.out _ _ _ (Cw.drew H0.out)).mono ?_
  rintro e w1 ⟨rfl, q⟩
  have H1 := hid q
  clear q
  go_wp2_with fail
  refine (add_new H1.out [yLt, yR4, yM1, x.val ⟨⟨#[]⟩, num⟩] (by simp) ⟨by decide, by decide, by decide, hsv, trivial⟩ (by show s.g + 0 < _; omega)).mono ?_
  rintro e w2 ⟨rfl, q⟩
  have H2 := hid q
  clear q
  go_wp2_with fail
  refine (trapIf_c H2.out (by show s.g + 1 < _; omega)).mono ?_
  rintro e w3 ⟨rfl, q⟩
  have H3 := hid q
  clear q
  go_wp2_with fail
  go_region_law (first
    | (go_simp; go_at_call 185; refine (format_c H3.out.drew n (by omega) (by omega)).mono ?_; rintro e wj0 ⟨rfl, q⟩; have HJ0 := hid q; clear q)
    | (go_simp; go_at_call 103; refine (add_new HJ0.out [yLt, yR4, x.val ⟨⟨#[]⟩, num⟩, dec (n)] (by simp) ⟨by decide, by decide, hsv, szDec _ (by omega) (by omega), trivial⟩ (by show s.g + 2 < _; omega)).mono ?_; rintro e w4 ⟨rfl, q⟩; have H4 := hid q; clear q))
  go_wp2_with fail
  refine (trapIf_c H4.out (by show s.g + 3 < _; omega)).mono ?_
  rintro e w5 ⟨rfl, q⟩
  have H5 := hid q
  clear q
  go_wp2
  go_end0
  exact ⟨rfl, H5.out.unbox⟩

set_option maxRecDepth 100000 in
set_option maxHeartbeats 2000000 in
theorem check_hi (h : Cw W x K w c s) {of : ByteArray} (hof : of.size ≤ maxLen) {a : PV} (ha : a.ok) (hp : a.name = ⟨#[]⟩ ∧ 0 ≤ a.num ∧ ¬ a.num < (x.var of).2) (hv : 0 ≤ (x.var of).2 ∧ (x.var of).2 ≤ 6) (hG : s.g + 100 < 10000000) :
    Calls Tryz.prog 186 #[ptr c, .agg #[.string of, .string a.name, .int .i64 a.num]] w fun e w' => e = .returned (.tuple #[]) ∧ Cw W x K w' c (x.check of a s) := by
  have hc : ¬ (a.name = ⟨#[]⟩ ∧ 0 ≤ a.num ∧ a.num < (x.var of).2) := fun e => by
    exact hp.2.2 e.2.2
  have hth := h.th
  have hR : x.check of a s = (((s.add [yLt, yR4, yM1, x.val a]).trapIf).add [yLt, yR4, x.val a, dec (x.var of).2]).trapIf := by
    simp only [Cx.check]
    rw [if_neg hc]
  rw [hR]
  have hsv := szVal h.base ha
  have HV := hid (fun (K : List (Nat × Nat × Value)) (w : World) (s : Ck) (h : Cw W x K w c s) => value_c h ha)
  have hb := h.box [.string of, .string a.name, .int .i64 a.num] 305
  have c1 := hb.c1
  have hlk := hb.drew.lookS hof
  have H0 := hid hb
  have lb := h.lt
  clear h ha hb hR hc
  obtain ⟨nm, num⟩ := a
  dsimp only at H0 HV hsv hlk c1 hp ⊢
  generalize x.var of = fn at *
  obtain ⟨first, n⟩ := fn
  have hfd := varF1 first n
  dsimp only at hlk hv hp ⊢
  obtain ⟨rfl, hp1, hp2⟩ := hp
  go_enter Tryz.func186, Tryz.ntmps186
  go_wp2_with fail
  generalize hwb : w.alloc (Obj.cells #[.string of, .string ⟨#[]⟩, .int .i64 num] 305) = wb at *
  generalize w.heap.size = bs at *
  have e0 := H0.out.kept (b := bs) (o := 0) (v := .string of) (by simp [boxK])
  have e1 := H0.out.kept (b := bs) (o := 1) (v := .string ⟨#[]⟩) (by simp [boxK])
  have e2 := H0.out.kept (b := bs) (o := 2) (v := .int .i64 num) (by simp [boxK])
  go_region_held3 (fun w' => w'.cell? ⟨c, 1, none⟩ = some (.map (some x.sb)) ∧ w'.cell? ⟨bs, 0, none⟩ = some (.string of) ∧ (Instr.lookup 138 (.map (some x.sb)) (.string of) false).run Tryz.prog w' = .ok (.agg #[.int .i64 first, .int .i64 n]) w') (go_keep) (fail)
  go_wp2_with fail
  refine (HV.out _ _ _ (Cw.drew H0.out)).mono ?_
  rintro e w1 ⟨rfl, q⟩
  have H1 := hid q
  clear q
  go_wp2_with fail
  refine (add_new H1.out [yLt, yR4, yM1, x.val ⟨⟨#[]⟩, num⟩] (by simp) ⟨by decide, by decide, by decide, hsv, trivial⟩ (by show s.g + 0 < _; omega)).mono ?_
  rintro e w2 ⟨rfl, q⟩
  have H2 := hid q
  clear q
  go_wp2_with fail
  refine (trapIf_c H2.out (by show s.g + 1 < _; omega)).mono ?_
  rintro e w3 ⟨rfl, q⟩
  have H3 := hid q
  clear q
  go_wp2_with fail
  go_region_law (first
    | (go_simp; go_at_call 185; refine (format_c H3.out.drew n (by omega) (by omega)).mono ?_; rintro e wj0 ⟨rfl, q⟩; have HJ0 := hid q; clear q)
    | (go_simp; go_at_call 103; refine (add_new HJ0.out [yLt, yR4, x.val ⟨⟨#[]⟩, num⟩, dec (n)] (by simp) ⟨by decide, by decide, hsv, szDec _ (by omega) (by omega), trivial⟩ (by show s.g + 2 < _; omega)).mono ?_; rintro e w4 ⟨rfl, q⟩; have H4 := hid q; clear q))
  go_wp2_with fail
  refine (trapIf_c H4.out (by show s.g + 3 < _; omega)).mono ?_
  rintro e w5 ⟨rfl, q⟩
  have H5 := hid q
  clear q
  go_wp2
  go_end0
  exact ⟨rfl, H5.out.unbox⟩

theorem check_c (h : Cw W x K w c s) {of : ByteArray} (hof : of.size ≤ maxLen) {a : PV} (ha : a.ok) (hv : 0 ≤ (x.var of).2 ∧ (x.var of).2 ≤ 6) (hG : s.g + 100 < 10000000) :
    Calls Tryz.prog 186 #[ptr c, .agg #[.string of, .string a.name, .int .i64 a.num]] w fun e w' => e = .returned (.tuple #[]) ∧ Cw W x K w' c (x.check of a s) := by
  by_cases h1 : a.name = ⟨#[]⟩
  · by_cases h2 : 0 ≤ a.num
    · by_cases h3 : a.num < (x.var of).2
      · exact check_in h hof ha ⟨h1, h2, h3⟩ hv
      · exact check_hi h hof ha ⟨h1, h2, h3⟩ hv hG
    · exact check_lo h hof ha ⟨h1, by omega⟩ hv hG
  · exact check_n h hof ha h1 hv hG
end
end Go.Proofs.YtfhkfnoajbbfdabGreatDoor
