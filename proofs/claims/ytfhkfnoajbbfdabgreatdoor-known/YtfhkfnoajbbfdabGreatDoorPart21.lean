import Derived.Test.YtfhkfnoajbbfdabGreatDoorPart20
/- The coder: what a block's commit is made of. -/
namespace Go.Proofs.YtfhkfnoajbbfdabGreatDoor
open Go.RowKit

section
variable {W w w' : World} {x : Cx} {K : List (Nat × Nat × Value)} {m : Cm} {c : Nat} {s : Ck}

theorem add_len (s : Ck) (ws : List ByteArray) : (s.add ws).L.length = s.L.length + 1 := by simp [Ck.add]
theorem land_len (s : Ck) (n : Nat) : (s.land n).L.length = s.L.length := by simp [Ck.land]
theorem undoIf_len (s : Ck) : s.undoIf.L.length = s.L.length + 1 := by simp [Ck.undoIf, Ck.add]
theorem back_len (s : Ck) (n : Nat) : (s.back n).L.length = s.L.length + 1 := by simp [Ck.back, Ck.add]
theorem isEarly_len (u : ByteArray) (n : Int) (s : Ck) : (gIsEarly u n s).L.length = s.L.length + 2 := by simp [gIsEarly, Ck.add]

set_option maxRecDepth 100000 in
set_option maxHeartbeats 2000000 in
theorem lock_c (h : Cw W x K w c s) {k : Bk} (hk : s.blk = some k) {n : Int} (h0 : 0 ≤ n) (h1 : n ≤ 6) (hG : s.g + 100 < 10000000) :
    Calls Tryz.prog 223 #[ptr c, .int .i64 n] w fun e w' => e = .returned (.tuple #[]) ∧ Cw W x K w' c (x.lockC n s) := by
  have hth := h.th
  have H0 := hid h
  clear h
  have q6 : IntKind.i64.wrap (6 + n) = 6 + n := by rw [IntKind.wrap_i64]; omega
  have q18 : IntKind.i64.wrap (18 + n) = 18 + n := by rw [IntKind.wrap_i64]; omega
  go_enter Tryz.func223, Tryz.ntmps223
  go_wp2_with fail
  go_region_law (first
    | (go_simp; go_at_call 188; refine (own_c H0.out.drew (6 + n) (by omega) (by omega)).mono ?_; rintro e wj0 ⟨rfl, q⟩; have HJ0 := hid q; clear q)
    | (go_simp; go_at_call 103; refine (add_new HJ0.out [yLoad, yR4, y0, x.own (6 + n)] (by simp) ⟨by decide, by decide, by decide, szOwn hth _ (by omega) (by omega), trivial⟩ (by show s.g + 0 < _; omega)).mono ?_; rintro e w1 ⟨rfl, q⟩; have H1 := hid q; clear q))
  go_wp2_with fail
  refine (leap_new H1.out [yJz, yR4] (by simp) ⟨by decide, by decide, trivial⟩ (by show s.g + 1 < _; omega)).mono ?_
  rintro e w2 ⟨bl1, ba1, rfl, q⟩
  have H2 := hid q
  clear q
  go_wp2_with fail
  go_region_law (first
    | (go_simp; go_at_call 236; refine (version_c H2.out.drew n (by omega) (by omega)).mono ?_; rintro e wj1 ⟨rfl, q⟩; have HJ1 := hid q; clear q)
    | (go_simp; go_at_call 103; refine (add_new HJ1.out [yLoad, yR5, y0, verW (n)] (by simp) ⟨by decide, by decide, by decide, szVer _ (by omega) (by omega), trivial⟩ (by show s.g + 2 < _; omega)).mono ?_; rintro e w3 ⟨rfl, q⟩; have H3 := hid q; clear q))
  go_wp2_with fail
  refine (add_new H3.out [yLt, yR4, yR5, yR6] (by simp) ⟨by decide, by decide, by decide, by decide, trivial⟩ (by show s.g + 3 < _; omega)).mono ?_
  rintro e w4 ⟨rfl, q⟩
  have H4 := hid q
  clear q
  go_wp2_with fail
  refine (undoIf_c H4.out (k := k) hk (by show s.g + 4 < _; omega)).mono ?_
  rintro e w5 ⟨rfl, q⟩
  have H5 := hid q
  clear q
  go_wp2_with fail
  go_region_law (first
    | (go_simp; go_at_call 188; refine (own_c H5.out.drew (18 + n) (by omega) (by omega)).mono ?_; rintro e wj2 ⟨rfl, q⟩; have HJ2 := hid q; clear q)
    | (go_simp; go_at_call 103; refine (add_new HJ2.out [yStore, y0, x.own (18 + n), yR5] (by simp) ⟨by decide, by decide, szOwn hth _ (by omega) (by omega), by decide, trivial⟩ (by show s.g + 5 < _; omega)).mono ?_; rintro e w6 ⟨rfl, q⟩; have H6 := hid q; clear q))
  go_wp2_with fail
  go_region_law (first
    | (go_simp; go_at_call 236; refine (version_c H6.out.drew n (by omega) (by omega)).mono ?_; rintro e wj3 ⟨rfl, q⟩; have HJ3 := hid q; clear q)
    | (go_simp; go_at_call 238; refine (locked_c HJ3.out).mono ?_; rintro e wj4 ⟨rfl, q⟩; have HJ4 := hid q; clear q)
    | (go_simp; go_at_call 103; refine (add_new HJ4.out [yCas, yR4, y0, verW (n), yR5, x.lock] (by simp) ⟨by decide, by decide, by decide, szVer _ (by omega) (by omega), by decide, szLock hth, trivial⟩ (by show s.g + 6 < _; omega)).mono ?_; rintro e w7 ⟨rfl, q⟩; have H7 := hid q; clear q))
  go_wp2_with fail
  refine (undoIf_c H7.out rfl (by show s.g + 7 < _; omega)).mono ?_
  rintro e w8 ⟨rfl, q⟩
  have H8 := hid q
  clear q
  go_wp2_with fail
  refine (land_c H8.out (bl := bl1) (ba := ba1) (n := (s.add [yLoad, yR4, y0, x.own (6 + n)]).L.length) (by simp) (by simp) (by simp only [add_len, undoIf_len]; omega) (by show s.g + 8 < _; omega)).mono ?_
  rintro e w9 ⟨rfl, q⟩
  have H9 := hid q
  clear q
  go_wp2
  go_end0
  exact ⟨rfl, H9.out.less (K' := K) (fun p hp => List.mem_cons_of_mem _ (List.mem_cons_of_mem _ hp))⟩

set_option maxRecDepth 100000 in
set_option maxHeartbeats 2000000 in
theorem look_c (h : Cw W x K w c s) {k : Bk} (hk : s.blk = some k) {n : Int} (h0 : 0 ≤ n) (h1 : n ≤ 6) (hG : s.g + 100 < 10000000) :
    Calls Tryz.prog 224 #[ptr c, .int .i64 n] w fun e w' => e = .returned (.tuple #[]) ∧ Cw W x K w' c (x.lookC n s) := by
  have hth := h.th
  have H0 := hid h
  clear h
  have q12 : IntKind.i64.wrap (12 + n) = 12 + n := by rw [IntKind.wrap_i64]; omega
  go_enter Tryz.func224, Tryz.ntmps224
  go_wp2_with fail
  go_region_law (first
    | (go_simp; go_at_call 188; refine (own_c H0.out.drew (12 + n) (by omega) (by omega)).mono ?_; rintro e wj0 ⟨rfl, q⟩; have HJ0 := hid q; clear q)
    | (go_simp; go_at_call 103; refine (add_new HJ0.out [yLoad, yR4, y0, x.own (12 + n)] (by simp) ⟨by decide, by decide, by decide, szOwn hth _ (by omega) (by omega), trivial⟩ (by show s.g + 0 < _; omega)).mono ?_; rintro e w1 ⟨rfl, q⟩; have H1 := hid q; clear q))
  go_wp2_with fail
  refine (leap_new H1.out [yJz, yR4] (by simp) ⟨by decide, by decide, trivial⟩ (by show s.g + 1 < _; omega)).mono ?_
  rintro e w2 ⟨bl1, ba1, rfl, q⟩
  have H2 := hid q
  clear q
  go_wp2_with fail
  refine (isEarly_c H2.out (u := y0) (by decide) h0 (by omega) (by show s.g + 2 + 2 < _; omega)).mono ?_
  rintro e w3 ⟨rfl, q⟩
  have H3 := hid q
  clear q
  go_wp2_with fail
  refine (undoIf_c H3.out (k := k) hk (by show s.g + 4 < _; omega)).mono ?_
  rintro e w4 ⟨rfl, q⟩
  have H4 := hid q
  clear q
  go_wp2_with fail
  refine (land_c H4.out (bl := bl1) (ba := ba1) (n := (s.add [yLoad, yR4, y0, x.own (12 + n)]).L.length) (by simp) (by simp) (by simp only [add_len, isEarly_len, undoIf_len]; omega) (by show s.g + 5 < _; omega)).mono ?_
  rintro e w5 ⟨rfl, q⟩
  have H5 := hid q
  clear q
  go_wp2
  go_end0
  exact ⟨rfl, H5.out.less (K' := K) (fun p hp => List.mem_cons_of_mem _ (List.mem_cons_of_mem _ hp))⟩

set_option maxRecDepth 100000 in
set_option maxHeartbeats 2000000 in
theorem store_c (h : Cw W x K w c s) {n : Int} (h0 : 0 ≤ n) (h1 : n ≤ 6) (hG : s.g + 100 < 10000000) :
    Calls Tryz.prog 225 #[ptr c, .int .i64 n] w fun e w' => e = .returned (.tuple #[]) ∧ Cw W x K w' c (x.storeC n s) := by
  have hth := h.th
  have H0 := hid h
  clear h
  have q0 : IntKind.i64.wrap n = n := by rw [IntKind.wrap_i64]; omega
  have q6 : IntKind.i64.wrap (6 + n) = 6 + n := by rw [IntKind.wrap_i64]; omega
  go_enter Tryz.func225, Tryz.ntmps225
  go_wp2_with fail
  go_region_law (first
    | (go_simp; go_at_call 188; refine (own_c H0.out.drew (6 + n) (by omega) (by omega)).mono ?_; rintro e wj0 ⟨rfl, q⟩; have HJ0 := hid q; clear q)
    | (go_simp; go_at_call 103; refine (add_new HJ0.out [yLoad, yR4, y0, x.own (6 + n)] (by simp) ⟨by decide, by decide, by decide, szOwn hth _ (by omega) (by omega), trivial⟩ (by show s.g + 0 < _; omega)).mono ?_; rintro e w1 ⟨rfl, q⟩; have H1 := hid q; clear q))
  go_wp2_with fail
  refine (leap_new H1.out [yJz, yR4] (by simp) ⟨by decide, by decide, trivial⟩ (by show s.g + 1 < _; omega)).mono ?_
  rintro e w2 ⟨bl1, ba1, rfl, q⟩
  have H2 := hid q
  clear q
  go_wp2_with fail
  go_region_law (first
    | (go_simp; go_at_call 188; refine (own_c H2.out.drew n (by omega) (by omega)).mono ?_; rintro e wj1 ⟨rfl, q⟩; have HJ1 := hid q; clear q)
    | (go_simp; go_at_call 103; refine (add_new HJ1.out [yLoad, yR4, y0, x.own (n)] (by simp) ⟨by decide, by decide, by decide, szOwn hth _ (by omega) (by omega), trivial⟩ (by show s.g + 2 < _; omega)).mono ?_; rintro e w3 ⟨rfl, q⟩; have H3 := hid q; clear q))
  go_wp2_with fail
  go_region_law (first
    | (go_simp; go_at_call 214; refine (shared_c H3.out.drew n (by omega) (by omega)).mono ?_; rintro e wj2 ⟨rfl, q⟩; have HJ2 := hid q; clear q)
    | (go_simp; go_at_call 103; refine (add_new HJ2.out [yStore, y0, dec (n), yR4] (by simp) ⟨by decide, by decide, szDec _ (by omega) (by omega), by decide, trivial⟩ (by show s.g + 3 < _; omega)).mono ?_; rintro e w4 ⟨rfl, q⟩; have H4 := hid q; clear q))
  go_wp2_with fail
  go_region_law (first
    | (go_simp; go_at_call 236; refine (version_c H4.out.drew n (by omega) (by omega)).mono ?_; rintro e wj3 ⟨rfl, q⟩; have HJ3 := hid q; clear q)
    | (go_simp; go_at_call 103; refine (add_new HJ3.out [yStore, y0, verW (n), yR5] (by simp) ⟨by decide, by decide, szVer _ (by omega) (by omega), by decide, trivial⟩ (by show s.g + 4 < _; omega)).mono ?_; rintro e w5 ⟨rfl, q⟩; have H5 := hid q; clear q))
  go_wp2_with fail
  refine (land_c H5.out (bl := bl1) (ba := ba1) (n := (s.add [yLoad, yR4, y0, x.own (6 + n)]).L.length) (by simp) (by simp) (by simp only [add_len]; omega) (by show s.g + 5 < _; omega)).mono ?_
  rintro e w6 ⟨rfl, q⟩
  have H6 := hid q
  clear q
  go_wp2
  go_end0
  exact ⟨rfl, H6.out.less (K' := K) (fun p hp => List.mem_cons_of_mem _ (List.mem_cons_of_mem _ hp))⟩

set_option maxRecDepth 100000 in
set_option maxHeartbeats 2000000 in
theorem unlock_c (h : Cw W x K w c s) {n : Int} (h0 : 0 ≤ n) (h1 : n ≤ 6) (hG : s.g + 100 < 10000000) :
    Calls Tryz.prog 239 #[ptr c, .int .i64 n] w fun e w' => e = .returned (.tuple #[]) ∧ Cw W x K w' c (x.unlockC n s) := by
  have hth := h.th
  have H0 := hid h
  clear h
  have q18 : IntKind.i64.wrap (18 + n) = 18 + n := by rw [IntKind.wrap_i64]; omega
  go_enter Tryz.func239, Tryz.ntmps239
  go_wp2_with fail
  go_region_law (first
    | (go_simp; go_at_call 236; refine (version_c H0.out.drew n (by omega) (by omega)).mono ?_; rintro e wj0 ⟨rfl, q⟩; have HJ0 := hid q; clear q)
    | (go_simp; go_at_call 103; refine (add_new HJ0.out [yLoad, yR4, y0, verW (n)] (by simp) ⟨by decide, by decide, by decide, szVer _ (by omega) (by omega), trivial⟩ (by show s.g + 0 < _; omega)).mono ?_; rintro e w1 ⟨rfl, q⟩; have H1 := hid q; clear q))
  go_wp2_with fail
  go_region_law (first
    | (go_simp; go_at_call 238; refine (locked_c H1.out.drew).mono ?_; rintro e wj1 ⟨rfl, q⟩; have HJ1 := hid q; clear q)
    | (go_simp; go_at_call 103; refine (add_new HJ1.out [yEq, yR4, yR4, x.lock] (by simp) ⟨by decide, by decide, by decide, szLock hth, trivial⟩ (by show s.g + 1 < _; omega)).mono ?_; rintro e w2 ⟨rfl, q⟩; have H2 := hid q; clear q))
  go_wp2_with fail
  refine (leap_new H2.out [yJz, yR4] (by simp) ⟨by decide, by decide, trivial⟩ (by show s.g + 2 < _; omega)).mono ?_
  rintro e w3 ⟨bl2, ba2, rfl, q⟩
  have H3 := hid q
  clear q
  go_wp2_with fail
  go_region_law (first
    | (go_simp; go_at_call 188; refine (own_c H3.out.drew (18 + n) (by omega) (by omega)).mono ?_; rintro e wj2 ⟨rfl, q⟩; have HJ2 := hid q; clear q)
    | (go_simp; go_at_call 103; refine (add_new HJ2.out [yLoad, yR4, y0, x.own (18 + n)] (by simp) ⟨by decide, by decide, by decide, szOwn hth _ (by omega) (by omega), trivial⟩ (by show s.g + 3 < _; omega)).mono ?_; rintro e w4 ⟨rfl, q⟩; have H4 := hid q; clear q))
  go_wp2_with fail
  go_region_law (first
    | (go_simp; go_at_call 236; refine (version_c H4.out.drew n (by omega) (by omega)).mono ?_; rintro e wj3 ⟨rfl, q⟩; have HJ3 := hid q; clear q)
    | (go_simp; go_at_call 103; refine (add_new HJ3.out [yStore, y0, verW (n), yR4] (by simp) ⟨by decide, by decide, szVer _ (by omega) (by omega), by decide, trivial⟩ (by show s.g + 4 < _; omega)).mono ?_; rintro e w5 ⟨rfl, q⟩; have H5 := hid q; clear q))
  go_wp2_with fail
  refine (land_c H5.out (bl := bl2) (ba := ba2) (n := ((s.add [yLoad, yR4, y0, verW (n)]).add [yEq, yR4, yR4, x.lock]).L.length) (by simp) (by simp) (by simp only [add_len]; omega) (by show s.g + 5 < _; omega)).mono ?_
  rintro e w6 ⟨rfl, q⟩
  have H6 := hid q
  clear q
  go_wp2
  go_end0
  exact ⟨rfl, H6.out.less (K' := K) (fun p hp => List.mem_cons_of_mem _ (List.mem_cons_of_mem _ hp))⟩

set_option maxRecDepth 100000 in
set_option maxHeartbeats 2000000 in
theorem give_c (h : Cw W x K w c s) (hG : s.g + 100 < 10000000) :
    Calls Tryz.prog 192 #[ptr c] w fun e w' => e = .returned (.tuple #[]) ∧ Cw W x K w' c (x.give s) := by
  have hth := h.th
  have hL := h.ok.l
  have H0 := hid h
  clear h
  go_enter Tryz.func192, Tryz.ntmps192
  go_wp2_with fail
  refine (add_new H0.out [yMov, yR4, y0] (by simp) ⟨by decide, by decide, by decide, trivial⟩ (by show s.g + 0 < _; omega)).mono ?_
  rintro e w1 ⟨rfl, q⟩
  have H1 := hid q
  clear q
  go_wp2_with fail
  refine (place_c H1.out).mono ?_
  rintro e w' ⟨rfl, rfl⟩
  go_wp2_with fail
  refine (add_new H1.out [yLt, yR5, yR4, yR7] (by simp) ⟨by decide, by decide, by decide, by decide, trivial⟩ (by show s.g + 1 < _; omega)).mono ?_
  rintro e w2 ⟨rfl, q⟩
  have H2 := hid q
  clear q
  go_wp2_with fail
  refine (leap_new H2.out [yJz, yR5] (by simp) ⟨by decide, by decide, trivial⟩ (by show s.g + 2 < _; omega)).mono ?_
  rintro e w3 ⟨bl2, ba2, rfl, q⟩
  have H3 := hid q
  clear q
  go_wp2_with fail
  go_region_law (first
    | (go_simp; go_at_call 188; refine (own_c H3.out.drew 24 (by omega) (by omega)).mono ?_; rintro e wj0 ⟨rfl, q⟩; have HJ0 := hid q; clear q)
    | (go_simp; go_at_call 103; refine (add_new HJ0.out [yLoad, yR5, yR4, x.own (24)] (by simp) ⟨by decide, by decide, by decide, szOwn hth _ (by omega) (by omega), trivial⟩ (by show s.g + 3 < _; omega)).mono ?_; rintro e w4 ⟨rfl, q⟩; have H4 := hid q; clear q))
  go_wp2_with fail
  refine (add_new H4.out [yOut, yR5] (by simp) ⟨by decide, by decide, trivial⟩ (by show s.g + 4 < _; omega)).mono ?_
  rintro e w5 ⟨rfl, q⟩
  have H5 := hid q
  clear q
  go_wp2_with fail
  refine (add_new H5.out [yAdd, yR4, yR4, y1] (by simp) ⟨by decide, by decide, by decide, by decide, trivial⟩ (by show s.g + 5 < _; omega)).mono ?_
  rintro e w6 ⟨rfl, q⟩
  have H6 := hid q
  clear q
  go_wp2_with fail
  refine (back_c H6.out (n := (s.add [yMov, yR4, y0]).L.length) (by simp only [add_len]; omega) (by show s.g + 6 < _; omega)).mono ?_
  rintro e w7 ⟨rfl, q⟩
  have H7 := hid q
  clear q
  go_wp2_with fail
  refine (land_c H7.out (bl := bl2) (ba := ba2) (n := ((s.add [yMov, yR4, y0]).add [yLt, yR5, yR4, yR7]).L.length) (by simp) (by simp) (by simp only [add_len, back_len]; omega) (by show s.g + 7 < _; omega)).mono ?_
  rintro e w8 ⟨rfl, q⟩
  have H8 := hid q
  clear q
  go_wp2
  go_end0
  exact ⟨rfl, H8.out.less (K' := K) (fun p hp => List.mem_cons_of_mem _ (List.mem_cons_of_mem _ hp))⟩
end
end Go.Proofs.YtfhkfnoajbbfdabGreatDoor
