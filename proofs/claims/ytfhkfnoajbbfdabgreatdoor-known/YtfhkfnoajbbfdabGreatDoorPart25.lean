import Derived.Test.YtfhkfnoajbbfdabGreatDoorPart23
import Derived.Test.YtfhkfnoajbbfdabGreatDoorPart24
import Derived.ChangeKeysEq
/- The coder at a statement that holds no others. -/
namespace Go.Proofs.YtfhkfnoajbbfdabGreatDoor
open Go.RowKit

section
variable {W w w' : World} {x : Cx} {K : List (Nat × Nat × Value)} {m : Cm} {c : Nat} {s : Ck}

theorem Cw.env (h : Cw W x K w c s) (hE : Env W) : Env w := hE.below h.low

set_option maxRecDepth 100000 in
set_option maxHeartbeats 1000000 in
theorem word_c (hE : Env w) {o : Nat} (ho : o < 12) : Calls Tryz.prog 147 #[.int .i64 (o : Int)] w fun e w' => e = .returned (.string (opWords o)) ∧ w' = w := by
  have hc := hE.words o ho
  have h0 : (0 : Int) ≤ (o : Int) := by omega
  have h1 : (o : Int) < 12 := by omega
  clear hE
  go_enter Tryz.func147, Tryz.ntmps147
  go_wp2
  go_ret
  exact ⟨rfl, rfl⟩

theorem szOp {o : Nat} (ho : o < 12) : (opWords o).size ≤ 30 := by
  have : o = 0 ∨ o = 1 ∨ o = 2 ∨ o = 3 ∨ o = 4 ∨ o = 5 ∨ o = 6 ∨ o = 7 ∨ o = 8 ∨ o = 9 ∨ o = 10 ∨ o = 11 := by omega
  rcases this with rfl | rfl | rfl | rfl | rfl | rfl | rfl | rfl | rfl | rfl | rfl | rfl <;> decide

set_option maxRecDepth 100000 in
set_option maxHeartbeats 2000000 in
theorem stmt_set (h : Cw W x K w c s) {to : ByteArray} (hto : to.size ≤ maxLen) {a : PV} (ha : a.ok) (hG : s.g + 300 < 1000000) :
    Calls Tryz.prog 102 #[ptr c, stV (.inl (to, a))] w fun e w' => e = .returned (.tuple #[]) ∧ Cw W x K w' c (s.add [yMov, x.local to, x.val a]) := by
  have hst := szLocal h.base to
  have hsa := szVal h.base ha
  have HT := hid (fun (K : List (Nat × Nat × Value)) (w : World) (s : Ck) (h : Cw W x K w c s) => local_c h hto)
  have HA := hid (fun (K : List (Nat × Nat × Value)) (w : World) (s : Ck) (h : Cw W x K w c s) => value_c h ha)
  have H0 := hid (h.box [.string to, .string a.name, .int .i64 a.num] 328)
  have lb := h.lt
  clear h ha
  obtain ⟨nm, num⟩ := a
  dsimp only at H0 HA hsa ⊢
  unfold stV
  have t0 := ta_qSet_qSet
  go_enter Tryz.func102, Tryz.ntmps102
  go_wp2_with fail
  generalize hwb : w.alloc (Obj.cells #[.string to, .string nm, .int .i64 num] 328) = wb at *
  generalize w.heap.size = bs at *
  have e0 := H0.out.kept (b := bs) (o := 0) (v := .string to) (by simp [boxK])
  have e1 := H0.out.kept (b := bs) (o := 1) (v := .string nm) (by simp [boxK])
  have e2 := H0.out.kept (b := bs) (o := 2) (v := .int .i64 num) (by simp [boxK])
  go_region_held3 (fun w' => w'.cell? ⟨bs, 0, none⟩ = some (.string to) ∧ w'.cell? ⟨bs, 1, none⟩ = some (.string nm) ∧ w'.cell? ⟨bs, 2, none⟩ = some (.int .i64 num)) (go_keep)
    (first
      | (go_at_call 145; refine (HT.out _ _ _ H0.out.drew).mono ?_; rintro e w1 ⟨rfl, q⟩; have H1 := hid q; clear q; have e0a := H1.out.kept (b := bs) (o := 0) (v := .string to) (by simp [boxK]); have e1a := H1.out.kept (b := bs) (o := 1) (v := .string nm) (by simp [boxK]); have e2a := H1.out.kept (b := bs) (o := 2) (v := .int .i64 num) (by simp [boxK]))
      | (go_at_call 146; refine (HA.out _ _ _ H1.out).mono ?_; rintro e w2 ⟨rfl, q⟩; have H2 := hid q; clear q; have e0b := H2.out.kept (b := bs) (o := 0) (v := .string to) (by simp [boxK]); have e1b := H2.out.kept (b := bs) (o := 1) (v := .string nm) (by simp [boxK]); have e2b := H2.out.kept (b := bs) (o := 2) (v := .int .i64 num) (by simp [boxK]))
      | (go_at_call 103; refine (add_new H2.out [yMov, x.local to, x.val ⟨nm, num⟩] (by simp) ⟨by decide, hst, hsa, trivial⟩ (by omega)).mono ?_; rintro e w3 ⟨rfl, q⟩; have H3 := hid q; clear q; have e0c := H3.out.kept (b := bs) (o := 0) (v := .string to) (by simp [boxK]); have e1c := H3.out.kept (b := bs) (o := 1) (v := .string nm) (by simp [boxK]); have e2c := H3.out.kept (b := bs) (o := 2) (v := .int .i64 num) (by simp [boxK])))
  all_goals
    go_wp2
    go_end0
    exact ⟨rfl, H3.out.unbox⟩

set_option maxRecDepth 100000 in
set_option maxHeartbeats 2000000 in
theorem stmt_op (h : Cw W x K w c s) (hE : Env W) {to : ByteArray} (hto : to.size ≤ maxLen) {o : Nat} (ho : o < 12) {a b : PV} (ha : a.ok) (hb : b.ok) (hG : s.g + 300 < 1000000) :
    Calls Tryz.prog 102 #[ptr c, stV (.inr (.inl (to, o, a, b)))] w fun e w' => e = .returned (.tuple #[]) ∧ Cw W x K w' c (s.add [opWords o, x.local to, x.val a, x.val b]) := by
  have hst := szLocal h.base to
  have hsa := szVal h.base ha
  have hsb := szVal h.base hb
  have hso := szOp ho
  have HW := hid (fun (K : List (Nat × Nat × Value)) (w : World) (s : Ck) (h : Cw W x K w c s) => word_c (h.env hE) ho)
  have HT := hid (fun (K : List (Nat × Nat × Value)) (w : World) (s : Ck) (h : Cw W x K w c s) => local_c h hto)
  have HA := hid (fun (K : List (Nat × Nat × Value)) (w : World) (s : Ck) (h : Cw W x K w c s) => value_c h ha)
  have HB := hid (fun (K : List (Nat × Nat × Value)) (w : World) (s : Ck) (h : Cw W x K w c s) => value_c h hb)
  have H0 := hid (h.box [.string to, .int .i64 (o : Int), .string a.name, .int .i64 a.num, .string b.name, .int .i64 b.num] 332)
  have lb := h.lt
  clear h ha hb hE
  obtain ⟨nm, num⟩ := a
  obtain ⟨nm2, num2⟩ := b
  dsimp only at H0 HA HB hsa hsb ⊢
  unfold stV
  have t0 := ta_qOperate_qSet
  have t1 := ta_qOperate_qOperate
  go_enter Tryz.func102, Tryz.ntmps102
  go_wp2_with fail
  generalize hwb : w.alloc (Obj.cells #[.string to, .int .i64 (o : Int), .string nm, .int .i64 num, .string nm2, .int .i64 num2] 332) = wb at *
  generalize w.heap.size = bs at *
  have e0 := H0.out.kept (b := bs) (o := 0) (v := .string to) (by simp [boxK])
  have e1 := H0.out.kept (b := bs) (o := 1) (v := .int .i64 (o : Int)) (by simp [boxK])
  have e2 := H0.out.kept (b := bs) (o := 2) (v := .string nm) (by simp [boxK])
  have e3 := H0.out.kept (b := bs) (o := 3) (v := .int .i64 num) (by simp [boxK])
  have e4 := H0.out.kept (b := bs) (o := 4) (v := .string nm2) (by simp [boxK])
  have e5 := H0.out.kept (b := bs) (o := 5) (v := .int .i64 num2) (by simp [boxK])
  go_region_held3 (fun w' => w'.cell? ⟨bs, 0, none⟩ = some (.string to) ∧ w'.cell? ⟨bs, 1, none⟩ = some (.int .i64 (o : Int)) ∧ w'.cell? ⟨bs, 2, none⟩ = some (.string nm) ∧ w'.cell? ⟨bs, 3, none⟩ = some (.int .i64 num) ∧ w'.cell? ⟨bs, 4, none⟩ = some (.string nm2) ∧ w'.cell? ⟨bs, 5, none⟩ = some (.int .i64 num2)) (go_keep)
    (first
      | (go_at_call 147; refine (HW.out _ _ _ H0.out.drew).mono ?_; rintro e w0 ⟨rfl, rfl⟩; have H4 := hid H0.out.drew; clear H0)
      | (go_at_call 145; refine (HT.out _ _ _ H4.out).mono ?_; rintro e w1 ⟨rfl, q⟩; have H1 := hid q; clear q H4; have e0a := H1.out.kept (b := bs) (o := 0) (v := .string to) (by simp [boxK]); have e1a := H1.out.kept (b := bs) (o := 1) (v := .int .i64 (o : Int)) (by simp [boxK]); have e2a := H1.out.kept (b := bs) (o := 2) (v := .string nm) (by simp [boxK]); have e3a := H1.out.kept (b := bs) (o := 3) (v := .int .i64 num) (by simp [boxK]); have e4a := H1.out.kept (b := bs) (o := 4) (v := .string nm2) (by simp [boxK]); have e5a := H1.out.kept (b := bs) (o := 5) (v := .int .i64 num2) (by simp [boxK]))
      | (go_at_call 146; refine (HA.out _ _ _ H1.out).mono ?_; rintro e w2 ⟨rfl, q⟩; have H2 := hid q; clear q H1; have e0b := H2.out.kept (b := bs) (o := 0) (v := .string to) (by simp [boxK]); have e1b := H2.out.kept (b := bs) (o := 1) (v := .int .i64 (o : Int)) (by simp [boxK]); have e2b := H2.out.kept (b := bs) (o := 2) (v := .string nm) (by simp [boxK]); have e3b := H2.out.kept (b := bs) (o := 3) (v := .int .i64 num) (by simp [boxK]); have e4b := H2.out.kept (b := bs) (o := 4) (v := .string nm2) (by simp [boxK]); have e5b := H2.out.kept (b := bs) (o := 5) (v := .int .i64 num2) (by simp [boxK]))
      | (go_at_call 146; refine (HB.out _ _ _ H2.out).mono ?_; rintro e w3 ⟨rfl, q⟩; have H3 := hid q; clear q H2; have e0c := H3.out.kept (b := bs) (o := 0) (v := .string to) (by simp [boxK]); have e1c := H3.out.kept (b := bs) (o := 1) (v := .int .i64 (o : Int)) (by simp [boxK]); have e2c := H3.out.kept (b := bs) (o := 2) (v := .string nm) (by simp [boxK]); have e3c := H3.out.kept (b := bs) (o := 3) (v := .int .i64 num) (by simp [boxK]); have e4c := H3.out.kept (b := bs) (o := 4) (v := .string nm2) (by simp [boxK]); have e5c := H3.out.kept (b := bs) (o := 5) (v := .int .i64 num2) (by simp [boxK]))
      | (go_at_call 103; refine (add_new H3.out [opWords o, x.local to, x.val ⟨nm, num⟩, x.val ⟨nm2, num2⟩] (by simp) ⟨hso, hst, hsa, hsb, trivial⟩ (by omega)).mono ?_; rintro e w5 ⟨rfl, q⟩; have H5 := hid q; clear q; have e0d := H5.out.kept (b := bs) (o := 0) (v := .string to) (by simp [boxK]); have e1d := H5.out.kept (b := bs) (o := 1) (v := .int .i64 (o : Int)) (by simp [boxK]); have e2d := H5.out.kept (b := bs) (o := 2) (v := .string nm) (by simp [boxK]); have e3d := H5.out.kept (b := bs) (o := 3) (v := .int .i64 num) (by simp [boxK]); have e4d := H5.out.kept (b := bs) (o := 4) (v := .string nm2) (by simp [boxK]); have e5d := H5.out.kept (b := bs) (o := 5) (v := .int .i64 num2) (by simp [boxK])))
  all_goals
    go_wp2
    go_end0
    exact ⟨rfl, H5.out.unbox⟩

set_option maxRecDepth 100000 in
set_option maxHeartbeats 2000000 in
theorem stmt_put (h : Cw W x K w c s) {of : ByteArray} (hof : of.size ≤ maxLen) {a v : PV} (ha : a.ok) (hv : v.ok) (hf : 0 ≤ (x.var of).1 ∧ (x.var of).1 ≤ 6 ∧ 0 ≤ (x.var of).2 ∧ (x.var of).2 ≤ 6) (hG : s.g + 300 < 1000000) :
    Calls Tryz.prog 102 #[ptr c, stV (.inr (.inr (.inr (.inl (of, a, v)))))] w fun e w' => e = .returned (.tuple #[]) ∧ Cw W x K w' c (x.put of a v s) := by
  have KC := hid (put_c (h.alloc (.cells #[.string of, .string a.name, .int .i64 a.num, .string v.name, .int .i64 v.num] 309)) hof ha hv hf (by omega))
  clear h
  unfold stV
  have t0 := ta_qPut_qSet
  have t1 := ta_qPut_qOperate
  have t2 := ta_qPut_qGet
  have t3 := ta_qPut_qPut
  go_enter Tryz.func102, Tryz.ntmps102
  go_wp2_with fail
  refine KC.out.mono ?_
  rintro e w1 ⟨rfl, q⟩
  have H1 := hid q
  clear q KC
  go_wp2
  go_end0
  exact ⟨rfl, H1.out⟩

set_option maxRecDepth 100000 in
set_option maxHeartbeats 2000000 in
theorem stmt_outs (h : Cw W x K w c s) {k : Bk} (hk : s.blk = some k) {a : PV} (ha : a.ok) (hG : s.g + 300 < 1000000) :
    Calls Tryz.prog 102 #[ptr c, stV (.inr (.inr (.inr (.inr (.inl a)))))] w fun e w' => e = .returned (.tuple #[]) ∧ Cw W x K w' c (x.outC a s) := by
  have KC := hid (out_s (h.alloc (.cells #[.string a.name, .int .i64 a.num] 311)) hk ha (by omega))
  clear h
  unfold stV
  have t0 := ta_qOut_qSet
  have t1 := ta_qOut_qOperate
  have t2 := ta_qOut_qGet
  have t3 := ta_qOut_qPut
  have t4 := ta_qOut_qOut
  go_enter Tryz.func102, Tryz.ntmps102
  go_wp2_with fail
  refine KC.out.mono ?_
  rintro e w1 ⟨rfl, q⟩
  have H1 := hid q
  clear q KC
  go_wp2
  go_end0
  exact ⟨rfl, H1.out⟩

set_option maxRecDepth 100000 in
set_option maxHeartbeats 2000000 in
theorem stmt_outn (h : Cw W x K w c s) (hk : s.blk = none) {a : PV} (ha : a.ok) (hG : s.g + 300 < 1000000) :
    Calls Tryz.prog 102 #[ptr c, stV (.inr (.inr (.inr (.inr (.inl a)))))] w fun e w' => e = .returned (.tuple #[]) ∧ Cw W x K w' c (x.outC a s) := by
  have KC := hid (out_n (h.alloc (.cells #[.string a.name, .int .i64 a.num] 311)) hk ha (by omega))
  clear h
  unfold stV
  have t0 := ta_qOut_qSet
  have t1 := ta_qOut_qOperate
  have t2 := ta_qOut_qGet
  have t3 := ta_qOut_qPut
  have t4 := ta_qOut_qOut
  go_enter Tryz.func102, Tryz.ntmps102
  go_wp2_with fail
  refine KC.out.mono ?_
  rintro e w1 ⟨rfl, q⟩
  have H1 := hid q
  clear q KC
  go_wp2
  go_end0
  exact ⟨rfl, H1.out⟩

set_option maxRecDepth 100000 in
set_option maxHeartbeats 2000000 in
theorem stmt_getr (h : Cw W x K w c s) {k : Bk} (hk : s.blk = some k) (hA : k.again < 100000000) {to of : ByteArray} (hto : to.size ≤ maxLen) (hof : of.size ≤ maxLen) {a : PV} (ha : a.ok) {f : Nat} {n : Int} (hfn : x.var of = ((f : Int), n)) (hf : f < 6) (hn : 0 ≤ n ∧ n ≤ 6) (hp : k.puts[f]? = some false) (hG : s.g + 300 < 1000000) :
    Calls Tryz.prog 102 #[ptr c, stV (.inr (.inr (.inl (to, of, a))))] w fun e w' => e = .returned (.tuple #[]) ∧ Cw W x K w' c (x.get to of a s) := by
  have KC := hid (get_r (h.alloc (.cells #[.string to, .string of, .string a.name, .int .i64 a.num] 307)) hk hA hto hof ha hfn hf hn hp (by omega))
  clear h
  unfold stV
  have t0 := ta_qGet_qSet
  have t1 := ta_qGet_qOperate
  have t2 := ta_qGet_qGet
  go_enter Tryz.func102, Tryz.ntmps102
  go_wp2_with fail
  refine KC.out.mono ?_
  rintro e w1 ⟨rfl, q⟩
  have H1 := hid q
  clear q KC
  go_wp2
  go_end0
  exact ⟨rfl, H1.out⟩

set_option maxRecDepth 100000 in
set_option maxHeartbeats 2000000 in
theorem stmt_getw (h : Cw W x K w c s) {k : Bk} (hk : s.blk = some k) (hA : k.again < 100000000) {to of : ByteArray} (hto : to.size ≤ maxLen) (hof : of.size ≤ maxLen) {a : PV} (ha : a.ok) {f : Nat} {n : Int} (hfn : x.var of = ((f : Int), n)) (hf : f < 6) (hn : 0 ≤ n ∧ n ≤ 6) (hp : k.puts[f]? = some true) (hG : s.g + 300 < 1000000) :
    Calls Tryz.prog 102 #[ptr c, stV (.inr (.inr (.inl (to, of, a))))] w fun e w' => e = .returned (.tuple #[]) ∧ Cw W x K w' c (x.get to of a s) := by
  have KC := hid (get_w (h.alloc (.cells #[.string to, .string of, .string a.name, .int .i64 a.num] 307)) hk hA hto hof ha hfn hf hn hp (by omega))
  clear h
  unfold stV
  have t0 := ta_qGet_qSet
  have t1 := ta_qGet_qOperate
  have t2 := ta_qGet_qGet
  go_enter Tryz.func102, Tryz.ntmps102
  go_wp2_with fail
  refine KC.out.mono ?_
  rintro e w1 ⟨rfl, q⟩
  have H1 := hid q
  clear q KC
  go_wp2
  go_end0
  exact ⟨rfl, H1.out⟩

end
end Go.Proofs.YtfhkfnoajbbfdabGreatDoor

/- The coder at a list of statements; at an if. -/
namespace Go.Proofs.YtfhkfnoajbbfdabGreatDoor
open Go.RowKit

section
variable {W w w' : World} {x : Cx} {K : List (Nat × Nat × Value)} {m : Cm} {c : Nat} {s : Ck} {ids : Ids} {es : List En} {rv : Value}

set_option maxRecDepth 100000 in
set_option maxHeartbeats 2000000 in
theorem stmts_m (hrow : W.ownsRow 0 222 1 rv es.length (es.map (enV ids))) (hn : es.length ≤ 1000) (J : Nat → World → Prop) (hlow : Hid (∀ k wr, J k wr → Below W.heap.size W wr))
    (KC : Hid (∀ k wr (hk : k < es.length), J k wr → Calls Tryz.prog 102 #[ptr c, enV ids es[k]] wr fun e w' => e = .returned (.tuple #[]) ∧ J (k + 1) w')) (h0 : Hid (J 0 w)) :
    Calls Tryz.prog 66 #[ptr c, rv] w fun e w' => e = .returned (.tuple #[]) ∧ J es.length w' := by
  obtain ⟨ra, rk, hrv⟩ := slice_of hrow
  have HC : Hid (∀ k, (hk : k < es.length) → ∃ g, ra = some ⟨g, 0, none⟩ ∧ g < W.heap.size ∧ W.cell? ⟨g, k, none⟩ = some (enV ids es[k])) := hid fun k hk => by
    rcases hrow.2 with ⟨e, e'⟩ | ⟨g, cap, cur, e, h1, h2, h3, h4, h5, h6⟩
    · omega
    · rw [hrv] at e
      injection e with e1 _ _
      have hc := hrow.cells (g := g) (by rw [hrv, e1]; rfl)
      have e2 := hc k (enV ids es[k]) (by simp [List.getElem?_eq_getElem hk])
      have e3 : (⟨g, 0, none⟩ : Addr).add k = ⟨g, k, none⟩ := by cases k <;> simp [Addr.add]
      rw [e3] at e2
      exact ⟨g, e1, (Array.getElem?_eq_some_iff.1 h2).1, e2⟩
  rw [hrv]
  clear hrow hrv
  go_enter Tryz.func66, Tryz.ntmps66
  go_wp2
  go_loopw [8] (fun v8 wr => ∃ k : Nat, k ≤ es.length ∧ v8 = .int .i64 k ∧ Hid (J k wr)) (fun v8 _ => es.length - (intOf v8).toNat)
  case atStart => exact ⟨0, Nat.zero_le _, rfl, h0⟩
  case round =>
    obtain ⟨k, hk, rfl, hB⟩ := hrel
    by_cases hlt : k < es.length
    · have hlt' : (k : Int) < (es.length : Int) := by omega
      have hi0 : (0 : Int) ≤ (k : Int) := by omega
      obtain ⟨g, hra, hg, hcell⟩ := HC.out k hlt
      subst hra
      have hcell' : wr.cell? ⟨g, k, none⟩ = some (enV ids es[k]) := ((hlow.out k wr hB.out).cell (p := ⟨g, k, none⟩) hg).trans hcell
      have D1 := hid (KC.out k wr hlt hB.out)
      clear hcell KC HC
      generalize enV ids es[k] = v at *
      go_wp2_with fail
      refine D1.out.mono ?_
      rintro e w1 ⟨rfl, q⟩
      have H1 := hid q
      clear q D1
      go_wp2
      go_roundw
      case rel => exact ⟨k + 1, by omega, by go_num, H1⟩
      case measure => simp [intOf]; omega
    · have hlt' : ¬ (k : Int) < (es.length : Int) := by omega
      have hke : k = es.length := by omega
      rw [hke] at hB
      go_wp2
      go_end0
      exact ⟨rfl, hB.out⟩

/-- What lies ahead of the coder, in a world of its. -/
theorem Cw.old (h : Cw W x K w c s) {j o : Nat} {v : Value} (hj : W.cell? ⟨j, o, none⟩ = some v) : w.cell? ⟨j, o, none⟩ = some v :=
  (h.low.cell (p := ⟨j, o, none⟩) (World.block_lt_of_cell? _ _ hj)).trans hj

set_option maxRecDepth 100000 in
set_option maxHeartbeats 2000000 in
theorem stmt_if (h : Cw W x K w c s) {j : Nat} {a : PV} (ha : a.ok) (hj0 : W.cell? ⟨j, 0, none⟩ = some rv) (hj1 : W.cell? ⟨j, 1, none⟩ = some (.string a.name)) (hj2 : W.cell? ⟨j, 2, none⟩ = some (.int .i64 a.num))
    (body : Ck → Ck) (KB : Hid (∀ K w, Cw W x K w c (s.add [yJz, x.val a]) → Calls Tryz.prog 66 #[ptr c, rv] w fun e w' => e = .returned (.tuple #[]) ∧ Cw W x K w' c (body (s.add [yJz, x.val a]))))
    (hbl : (s.add [yJz, x.val a]).L.length ≤ (body (s.add [yJz, x.val a])).L.length) (hbg : (body (s.add [yJz, x.val a])).g < 10000000) (hG : s.g + 300 < 1000000) :
    Calls Tryz.prog 102 #[ptr c, .iface 312 (ptr j)] w fun e w' => e = .returned (.tuple #[]) ∧ Cw W x K w' c ((body (s.add [yJz, x.val a])).land s.L.length) := by
  have hsa := szVal h.base ha
  have HA := hid (fun (K : List (Nat × Nat × Value)) (w : World) (s : Ck) (h : Cw W x K w c s) => value_c h ha)
  have HJ := hid (fun (K : List (Nat × Nat × Value)) (w : World) (s : Ck) (h : Cw W x K w c s) => (⟨h.old hj0, h.old hj1, h.old hj2⟩ : w.cell? ⟨j, 0, none⟩ = some rv ∧ w.cell? ⟨j, 1, none⟩ = some (.string a.name) ∧ w.cell? ⟨j, 2, none⟩ = some (.int .i64 a.num)))
  have e := HJ.out _ _ _ h
  obtain ⟨e0, e1, e2⟩ := e
  have H0 := hid h
  have lb := h.lt
  have hL := h.ok.l
  clear h ha hj0 hj1 hj2
  obtain ⟨nm, num⟩ := a
  dsimp only at HA HJ hsa e1 e2 KB hbl hbg ⊢
  have t0 := ta_pIf_qSet
  have t1 := ta_pIf_qOperate
  have t2 := ta_pIf_qGet
  have t3 := ta_pIf_qPut
  have t4 := ta_pIf_qOut
  have t5 := ta_pIf_pAtomic
  have t6 := ta_pIf_pIf
  go_enter Tryz.func102, Tryz.ntmps102
  go_wp2_with fail
  go_region_held3 (fun w' => w'.cell? ⟨j, 0, none⟩ = some rv ∧ w'.cell? ⟨j, 1, none⟩ = some (.string nm) ∧ w'.cell? ⟨j, 2, none⟩ = some (.int .i64 num)) (go_keep)
    (first
      | (go_at_call 146; refine (HA.out _ _ _ H0.out.drew).mono ?_; rintro e w1 ⟨rfl, q⟩; have H1 := hid q; clear q; have f1 := HJ.out _ _ _ H1.out)
      | (go_at_call 152; refine (leap_new H1.out [yJz, x.val ⟨nm, num⟩] (by simp) ⟨by decide, hsa, trivial⟩ (by omega)).mono ?_; rintro e w2 ⟨bl, ba, rfl, q⟩; have H2 := hid q; clear q; have f2 := HJ.out _ _ _ H2.out))
  all_goals
    obtain ⟨g0, g1, g2⟩ := f2
    go_wp2_with fail
    refine (KB.out _ _ H2.out).mono ?_
    rintro e w3 ⟨rfl, q⟩
    have H3 := hid q
    clear q
    go_wp2_with fail
    refine (land_c H3.out (bl := bl) (ba := ba) (n := s.L.length) (by simp) (by simp) (by rw [add_len] at hbl; omega) (by omega)).mono ?_
    rintro e w4 ⟨rfl, q⟩
    have H4 := hid q
    clear q
    go_wp2
    go_end0
    exact ⟨rfl, H4.out.less (K' := K) (fun p hp => List.mem_cons_of_mem _ (List.mem_cons_of_mem _ hp))⟩
end
end Go.Proofs.YtfhkfnoajbbfdabGreatDoor

/- The coder at a loop. -/
namespace Go.Proofs.YtfhkfnoajbbfdabGreatDoor
open Go.RowKit

def Cx.loopC (x : Cx) (n : Int) (body : Ck → Ck) (s : Ck) : Ck :=
  let left := x.own (36 + (s.loops : Int))
  let s1 := ({ s with loops := s.loops + 1 } : Ck).add [yStore, y0, left, dec n]
  let s3 := (((body s1).add [yLoad, yR4, y0, left]).add [ySub, yR4, yR4, y1]).add [yStore, y0, left, yR4]
  let s4 := ((s3.add [yJz, yR4]).back s1.L.length).land s3.L.length
  { s4 with loops := s4.loops - 1 }

section
variable {W w w' : World} {x : Cx} {K : List (Nat × Nat × Value)} {m : Cm} {c : Nat} {s : Ck} {rv : Value}

theorem wrap_small (z : Int) (h0 : 0 ≤ z) (h1 : z ≤ 1000) : wrap64 z = z := by unfold wrap64; omega

/-- How many loops are open is set. -/
theorem Cd.setLoops (h : Cd W x K m w c s) (n : Nat) : Cd W x K m (w.setCell ⟨c, 4, none⟩ (.int .i64 n)) c { s with loops := n } := by
  have lb := h.lt
  have hset : Chg (fun k j => k = c ∧ j = 4) w (w.setCell ⟨c, 4, none⟩ (.int .i64 n)) := (Chg.refl _ w).setCell (fun _ => ⟨rfl, rfl⟩) _
  have nk : ∀ k l, m.lab k = l → l ≠ 1 → ∀ j, ¬ (k = c ∧ j = 4) := fun k l hk h1 j e => h1 (by rw [← hk, e.1]; exact h.lc)
  have hM : ∀ k j, k < w.heap.size → (k = c ∧ j = 4) → m.lab k ≠ 0 := by
    rintro k j _ ⟨rfl, _⟩
    rw [h.lc]; omega
  have kc : ∀ j, j ≠ 4 → ¬ (c = c ∧ j = 4) := fun j hj e => hj e.2
  refine h.turn ⟨h.ok.l, h.ok.z, h.ok.t, h.ok.tb, h.ok.u⟩ hset (fun k j hk e => ⟨hM k j hk e, fun _ => by omega⟩) (fun _ _ => rfl) (fun k hk => h.lz k (by simpa [size_set] using hk)) ((hset.cell _ _ lb (kc 0 (by omega))).trans h.c0) (cell_set_eq h.c4 rfl) ((hset.cell _ _ lb (kc 5 (by omega))).trans h.c5) ((hset.cell _ _ lb (kc 6 (by omega))).trans h.c6) (ownsRow_chg h.lrow hset (fun q hq => nk _ _ (h.llv q hq) (by omega))) (ownsRow_chg h.trow hset (fun q hq => nk _ _ (h.ltv q hq) (by omega))) (h.tl.keep hset hM fun _ _ e => e) (fun k' hk' => ?_) h.llv h.ltv
  have hb := h.bk k' hk'
  exact hb.keep hset hM (nk _ _ hb.lbk (by omega)) (fun q hq => nk _ _ (hb.luv q hq) (by omega)) (fun _ _ => rfl) rfl rfl rfl

theorem Cw.setLoops (h : Cw W x K w c s) (n : Nat) : Cw W x K (w.setCell ⟨c, 4, none⟩ (.int .i64 n)) c { s with loops := n } := let ⟨m, h⟩ := h; ⟨m, h.setLoops n⟩
theorem Cw.free (h : Cw W x K w c s) (j : Nat) : w.frozen? ⟨c, j, none⟩ = false := let ⟨_, h⟩ := h; h.free j

set_option maxRecDepth 100000 in
set_option maxHeartbeats 4000000 in
theorem loop_c (h : Cw W x K w c s) {j : Nat} {n : Int} (hn : 0 ≤ n ∧ n ≤ 100) (hj0 : W.cell? ⟨j, 0, none⟩ = some rv) (hj1 : W.cell? ⟨j, 1, none⟩ = some (.int .i64 n)) (hlo : s.loops ≤ 10)
    (body : Ck → Ck) (KB : Hid (∀ K w, Cw W x K w c (({ s with loops := s.loops + 1 } : Ck).add [yStore, y0, x.own (36 + (s.loops : Int)), dec n]) → Calls Tryz.prog 66 #[ptr c, rv] w fun e w' => e = .returned (.tuple #[]) ∧ Cw W x K w' c (body (({ s with loops := s.loops + 1 } : Ck).add [yStore, y0, x.own (36 + (s.loops : Int)), dec n]))))
    (hbl : s.L.length + 1 ≤ (body (({ s with loops := s.loops + 1 } : Ck).add [yStore, y0, x.own (36 + (s.loops : Int)), dec n])).L.length) (hbo : (body (({ s with loops := s.loops + 1 } : Ck).add [yStore, y0, x.own (36 + (s.loops : Int)), dec n])).loops = s.loops + 1) (hbg : (body (({ s with loops := s.loops + 1 } : Ck).add [yStore, y0, x.own (36 + (s.loops : Int)), dec n])).g + 100 < 10000000) (hG : s.g + 300 < 1000000) :
    Calls Tryz.prog 153 #[ptr c, ptr j] w fun e w' => e = .returned (.tuple #[]) ∧ Cw W x K w' c (x.loopC n body s) := by
  have hth := h.th
  have hL := h.ok.l
  have hR : x.loopC n body s = { ((((((body (({ s with loops := s.loops + 1 } : Ck).add [yStore, y0, x.own (36 + (s.loops : Int)), dec n])).add [yLoad, yR4, y0, x.own (36 + (s.loops : Int))]).add [ySub, yR4, yR4, y1]).add [yStore, y0, x.own (36 + (s.loops : Int)), yR4]).add [yJz, yR4]).back (s.L.length + 1)).land ((((body (({ s with loops := s.loops + 1 } : Ck).add [yStore, y0, x.own (36 + (s.loops : Int)), dec n])).add [yLoad, yR4, y0, x.own (36 + (s.loops : Int))]).add [ySub, yR4, yR4, y1]).add [yStore, y0, x.own (36 + (s.loops : Int)), yR4]).L.length with loops := s.loops } := by
    simp only [Cx.loopC, add_len]
    congr 1
    show (body _).loops - 1 = _
    rw [hbo]; rfl
  rw [hR]
  have HJ := hid (fun (K : List (Nat × Nat × Value)) (w : World) (s : Ck) (h : Cw W x K w c s) => (⟨h.old hj0, h.old hj1⟩ : w.cell? ⟨j, 0, none⟩ = some rv ∧ w.cell? ⟨j, 1, none⟩ = some (.int .i64 n)))
  have c4 := h.c4
  have H0 := hid h
  have lb := h.lt
  have hsl : (x.own (36 + (s.loops : Int))).size ≤ 30 := szOwn hth _ (by omega) (by omega)
  have hsn : (dec n).size ≤ 30 := szDec _ (by omega) (by omega)
  have hOW := hid (own_c h (36 + (s.loops : Int)) (by omega) (by omega))
  generalize hleft : x.own (36 + (s.loops : Int)) = left at *
  clear h hj0 hj1 hR hleft
  have hl0 : (0 : Int) ≤ (s.loops : Int) := by omega
  have hl1 : (s.loops : Int) ≤ 10 := by omega
  generalize hlo' : (s.loops : Int) = lo at *
  have q1 := wrap_small (36 + lo) (by omega) (by omega)
  have q2 := wrap_small (lo + 1) (by omega) (by omega)
  have q3 : wrap64 (lo + 1 - 1) = lo := by rw [Int.add_sub_cancel]; exact wrap_small _ (by omega) (by omega)
  go_enter Tryz.func153, Tryz.ntmps153
  go_wp2_with fail
  refine hOW.out.mono ?_
  rintro e w1 ⟨rfl, q⟩
  have d4 := q.c4
  rw [hlo'] at d4
  have df := q.free 4
  have H1 := hid (q.setLoops (s.loops + 1))
  have lb1 := q.lt
  clear q c4 hOW H0
  rw [show (((s.loops + 1 : Nat)) : Int) = lo + 1 from by omega] at H1
  go_wp2_with fail
  generalize hw1 : w1.setCell ⟨c, 4, none⟩ (.int .i64 (lo + 1)) = w2 at *
  obtain ⟨e0, e1⟩ := HJ.out _ _ _ H1.out
  clear d4 df hw1
  go_region_held3 (fun w' => w'.cell? ⟨j, 1, none⟩ = some (.int .i64 n)) (go_keep)
    (first
      | (go_at_call 104; refine (itoa_c H1.out.drew n (by omega) (by omega)).mono ?_; rintro e w3 ⟨rfl, q⟩; have H3 := hid q; clear q; have f3 := (HJ.out _ _ _ H3.out).2)
      | (go_at_call 103; refine (add_new H3.out [yStore, y0, left, dec n] (by simp) ⟨by decide, by decide, hsl, hsn, trivial⟩ (by show s.g < _; omega)).mono ?_; rintro e w4 ⟨rfl, q⟩; have H4 := hid q; clear q; have f4 := (HJ.out _ _ _ H4.out).2))
  all_goals
    obtain ⟨g0, g1⟩ := HJ.out _ _ _ H4.out
    go_wp2_with fail
    refine (place_c H4.out).mono ?_
    rintro e w5 ⟨rfl, rfl⟩
    rw [show (({ s with loops := s.loops + 1 } : Ck).add [yStore, y0, left, dec n]).L.length = s.L.length + 1 from by rw [add_len]]
    go_wp2_with fail
    refine (KB.out _ _ H4.out).mono ?_
    rintro e w6 ⟨rfl, q⟩
    have H6 := hid q
    clear q H4 KB
    generalize hbody : body (({ s with loops := s.loops + 1 } : Ck).add [yStore, y0, left, dec n]) = B at *
    go_wp2_with fail
    refine (add_new H6.out [yLoad, yR4, y0, left] (by simp) ⟨by decide, by decide, by decide, hsl, trivial⟩ (by omega)).mono ?_
    rintro e w7 ⟨rfl, q⟩
    have H7 := hid q
    clear q H6
    go_wp2_with fail
    refine (add_new H7.out [ySub, yR4, yR4, y1] (by simp) ⟨by decide, by decide, by decide, by decide, trivial⟩ (by show B.g + 1 < _; omega)).mono ?_
    rintro e w8 ⟨rfl, q⟩
    have H8 := hid q
    clear q H7
    go_wp2_with fail
    refine (add_new H8.out [yStore, y0, left, yR4] (by simp) ⟨by decide, by decide, hsl, by decide, trivial⟩ (by show B.g + 2 < _; omega)).mono ?_
    rintro e w9 ⟨rfl, q⟩
    have H9 := hid q
    clear q H8
    go_wp2_with fail
    refine (leap_new H9.out [yJz, yR4] (by simp) ⟨by decide, by decide, trivial⟩ (by show B.g + 3 < _; omega)).mono ?_
    rintro e w10 ⟨bl, ba, rfl, q⟩
    have H10 := hid q
    clear q H9
    go_wp2_with fail
    refine (back_c H10.out (n := s.L.length + 1) (by omega) (by show B.g + 4 < _; omega)).mono ?_
    rintro e w11 ⟨rfl, q⟩
    have H11 := hid q
    clear q H10
    go_wp2_with fail
    refine (land_c H11.out (bl := bl) (ba := ba) (n := (((B.add [yLoad, yR4, y0, left]).add [ySub, yR4, yR4, y1]).add [yStore, y0, left, yR4]).L.length) (by simp) (by simp) (by simp only [add_len, back_len]; omega) (by show B.g + 5 < _; omega)).mono ?_
    rintro e w12 ⟨rfl, q⟩
    have d4 := q.c4
    have hlB : ((((((B.add [yLoad, yR4, y0, left]).add [ySub, yR4, yR4, y1]).add [yStore, y0, left, yR4]).add [yJz, yR4]).back (s.L.length + 1)).land (((B.add [yLoad, yR4, y0, left]).add [ySub, yR4, yR4, y1]).add [yStore, y0, left, yR4]).L.length).loops = s.loops + 1 := hbo
    rw [hlB, show (((s.loops + 1 : Nat)) : Int) = lo + 1 from by omega] at d4
    have df := q.free 4
    have H12 := hid ((q.setLoops s.loops).less (K' := K) (fun p hp => List.mem_cons_of_mem _ (List.mem_cons_of_mem _ hp)))
    rw [hlo'] at H12
    clear q H11
    go_wp2
    go_end0
    subst hbody
    exact ⟨rfl, H12.out⟩
end
end Go.Proofs.YtfhkfnoajbbfdabGreatDoor

/- The coder: commit. -/
namespace Go.Proofs.YtfhkfnoajbbfdabGreatDoor
open Go.RowKit

section
variable {W w w' : World} {x : Cx} {K : List (Nat × Nat × Value)} {m : Cm} {c : Nat} {s : Ck}

theorem undoC_len (x : Cx) (s : Ck) : s.L.length < (x.undoC s).L.length := by
  simp only [Cx.undoC, back_len]
  have := (unlock_fair x).eachL s.bk.puts 0 (s.lands s.bk.undo)
  rw [lands_len] at this
  omega

theorem undoC_g (x : Cx) (s : Ck) : (x.undoC s).g ≤ s.g + s.bk.undo.length + s.bk.puts.length * 6 + 1 := by
  have := (unlock_fair x).eachG s.bk.puts 0 (s.lands s.bk.undo)
  rw [lands_g] at this
  show (eachB (fun i => x.unlockC i) s.bk.puts 0 (s.lands s.bk.undo)).g + 1 ≤ _
  omega

theorem undoC_blk (x : Cx) (s : Ck) {k : Bk} (hk : s.blk = some k) : ∃ k', (x.undoC s).blk = some k' ∧ k.sim k' :=
  (unlock_fair x).eachK s.bk.puts 0 (s.lands s.bk.undo) k ((lands_blk _ _).trans hk)

set_option maxRecDepth 100000 in
set_option maxHeartbeats 4000000 in
theorem commit_c (h : Cw W x K w c s) {k : Bk} (hk : s.blk = some k) (hA : k.again < 100000000) (hG : s.g + 1000 < 1000000) :
    Calls Tryz.prog 191 #[ptr c] w fun e w' => e = .returned (.tuple #[]) ∧ Cw W x K w' c (x.commit s) := by
  obtain ⟨b, c5, hb⟩ := h.cells hk
  obtain ⟨p0, p1, p2, p3, p4, p5, hp⟩ := list6 hb.n2
  obtain ⟨q0, q1, q2, q3, q4, q5, hq⟩ := list6 hb.n1
  have hR : x.commit s = ((x.undoC (((eachB (fun i => x.storeC i) [p0, p1, p2, p3, p4, p5] 0 (eachB (fun i => x.lookC i) [q0, q1, q2, q3, q4, q5] 0 (((eachB (fun i => x.lockC i) [p0, p1, p2, p3, p4, p5] 0 s).add [yXadd, yR5, y0, dec 12, y1]).add [yAdd, yR5, yR5, y1]))).add [yFence]).add [yJmp])).land ((eachB (fun i => x.storeC i) [p0, p1, p2, p3, p4, p5] 0 (eachB (fun i => x.lookC i) [q0, q1, q2, q3, q4, q5] 0 (((eachB (fun i => x.lockC i) [p0, p1, p2, p3, p4, p5] 0 s).add [yXadd, yR5, y0, dec 12, y1]).add [yAdd, yR5, yR5, y1]))).add [yFence]).L.length) := by
    simp only [Cx.commit, bk_of hk, hp, hq]
  rw [hR]
  have g0 := hb.p 0 p0 (by rw [hp]; rfl)
  have g1 := hb.p 1 p1 (by rw [hp]; rfl)
  have g2 := hb.p 2 p2 (by rw [hp]; rfl)
  have g3 := hb.p 3 p3 (by rw [hp]; rfl)
  have g4 := hb.p 4 p4 (by rw [hp]; rfl)
  have g5 := hb.p 5 p5 (by rw [hp]; rfl)
  simp only [Nat.reduceAdd] at g0 g1 g2 g3 g4 g5
  obtain ⟨k1, hk1, s1⟩ := (lock_fair x).eachK [p0, p1, p2, p3, p4, p5] 0 s k hk
  have hg1 := (lock_fair x).eachG [p0, p1, p2, p3, p4, p5] 0 s
  have H0 := hid h
  have hmf : ∀ (fn : Fn) (first cap : Array Value) (w : World), (Instr.makeFunc fn first cap).run Tryz.prog w = .ok (.func fn first cap) w := fun _ _ _ _ => rfl
  simp only [List.length_cons, List.length_nil] at hg1
  clear h hR hb
  go_enter Tryz.func191, Tryz.ntmps191
  go_wp2_with fail
  refine (each_wm (fun i => x.lockC i) (lock_fair x) entLock (fun i w s k hi h hk hG => lock_c h hk (by omega) (by omega) hG) H0.out hk (by omega)).mono ?_
  rintro e w1 ⟨rfl, q⟩
  have H1 := hid q
  clear q g0 g1 g2 g3 g4 g5 c5
  generalize hS1 : eachB (fun i => x.lockC i) [p0, p1, p2, p3, p4, p5] 0 s = S1 at *
  go_wp2_with fail
  go_region_law (first
    | (go_simp; go_at_call 219; refine (clock_c H1.out.drew).mono ?_; rintro e w2 ⟨rfl, q⟩; have H2 := hid q; clear q)
    | (go_simp; go_at_call 103; refine (add_new H2.out [yXadd, yR5, y0, dec 12, y1] (by simp) ⟨by decide, by decide, by decide, szDec _ (by omega) (by omega), by decide, trivial⟩ (by omega)).mono ?_; rintro e w3 ⟨rfl, q⟩; have H3 := hid q; clear q))
  go_wp2_with fail
  refine (add_new H3.out [yAdd, yR5, yR5, y1] (by simp) ⟨by decide, by decide, by decide, by decide, trivial⟩ (by show S1.g + 1 < _; omega)).mono ?_
  rintro e w4 ⟨rfl, q⟩
  have hk2 : ((S1.add [yXadd, yR5, y0, dec 12, y1]).add [yAdd, yR5, yR5, y1]).blk = some k1 := hk1
  obtain ⟨b2, c5, hb⟩ := q.cells hk2
  have hq1 : k1.gets = [q0, q1, q2, q3, q4, q5] := s1.1.trans hq
  have g0 := hb.g 0 q0 (by rw [hq1]; rfl)
  have g1 := hb.g 1 q1 (by rw [hq1]; rfl)
  have g2 := hb.g 2 q2 (by rw [hq1]; rfl)
  have g3 := hb.g 3 q3 (by rw [hq1]; rfl)
  have g4 := hb.g 4 q4 (by rw [hq1]; rfl)
  have g5 := hb.g 5 q5 (by rw [hq1]; rfl)
  have H4 := hid q
  have hg2 : ((S1.add [yXadd, yR5, y0, dec 12, y1]).add [yAdd, yR5, yR5, y1]).g = S1.g + 2 := rfl
  clear q hb H2 H3 H1
  generalize hS2 : (S1.add [yXadd, yR5, y0, dec 12, y1]).add [yAdd, yR5, yR5, y1] = S2 at *
  obtain ⟨k3, hk3, s3⟩ := (look_fair x).eachK [q0, q1, q2, q3, q4, q5] 0 S2 k1 hk2
  have hg3 := (look_fair x).eachG [q0, q1, q2, q3, q4, q5] 0 S2
  simp only [List.length_cons, List.length_nil] at hg3
  go_wp2_with fail
  refine (each_wm (fun i => x.lookC i) (look_fair x) entLook (fun i w s k hi h hk hG => look_c h hk (by omega) (by omega) hG) H4.out hk2 (by omega)).mono ?_
  rintro e w5 ⟨rfl, q⟩
  clear g0 g1 g2 g3 g4 g5 c5
  obtain ⟨b3, c5, hb⟩ := q.cells hk3
  have hp3 : k3.puts = [p0, p1, p2, p3, p4, p5] := s3.2.1.trans (s1.2.1.trans hp)
  have g0 := hb.p 0 p0 (by rw [hp3]; rfl)
  have g1 := hb.p 1 p1 (by rw [hp3]; rfl)
  have g2 := hb.p 2 p2 (by rw [hp3]; rfl)
  have g3 := hb.p 3 p3 (by rw [hp3]; rfl)
  have g4 := hb.p 4 p4 (by rw [hp3]; rfl)
  have g5 := hb.p 5 p5 (by rw [hp3]; rfl)
  simp only [Nat.reduceAdd] at g0 g1 g2 g3 g4 g5
  have H5 := hid q
  clear q hb H4
  generalize hS3 : eachB (fun i => x.lookC i) [q0, q1, q2, q3, q4, q5] 0 S2 = S3 at *
  obtain ⟨k4, hk4, s4⟩ := (store_fair x).eachK [p0, p1, p2, p3, p4, p5] 0 S3 k3 hk3
  have hg4 := (store_fair x).eachG [p0, p1, p2, p3, p4, p5] 0 S3
  simp only [List.length_cons, List.length_nil] at hg4
  go_wp2_with fail
  refine (each_wm (fun i => x.storeC i) (store_fair x) entStore (fun i w s k hi h hk hG => store_c h (by omega) (by omega) hG) H5.out hk3 (by omega)).mono ?_
  rintro e w6 ⟨rfl, q⟩
  have H6 := hid q
  clear q g0 g1 g2 g3 g4 g5 c5 H5
  generalize hS4 : eachB (fun i => x.storeC i) [p0, p1, p2, p3, p4, p5] 0 S3 = S4 at *
  go_wp2_with fail
  refine (add_new H6.out [yFence] (by simp) ⟨by decide, trivial⟩ (by omega)).mono ?_
  rintro e w7 ⟨rfl, q⟩
  have H7 := hid q
  clear q H6
  go_wp2_with fail
  refine (leap_new H7.out [yJmp] (by simp) ⟨by decide, trivial⟩ (by show S4.g + 1 < _; omega)).mono ?_
  rintro e w8 ⟨bl, ba, rfl, q⟩
  have hk8 : ((S4.add [yFence]).add [yJmp]).blk = some k4 := hk4
  have hu := (q.ok.u k4 hk8).1
  have hu' : k4.undo.length ≤ S4.g + 2 := hu
  have hn4 : k4.puts.length = 6 := by rw [s4.2.1, s3.2.1, s1.2.1, hp]; rfl
  have ha4 : k4.again = k.again := s4.2.2.2.2.trans (s3.2.2.2.2.trans s1.2.2.2.2)
  have H8 := hid q
  clear q H7 hu
  go_wp2_with fail
  refine (undo_c H8.out hk8 (by omega) (by show S4.g + 2 + _ + 200 < _; omega)).mono ?_
  rintro e w9 ⟨rfl, q⟩
  have H9 := hid q
  clear q H8
  have hl9 := undoC_len x ((S4.add [yFence]).add [yJmp])
  have hg9 := undoC_g x ((S4.add [yFence]).add [yJmp])
  rw [bk_of hk8, hn4] at hg9
  have hg9' : (x.undoC ((S4.add [yFence]).add [yJmp])).g ≤ S4.g + 2 + k4.undo.length + 6 * 6 + 1 := hg9
  go_wp2_with fail
  refine (land_c H9.out (bl := bl) (ba := ba) (n := (S4.add [yFence]).L.length) (by simp) (by simp) (by simp only [add_len] at hl9 ⊢; omega) (by omega)).mono ?_
  rintro e w10 ⟨rfl, q⟩
  have H10 := hid q
  clear q H9
  go_wp2
  go_end0
  subst hS4 hS3 hS2 hS1
  exact ⟨rfl, H10.out.less (K' := K) (fun p hp => List.mem_cons_of_mem _ (List.mem_cons_of_mem _ hp))⟩
end
end Go.Proofs.YtfhkfnoajbbfdabGreatDoor

/- Two rows of marks held against one another. -/
namespace Go.Proofs.YtfhkfnoajbbfdabGreatDoor
open Go.RowKit

theorem eqB0 (p1 p2 p3 p4 p5 : Bool) (w : World) : (Op.eqItems 9999 4 (Tryz.prog.cellsOf 4) #[.bool true, .bool p1, .bool p2, .bool p3, .bool p4, .bool p5] #[.bool false, .bool false, .bool false, .bool false, .bool false, .bool false] (List.range 6)).run Tryz.prog w = .ok false w := by kernel_rfl
theorem eqB1 (p2 p3 p4 p5 : Bool) (w : World) : (Op.eqItems 9999 4 (Tryz.prog.cellsOf 4) #[.bool false, .bool true, .bool p2, .bool p3, .bool p4, .bool p5] #[.bool false, .bool false, .bool false, .bool false, .bool false, .bool false] (List.range 6)).run Tryz.prog w = .ok false w := by kernel_rfl
theorem eqB2 (p3 p4 p5 : Bool) (w : World) : (Op.eqItems 9999 4 (Tryz.prog.cellsOf 4) #[.bool false, .bool false, .bool true, .bool p3, .bool p4, .bool p5] #[.bool false, .bool false, .bool false, .bool false, .bool false, .bool false] (List.range 6)).run Tryz.prog w = .ok false w := by kernel_rfl
theorem eqB3 (p4 p5 : Bool) (w : World) : (Op.eqItems 9999 4 (Tryz.prog.cellsOf 4) #[.bool false, .bool false, .bool false, .bool true, .bool p4, .bool p5] #[.bool false, .bool false, .bool false, .bool false, .bool false, .bool false] (List.range 6)).run Tryz.prog w = .ok false w := by kernel_rfl
theorem eqB4 (p5 : Bool) (w : World) : (Op.eqItems 9999 4 (Tryz.prog.cellsOf 4) #[.bool false, .bool false, .bool false, .bool false, .bool true, .bool p5] #[.bool false, .bool false, .bool false, .bool false, .bool false, .bool false] (List.range 6)).run Tryz.prog w = .ok false w := by kernel_rfl
theorem eqB5 (w : World) : (Op.eqItems 9999 4 (Tryz.prog.cellsOf 4) #[.bool false, .bool false, .bool false, .bool false, .bool false, .bool true] #[.bool false, .bool false, .bool false, .bool false, .bool false, .bool false] (List.range 6)).run Tryz.prog w = .ok false w := by kernel_rfl
theorem eqB6 (w : World) : (Op.eqItems 9999 4 (Tryz.prog.cellsOf 4) #[.bool false, .bool false, .bool false, .bool false, .bool false, .bool false] #[.bool false, .bool false, .bool false, .bool false, .bool false, .bool false] (List.range 6)).run Tryz.prog w = .ok true w := by kernel_rfl

theorem infoBool : ∃ i, Tryz.prog.info? 4 = some i := Option.isSome_iff_exists.1 (by kernel_rfl)

theorem eq6 (w : World) (p0 p1 p2 p3 p4 p5 : Bool) : (Op.equalIn 10000 372 (.agg #[.bool p0, .bool p1, .bool p2, .bool p3, .bool p4, .bool p5]) (.agg #[.bool false, .bool false, .bool false, .bool false, .bool false, .bool false])).run Tryz.prog w = .ok (!(p0 || p1 || p2 || p3 || p4 || p5)) w := by
  obtain ⟨i, hi⟩ := infoBool
  rw [run_equalIn_array w 9999 _ _ Tryz.underlying372 hi]
  cases p0 with
  | true => exact eqB0 _ _ _ _ _ w
  | false =>
    cases p1 with
    | true => exact eqB1 _ _ _ _ w
    | false =>
      cases p2 with
      | true => exact eqB2 _ _ _ w
      | false =>
        cases p3 with
        | true => exact eqB3 _ _ w
        | false =>
          cases p4 with
          | true => exact eqB4 _ w
          | false =>
            cases p5 with
            | true => exact eqB5 w
            | false =>
              exact eqB6 w
end Go.Proofs.YtfhkfnoajbbfdabGreatDoor
