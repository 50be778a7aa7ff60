import Derived.Test.YtfhkfnoajbbfdabGreatDoorPart21
import Derived.Test.YtfhkfnoajbbfdabGreatDoorPart22
import Derived.Test.YtfhkfnoajbbfdabGreatDoorPart19
import Derived.Stop.Asserts
/- The coder: something done for each cell, or each local variable, that is marked. -/
namespace Go.Proofs.YtfhkfnoajbbfdabGreatDoor
open Go.RowKit

section
variable {w : World} {c : Nat}

theorem idx6_0 (w : World) (b0 b1 b2 b3 b4 b5 : Bool) : (Instr.index 372 (.agg #[.bool b0, .bool b1, .bool b2, .bool b3, .bool b4, .bool b5]) (.int .i64 ((0 : Nat) : Int))).run Tryz.prog w = .ok (.bool b0) w := by kernel_rfl
theorem idx6_1 (w : World) (b0 b1 b2 b3 b4 b5 : Bool) : (Instr.index 372 (.agg #[.bool b0, .bool b1, .bool b2, .bool b3, .bool b4, .bool b5]) (.int .i64 ((1 : Nat) : Int))).run Tryz.prog w = .ok (.bool b1) w := by kernel_rfl
theorem idx6_2 (w : World) (b0 b1 b2 b3 b4 b5 : Bool) : (Instr.index 372 (.agg #[.bool b0, .bool b1, .bool b2, .bool b3, .bool b4, .bool b5]) (.int .i64 ((2 : Nat) : Int))).run Tryz.prog w = .ok (.bool b2) w := by kernel_rfl
theorem idx6_3 (w : World) (b0 b1 b2 b3 b4 b5 : Bool) : (Instr.index 372 (.agg #[.bool b0, .bool b1, .bool b2, .bool b3, .bool b4, .bool b5]) (.int .i64 ((3 : Nat) : Int))).run Tryz.prog w = .ok (.bool b3) w := by kernel_rfl
theorem idx6_4 (w : World) (b0 b1 b2 b3 b4 b5 : Bool) : (Instr.index 372 (.agg #[.bool b0, .bool b1, .bool b2, .bool b3, .bool b4, .bool b5]) (.int .i64 ((4 : Nat) : Int))).run Tryz.prog w = .ok (.bool b4) w := by kernel_rfl
theorem idx6_5 (w : World) (b0 b1 b2 b3 b4 b5 : Bool) : (Instr.index 372 (.agg #[.bool b0, .bool b1, .bool b2, .bool b3, .bool b4, .bool b5]) (.int .i64 ((5 : Nat) : Int))).run Tryz.prog w = .ok (.bool b5) w := by kernel_rfl
theorem idx6 {b0 b1 b2 b3 b4 b5 b : Bool} (w : World) (k : Nat) (hk : k < 6) (hb : [b0, b1, b2, b3, b4, b5][k]? = some b) : (Instr.index 372 (.agg #[.bool b0, .bool b1, .bool b2, .bool b3, .bool b4, .bool b5]) (.int .i64 k)).run Tryz.prog w = .ok (.bool b) w := by
  have : k = 0 ∨ k = 1 ∨ k = 2 ∨ k = 3 ∨ k = 4 ∨ k = 5 := by omega
  rcases this with rfl | rfl | rfl | rfl | rfl | rfl <;> (simp at hb; subst hb)
  · exact idx6_0 w _ _ _ _ _ _ 
  · exact idx6_1 w _ _ _ _ _ _ 
  · exact idx6_2 w _ _ _ _ _ _ 
  · exact idx6_3 w _ _ _ _ _ _ 
  · exact idx6_4 w _ _ _ _ _ _ 
  · exact idx6_5 w _ _ _ _ _ _ 

theorem idx4_0 (w : World) (b0 b1 b2 b3 : Bool) : (Instr.index 373 (.agg #[.bool b0, .bool b1, .bool b2, .bool b3]) (.int .i64 ((0 : Nat) : Int))).run Tryz.prog w = .ok (.bool b0) w := by kernel_rfl
theorem idx4_1 (w : World) (b0 b1 b2 b3 : Bool) : (Instr.index 373 (.agg #[.bool b0, .bool b1, .bool b2, .bool b3]) (.int .i64 ((1 : Nat) : Int))).run Tryz.prog w = .ok (.bool b1) w := by kernel_rfl
theorem idx4_2 (w : World) (b0 b1 b2 b3 : Bool) : (Instr.index 373 (.agg #[.bool b0, .bool b1, .bool b2, .bool b3]) (.int .i64 ((2 : Nat) : Int))).run Tryz.prog w = .ok (.bool b2) w := by kernel_rfl
theorem idx4_3 (w : World) (b0 b1 b2 b3 : Bool) : (Instr.index 373 (.agg #[.bool b0, .bool b1, .bool b2, .bool b3]) (.int .i64 ((3 : Nat) : Int))).run Tryz.prog w = .ok (.bool b3) w := by kernel_rfl
theorem idx4 {b0 b1 b2 b3 b : Bool} (w : World) (k : Nat) (hk : k < 4) (hb : [b0, b1, b2, b3][k]? = some b) : (Instr.index 373 (.agg #[.bool b0, .bool b1, .bool b2, .bool b3]) (.int .i64 k)).run Tryz.prog w = .ok (.bool b) w := by
  have : k = 0 ∨ k = 1 ∨ k = 2 ∨ k = 3 := by omega
  rcases this with rfl | rfl | rfl | rfl <;> (simp at hb; subst hb)
  · exact idx4_0 w _ _ _ _ 
  · exact idx4_1 w _ _ _ _ 
  · exact idx4_2 w _ _ _ _ 
  · exact idx4_3 w _ _ _ _ 

set_option maxRecDepth 100000 in
set_option maxHeartbeats 2000000 in
theorem each_m {b0 b1 b2 b3 b4 b5 : Bool} {tk : Nat} (hent : ∀ args w, (callFunc tk args).run Tryz.prog w = .ok (.enter tk args) w) (J : Nat → World → Prop)
    (KC : Hid (∀ k wr, k < 6 → [b0, b1, b2, b3, b4, b5][k]? = some true → J k wr → Calls Tryz.prog tk #[ptr c, .int .i64 k] wr fun e w' => e = .returned (.tuple #[]) ∧ J (k + 1) w'))
    (KN : Hid (∀ k wr, k < 6 → [b0, b1, b2, b3, b4, b5][k]? = some false → J k wr → J (k + 1) wr)) (hJ : Hid (∀ o, J 0 (w.alloc o))) :
    Calls Tryz.prog 220 #[.agg #[.bool b0, .bool b1, .bool b2, .bool b3, .bool b4, .bool b5], .func (.func tk) #[ptr c] #[]] w fun e w' => e = .returned (.tuple #[]) ∧ J 6 w' := by
  go_enter Tryz.func220, Tryz.ntmps220
  go_wp2
  go_loopw [7] (fun v7 wr => ∃ k : Nat, k ≤ 6 ∧ v7 = .int .i64 k ∧ Hid (J k wr)) (fun v7 _ => 6 - (intOf v7).toNat)
  case atStart => exact ⟨0, Nat.zero_le _, rfl, hid (hJ.out _)⟩
  case round =>
    obtain ⟨k, hk, rfl, hB⟩ := hrel
    by_cases hlt : k < 6
    · have hlt' : (k : Int) < 6 := by omega
      have C1 := hid (KC.out k wr hlt)
      have C2 := hid (KN.out k wr hlt)
      have hs : ∃ b, [b0, b1, b2, b3, b4, b5][k]? = some b := ⟨_, List.getElem?_eq_getElem hlt⟩
      obtain ⟨b, hb⟩ := hs
      have hix := idx6 wr k hlt hb
      have hw1 : wrap64 ((k : Int) + 1) = ((k + 1 : Nat) : Int) := by unfold wrap64; omega
      rw [hb] at C1 C2
      clear KC KN
      cases b with
      | true =>
        have D1 := hid (C1.out rfl hB.out)
        clear C1 C2
        go_wp2_with fail
        refine D1.out.mono ?_
        rintro e w1 ⟨rfl, h1⟩
        have H1 := hid h1
        clear h1 D1
        go_wp2
        go_roundw
        case rel => exact ⟨k + 1, by omega, by go_num, H1⟩
        case measure => simp [intOf]; omega
      | false =>
        have H1 := hid (C2.out rfl hB.out)
        clear C1 C2
        go_wp2
        go_roundw
        case rel => exact ⟨k + 1, by omega, by go_num, H1⟩
        case measure => simp [intOf]; omega
    · have hlt' : ¬ (k : Int) < 6 := by omega
      have hk6 : k = 6 := by omega
      rw [hk6] at hB
      go_wp2
      go_end0
      exact ⟨rfl, hB.out⟩

set_option maxRecDepth 100000 in
set_option maxHeartbeats 2000000 in
theorem each_k {b0 b1 b2 b3 b4 b5 : Bool} {tk : Nat} (hent : ∀ args w, (callFunc tk args).run Tryz.prog w = .ok (.enter tk args) w) (J : Nat → World → Prop)
    (KC : Hid (∀ k wr, k < 6 → [b0, b1, b2, b3, b4, b5][k]? = some true → J k wr → Calls Tryz.prog tk #[.int .i64 k, ptr c] wr fun e w' => e = .returned (.tuple #[]) ∧ J (k + 1) w'))
    (KN : Hid (∀ k wr, k < 6 → [b0, b1, b2, b3, b4, b5][k]? = some false → J k wr → J (k + 1) wr)) (hJ : Hid (∀ o, J 0 (w.alloc o))) :
    Calls Tryz.prog 220 #[.agg #[.bool b0, .bool b1, .bool b2, .bool b3, .bool b4, .bool b5], .func (.func tk) #[] #[ptr c]] w fun e w' => e = .returned (.tuple #[]) ∧ J 6 w' := by
  go_enter Tryz.func220, Tryz.ntmps220
  go_wp2
  go_loopw [7] (fun v7 wr => ∃ k : Nat, k ≤ 6 ∧ v7 = .int .i64 k ∧ Hid (J k wr)) (fun v7 _ => 6 - (intOf v7).toNat)
  case atStart => exact ⟨0, Nat.zero_le _, rfl, hid (hJ.out _)⟩
  case round =>
    obtain ⟨k, hk, rfl, hB⟩ := hrel
    by_cases hlt : k < 6
    · have hlt' : (k : Int) < 6 := by omega
      have C1 := hid (KC.out k wr hlt)
      have C2 := hid (KN.out k wr hlt)
      have hs : ∃ b, [b0, b1, b2, b3, b4, b5][k]? = some b := ⟨_, List.getElem?_eq_getElem hlt⟩
      obtain ⟨b, hb⟩ := hs
      have hix := idx6 wr k hlt hb
      have hw1 : wrap64 ((k : Int) + 1) = ((k + 1 : Nat) : Int) := by unfold wrap64; omega
      rw [hb] at C1 C2
      clear KC KN
      cases b with
      | true =>
        have D1 := hid (C1.out rfl hB.out)
        clear C1 C2
        go_wp2_with fail
        refine D1.out.mono ?_
        rintro e w1 ⟨rfl, h1⟩
        have H1 := hid h1
        clear h1 D1
        go_wp2
        go_roundw
        case rel => exact ⟨k + 1, by omega, by go_num, H1⟩
        case measure => simp [intOf]; omega
      | false =>
        have H1 := hid (C2.out rfl hB.out)
        clear C1 C2
        go_wp2
        go_roundw
        case rel => exact ⟨k + 1, by omega, by go_num, H1⟩
        case measure => simp [intOf]; omega
    · have hlt' : ¬ (k : Int) < 6 := by omega
      have hk6 : k = 6 := by omega
      rw [hk6] at hB
      go_wp2
      go_end0
      exact ⟨rfl, hB.out⟩

set_option maxRecDepth 100000 in
set_option maxHeartbeats 2000000 in
theorem changed_k {b0 b1 b2 b3 : Bool} {tk : Nat} (hent : ∀ args w, (callFunc tk args).run Tryz.prog w = .ok (.enter tk args) w) (J : Nat → World → Prop) {b : Nat} (c0 : w.cell? ⟨b, 12, none⟩ = some (.bool b0)) (c1 : w.cell? ⟨b, 13, none⟩ = some (.bool b1)) (c2 : w.cell? ⟨b, 14, none⟩ = some (.bool b2)) (c3 : w.cell? ⟨b, 15, none⟩ = some (.bool b3))
    (KC : Hid (∀ k wr, k < 4 → [b0, b1, b2, b3][k]? = some true → J k wr → Calls Tryz.prog tk #[.int .i64 k, ptr c] wr fun e w' => e = .returned (.tuple #[]) ∧ J (k + 1) w'))
    (KN : Hid (∀ k wr, k < 4 → [b0, b1, b2, b3][k]? = some false → J k wr → J (k + 1) wr)) (hJ : Hid (J 0 w)) :
    Calls Tryz.prog 216 #[ptr b, .func (.func tk) #[] #[ptr c]] w fun e w' => e = .returned (.tuple #[]) ∧ J 4 w' := by
  go_enter Tryz.func216, Tryz.ntmps216
  go_wp2
  go_loopw [10] (fun v7 wr => ∃ k : Nat, k ≤ 4 ∧ v7 = .int .i64 k ∧ Hid (J k wr)) (fun v7 _ => 4 - (intOf v7).toNat)
  case atStart => exact ⟨0, Nat.zero_le _, rfl, hid (hJ.out)⟩
  case round =>
    obtain ⟨k, hk, rfl, hB⟩ := hrel
    by_cases hlt : k < 4
    · have hlt' : (k : Int) < 4 := by omega
      have C1 := hid (KC.out k wr hlt)
      have C2 := hid (KN.out k wr hlt)
      have hs : ∃ b, [b0, b1, b2, b3][k]? = some b := ⟨_, List.getElem?_eq_getElem hlt⟩
      obtain ⟨b, hb⟩ := hs
      have hix := idx4 wr k hlt hb
      have hw1 : wrap64 ((k : Int) + 1) = ((k + 1 : Nat) : Int) := by unfold wrap64; omega
      rw [hb] at C1 C2
      clear KC KN
      cases b with
      | true =>
        have D1 := hid (C1.out rfl hB.out)
        clear C1 C2
        go_wp2_with fail
        refine D1.out.mono ?_
        rintro e w1 ⟨rfl, h1⟩
        have H1 := hid h1
        clear h1 D1
        go_wp2
        go_roundw
        case rel => exact ⟨k + 1, by omega, by go_num, H1⟩
        case measure => simp [intOf]; omega
      | false =>
        have H1 := hid (C2.out rfl hB.out)
        clear C1 C2
        go_wp2
        go_roundw
        case rel => exact ⟨k + 1, by omega, by go_num, H1⟩
        case measure => simp [intOf]; omega
    · have hlt' : ¬ (k : Int) < 4 := by omega
      have hk6 : k = 4 := by omega
      rw [hk6] at hB
      go_wp2
      go_end0
      exact ⟨rfl, hB.out⟩

end
end Go.Proofs.YtfhkfnoajbbfdabGreatDoor

/- The coder: something done for each that is marked, with what it writes. -/
namespace Go.Proofs.YtfhkfnoajbbfdabGreatDoor
open Go.RowKit

/-- The same block, but for what leads to where it is undone. -/
def Bk.sim (a b : Bk) : Prop := b.gets = a.gets ∧ b.puts = a.puts ∧ b.chgs = a.chgs ∧ b.gives = a.gives ∧ b.again = a.again

theorem Bk.sim.refl (a : Bk) : a.sim a := ⟨rfl, rfl, rfl, rfl, rfl⟩
theorem Bk.sim.trans {a b c : Bk} (h : a.sim b) (k : b.sim c) : a.sim c := ⟨k.1.trans h.1, k.2.1.trans h.2.1, k.2.2.1.trans h.2.2.1, k.2.2.2.1.trans h.2.2.2.1, k.2.2.2.2.trans h.2.2.2.2⟩

theorem eachB_snoc (f : Nat → Ck → Ck) (b : Bool) : ∀ (l : List Bool) (i : Nat) (s : Ck), eachB f (l ++ [b]) i s = if b = true then f (i + l.length) (eachB f l i s) else eachB f l i s
  | [], i, s => by simp [eachB]
  | a :: r, i, s => by
    show eachB f (r ++ [b]) (i + 1) _ = _
    rw [eachB_snoc f b r (i + 1)]
    simp only [eachB, List.length_cons]
    rw [show i + 1 + r.length = i + (r.length + 1) from by omega]

/-- What a part of the coder leaves of what it is given: no less written; not too much done; the block. -/
structure Fair (G : Nat) (f : Nat → Ck → Ck) : Prop where
  g : ∀ i s, (f i s).g ≤ s.g + G
  l : ∀ i s, s.L.length ≤ (f i s).L.length
  b : ∀ i s k, s.blk = some k → ∃ k', (f i s).blk = some k' ∧ k.sim k'

theorem Fair.eachG {G : Nat} {f : Nat → Ck → Ck} (h : Fair G f) : ∀ (l : List Bool) (i : Nat) (s : Ck), (eachB f l i s).g ≤ s.g + l.length * G
  | [], _, s => by simp [eachB]
  | a :: r, i, s => by
    have ih := h.eachG r (i + 1) (if a = true then f i s else s)
    have h1 := h.g i s
    have e : (r.length + 1) * G = r.length * G + G := by rw [Nat.add_mul, Nat.one_mul]
    simp only [eachB, List.length_cons, e]
    by_cases ha : a = true
    · rw [if_pos ha] at ih ⊢; omega
    · rw [if_neg ha] at ih ⊢; omega

theorem Fair.eachL {G : Nat} {f : Nat → Ck → Ck} (h : Fair G f) : ∀ (l : List Bool) (i : Nat) (s : Ck), s.L.length ≤ (eachB f l i s).L.length
  | [], _, s => by simp [eachB]
  | a :: r, i, s => by
    have ih := h.eachL r (i + 1) (if a = true then f i s else s)
    have h1 := h.l i s
    simp only [eachB]
    by_cases ha : a = true
    · rw [if_pos ha] at ih ⊢; omega
    · rw [if_neg ha] at ih ⊢; omega

theorem Fair.eachK {G : Nat} {f : Nat → Ck → Ck} (h : Fair G f) : ∀ (l : List Bool) (i : Nat) (s : Ck) (k : Bk), s.blk = some k → ∃ k', (eachB f l i s).blk = some k' ∧ k.sim k'
  | [], _, s, k, hk => ⟨k, hk, Bk.sim.refl k⟩
  | a :: r, i, s, k, hk => by
    simp only [eachB]
    by_cases ha : a = true
    · obtain ⟨k1, h1, s1⟩ := h.b i s k hk
      rw [if_pos ha]
      obtain ⟨k2, h2, s2⟩ := h.eachK r (i + 1) (f i s) k1 h1
      exact ⟨k2, h2, s1.trans s2⟩
    · rw [if_neg ha]
      exact h.eachK r (i + 1) s k hk

theorem take_next {l : List Bool} {k : Nat} {b : Bool} (h : l[k]? = some b) : l.take (k + 1) = l.take k ++ [b] := by
  rw [List.take_add_one, h]; rfl

theorem take_len {l : List Bool} {k : Nat} {b : Bool} (h : l[k]? = some b) : (l.take k).length = k := by
  have := (List.getElem?_eq_some_iff.1 h).1
  simp; omega

section
variable {W w w' : World} {x : Cx} {K : List (Nat × Nat × Value)} {c : Nat} {s : Ck}

/-- The state behind the first n. -/
theorem each_next (f : Nat → Ck → Ck) {l : List Bool} {k : Nat} {b : Bool} (h : l[k]? = some b) : eachB f (l.take (k + 1)) 0 s = if b = true then f k (eachB f (l.take k) 0 s) else eachB f (l.take k) 0 s := by
  rw [take_next h, eachB_snoc, take_len h, Nat.zero_add]

theorem each_wm (f : Nat → Ck → Ck) {G : Nat} (hF : Fair G f) {b0 b1 b2 b3 b4 b5 : Bool} {tk : Nat} (hent : ∀ args w, (callFunc tk args).run Tryz.prog w = .ok (.enter tk args) w)
    (KC : ∀ (i : Nat) (w : World) (s : Ck) (k : Bk), i < 6 → Cw W x K w c s → s.blk = some k → s.g + 100 < 10000000 → Calls Tryz.prog tk #[ptr c, .int .i64 i] w fun e w' => e = .returned (.tuple #[]) ∧ Cw W x K w' c (f i s))
    (h : Cw W x K w c s) {k : Bk} (hk : s.blk = some k) (hG : s.g + 6 * G + 100 < 10000000) :
    Calls Tryz.prog 220 #[.agg #[.bool b0, .bool b1, .bool b2, .bool b3, .bool b4, .bool b5], .func (.func tk) #[ptr c] #[]] w fun e w' => e = .returned (.tuple #[]) ∧ Cw W x K w' c (eachB f [b0, b1, b2, b3, b4, b5] 0 s) := by
  refine each_m hent (fun n w => Cw W x K w c (eachB f ([b0, b1, b2, b3, b4, b5].take n) 0 s)) (hid fun i wr hi hb hc => ?_) (hid fun i wr hi hb hc => ?_) (hid fun o => h.alloc o)
  · obtain ⟨k', hk', _⟩ := hF.eachK ([b0, b1, b2, b3, b4, b5].take i) 0 s k hk
    have hg := hF.eachG ([b0, b1, b2, b3, b4, b5].take i) 0 s
    rw [take_len hb] at hg
    have : i * G ≤ 6 * G := Nat.mul_le_mul_right _ (by omega)
    refine (KC i wr _ k' hi hc hk' (by omega)).mono ?_
    rintro e w' ⟨he, h'⟩
    refine ⟨he, ?_⟩
    show Cw W x K w' c (eachB f ([b0, b1, b2, b3, b4, b5].take (i + 1)) 0 s)
    rw [each_next f hb]
    exact h'
  · show Cw W x K wr c (eachB f ([b0, b1, b2, b3, b4, b5].take (i + 1)) 0 s)
    rw [each_next f hb]
    exact hc

theorem each_wk (f : Nat → Ck → Ck) {G : Nat} (hF : Fair G f) {b0 b1 b2 b3 b4 b5 : Bool} {tk bx : Nat} (hent : ∀ args w, (callFunc tk args).run Tryz.prog w = .ok (.enter tk args) w)
    (KC : ∀ (i : Nat) (w : World) (s : Ck) (k : Bk), i < 6 → Cw W x K w c s → s.blk = some k → s.g + 100 < 10000000 → Calls Tryz.prog tk #[.int .i64 i, ptr bx] w fun e w' => e = .returned (.tuple #[]) ∧ Cw W x K w' c (f i s))
    (h : Cw W x K w c s) {k : Bk} (hk : s.blk = some k) (hG : s.g + 6 * G + 100 < 10000000) :
    Calls Tryz.prog 220 #[.agg #[.bool b0, .bool b1, .bool b2, .bool b3, .bool b4, .bool b5], .func (.func tk) #[] #[ptr bx]] w fun e w' => e = .returned (.tuple #[]) ∧ Cw W x K w' c (eachB f [b0, b1, b2, b3, b4, b5] 0 s) := by
  refine each_k hent (fun n w => Cw W x K w c (eachB f ([b0, b1, b2, b3, b4, b5].take n) 0 s)) (hid fun i wr hi hb hc => ?_) (hid fun i wr hi hb hc => ?_) (hid fun o => h.alloc o)
  · obtain ⟨k', hk', _⟩ := hF.eachK ([b0, b1, b2, b3, b4, b5].take i) 0 s k hk
    have hg := hF.eachG ([b0, b1, b2, b3, b4, b5].take i) 0 s
    rw [take_len hb] at hg
    have : i * G ≤ 6 * G := Nat.mul_le_mul_right _ (by omega)
    refine (KC i wr _ k' hi hc hk' (by omega)).mono ?_
    rintro e w' ⟨he, h'⟩
    refine ⟨he, ?_⟩
    show Cw W x K w' c (eachB f ([b0, b1, b2, b3, b4, b5].take (i + 1)) 0 s)
    rw [each_next f hb]
    exact h'
  · show Cw W x K wr c (eachB f ([b0, b1, b2, b3, b4, b5].take (i + 1)) 0 s)
    rw [each_next f hb]
    exact hc

theorem changed_wk (f : Nat → Ck → Ck) {G : Nat} (hF : Fair G f) {b0 b1 b2 b3 : Bool} {tk bx b : Nat} (hent : ∀ args w, (callFunc tk args).run Tryz.prog w = .ok (.enter tk args) w)
    (c0 : w.cell? ⟨b, 12, none⟩ = some (.bool b0)) (c1 : w.cell? ⟨b, 13, none⟩ = some (.bool b1)) (c2 : w.cell? ⟨b, 14, none⟩ = some (.bool b2)) (c3 : w.cell? ⟨b, 15, none⟩ = some (.bool b3))
    (KC : ∀ (i : Nat) (w : World) (s : Ck) (k : Bk), i < 4 → Cw W x K w c s → s.blk = some k → s.g + 100 < 10000000 → Calls Tryz.prog tk #[.int .i64 i, ptr bx] w fun e w' => e = .returned (.tuple #[]) ∧ Cw W x K w' c (f i s))
    (h : Cw W x K w c s) {k : Bk} (hk : s.blk = some k) (hG : s.g + 4 * G + 100 < 10000000) :
    Calls Tryz.prog 216 #[ptr b, .func (.func tk) #[] #[ptr bx]] w fun e w' => e = .returned (.tuple #[]) ∧ Cw W x K w' c (eachB f [b0, b1, b2, b3] 0 s) := by
  refine changed_k hent (fun n w => Cw W x K w c (eachB f ([b0, b1, b2, b3].take n) 0 s)) c0 c1 c2 c3 (hid fun i wr hi hb hc => ?_) (hid fun i wr hi hb hc => ?_) (hid h)
  · obtain ⟨k', hk', _⟩ := hF.eachK ([b0, b1, b2, b3].take i) 0 s k hk
    have hg := hF.eachG ([b0, b1, b2, b3].take i) 0 s
    rw [take_len hb] at hg
    have : i * G ≤ 4 * G := Nat.mul_le_mul_right _ (by omega)
    refine (KC i wr _ k' hi hc hk' (by omega)).mono ?_
    rintro e w' ⟨he, h'⟩
    refine ⟨he, ?_⟩
    show Cw W x K w' c (eachB f ([b0, b1, b2, b3].take (i + 1)) 0 s)
    rw [each_next f hb]
    exact h'
  · show Cw W x K wr c (eachB f ([b0, b1, b2, b3].take (i + 1)) 0 s)
    rw [each_next f hb]
    exact hc

theorem list6 {l : List Bool} (h : l.length = 6) : ∃ b0 b1 b2 b3 b4 b5, l = [b0, b1, b2, b3, b4, b5] := by
  match l, h with
  | [a, b, c, d, e, f], _ => exact ⟨a, b, c, d, e, f, rfl⟩
theorem list4 {l : List Bool} (h : l.length = 4) : ∃ b0 b1 b2 b3, l = [b0, b1, b2, b3] := by
  match l, h with
  | [a, b, c, d], _ => exact ⟨a, b, c, d, rfl⟩

/-- The block's block, and all that is in it. -/
structure BkCells (w : World) (b : Nat) (k : Bk) : Prop where
  g : ∀ (i : Nat) v, k.gets[i]? = some v → w.cell? ⟨b, i, none⟩ = some (.bool v)
  p : ∀ (i : Nat) v, k.puts[i]? = some v → w.cell? ⟨b, 6 + i, none⟩ = some (.bool v)
  ch : ∀ (i : Nat) v, k.chgs[i]? = some v → w.cell? ⟨b, 12 + i, none⟩ = some (.bool v)
  gv : w.cell? ⟨b, 16, none⟩ = some (.bool k.gives)
  ag : w.cell? ⟨b, 17, none⟩ = some (.int .i64 k.again)
  n1 : k.gets.length = 6
  n2 : k.puts.length = 6
  n3 : k.chgs.length = 4

theorem Cw.cells (h : Cw W x K w c s) {k : Bk} (hk : s.blk = some k) : ∃ b, w.cell? ⟨c, 5, none⟩ = some (ptr b) ∧ BkCells w b k := by
  obtain ⟨m, h⟩ := h
  have hb := h.bk k hk
  refine ⟨m.b, ?_, ⟨hb.g, hb.p, hb.ch, hb.gv, hb.ag, hb.n1, hb.n2, hb.n3⟩⟩
  rw [h.c5]
  simp only [blkV, hk]
end
end Go.Proofs.YtfhkfnoajbbfdabGreatDoor

/- The coder: undo, commit, begin. -/
namespace Go.Proofs.YtfhkfnoajbbfdabGreatDoor
open Go.RowKit

section
variable {W w w' : World} {x : Cx} {K : List (Nat × Nat × Value)} {m : Cm} {c : Nat} {s : Ck}

theorem add_fair (ws : Nat → List ByteArray) : Fair 1 (fun i s => s.add (ws i)) :=
  ⟨fun _ _ => Nat.le_refl _, fun i s => by rw [add_len]; omega, fun _ _ k hk => ⟨k, hk, Bk.sim.refl k⟩⟩

theorem lock_fair (x : Cx) : Fair 9 (fun i => x.lockC i) :=
  ⟨fun i s => Nat.le_refl (s.g + 9), fun i s => by simp only [Cx.lockC, add_len, land_len, undoIf_len]; omega, fun i s k hk => ⟨_, rfl, by simp [Bk.sim, Ck.bk, Ck.add, Ck.undoIf, hk]⟩⟩

theorem look_fair (x : Cx) : Fair 6 (fun i => x.lookC i) :=
  ⟨fun i s => Nat.le_refl (s.g + 6), fun i s => by simp only [Cx.lookC, add_len, land_len, undoIf_len, isEarly_len]; omega, fun i s k hk => ⟨_, rfl, by simp [Bk.sim, Ck.bk, Ck.add, gIsEarly, hk]⟩⟩

theorem store_fair (x : Cx) : Fair 6 (fun i => x.storeC i) :=
  ⟨fun i s => Nat.le_refl (s.g + 6), fun i s => by simp only [Cx.storeC, add_len, land_len]; omega, fun _ _ k hk => ⟨k, hk, Bk.sim.refl k⟩⟩

theorem unlock_fair (x : Cx) : Fair 6 (fun i => x.unlockC i) :=
  ⟨fun i s => Nat.le_refl (s.g + 6), fun i s => by simp only [Cx.unlockC, add_len, land_len]; omega, fun _ _ k hk => ⟨k, hk, Bk.sim.refl k⟩⟩

theorem entLock : ∀ args w, (callFunc 223 args).run Tryz.prog w = .ok (.enter 223 args) w := fun _ _ => by kernel_rfl
theorem entLook : ∀ args w, (callFunc 224 args).run Tryz.prog w = .ok (.enter 224 args) w := fun _ _ => by kernel_rfl
theorem entStore : ∀ args w, (callFunc 225 args).run Tryz.prog w = .ok (.enter 225 args) w := fun _ _ => by kernel_rfl
theorem entUnlock : ∀ args w, (callFunc 239 args).run Tryz.prog w = .ok (.enter 239 args) w := fun _ _ => by kernel_rfl
theorem entB1 : ∀ args w, (callFunc 217 args).run Tryz.prog w = .ok (.enter 217 args) w := fun _ _ => by kernel_rfl
theorem entB2 : ∀ args w, (callFunc 218 args).run Tryz.prog w = .ok (.enter 218 args) w := fun _ _ => by kernel_rfl
theorem entB3 : ∀ args w, (callFunc 221 args).run Tryz.prog w = .ok (.enter 221 args) w := fun _ _ => by kernel_rfl
theorem entB4 : ∀ args w, (callFunc 222 args).run Tryz.prog w = .ok (.enter 222 args) w := fun _ _ => by kernel_rfl

theorem lands_g : ∀ (ns : List Nat) (s : Ck), (s.lands ns).g = s.g + ns.length
  | [], _ => rfl
  | n :: r, s => by
    show ((s.land n).lands r).g = _
    rw [lands_g r]
    simp [Ck.land]; omega
theorem lands_len : ∀ (ns : List Nat) (s : Ck), (s.lands ns).L.length = s.L.length
  | [], _ => rfl
  | n :: r, s => by
    show ((s.land n).lands r).L.length = _
    rw [lands_len r, land_len]
theorem lands_blk : ∀ (ns : List Nat) (s : Ck), (s.lands ns).blk = s.blk
  | [], _ => rfl
  | n :: r, s => by
    show ((s.land n).lands r).blk = _
    rw [lands_blk r]; rfl
theorem lands_T : ∀ (ns : List Nat) (s : Ck), (s.lands ns).T = s.T
  | [], _ => rfl
  | n :: r, s => by
    show ((s.land n).lands r).T = _
    rw [lands_T r]; rfl
theorem lands_snoc (ns : List Nat) (n : Nat) (s : Ck) : s.lands (ns ++ [n]) = (s.lands ns).land n := by simp [Ck.lands, List.foldl_append]

/-- What stands in a row of leaps. -/
theorem row_leap {v : Value} {F : List Value} {N : List Nat} {i : Nat} (ho : w.ownsRow 0 1 1 v N.length F) (hl : Leaps m.lab w c F N) (hi : i < N.length) :
    ∃ g cap bl ba, v = .slice (some ⟨g, 0, none⟩) N.length cap ∧ w.cell? ⟨g, i, none⟩ = some (leapV bl ba) ∧ (bl < w.heap.size ∧ m.lab bl = 0 ∧ w.cell? ⟨bl, 0, none⟩ = some (ptr c)) ∧ (ba < w.heap.size ∧ m.lab ba = 0 ∧ w.cell? ⟨ba, 0, none⟩ = some (.int .i64 N[i])) := by
  have hF : i < F.length := by rw [hl.1]; exact hi
  obtain ⟨bl, ba, e, h1, h2⟩ := hl.2 i F[i] N[i] (List.getElem?_eq_getElem hF) (List.getElem?_eq_getElem hi)
  rcases ho.2 with ⟨_, e'⟩ | ⟨g, cap, cur, e', _⟩
  · omega
  · have hc := ho.cells (g := g) (by rw [e']; rfl)
    have e1 := hc i F[i] (List.getElem?_eq_getElem hF)
    have e2 : (⟨g, 0, none⟩ : Addr).add i = ⟨g, i, none⟩ := by cases i <;> simp [Addr.add]
    rw [e2] at e1
    exact ⟨g, cap, bl, ba, e', by rw [e1, e], h1, h2⟩

set_option maxRecDepth 100000 in
set_option maxHeartbeats 2000000 in
theorem undo_c (h : Cw W x K w c s) {k : Bk} (hk : s.blk = some k) (hA : k.again < 100000000) (hG : s.g + k.undo.length + 200 < 10000000) :
    Calls Tryz.prog 226 #[ptr c] w fun e w' => e = .returned (.tuple #[]) ∧ Cw W x K w' c (x.undoC s) := by
  obtain ⟨m, hm⟩ := h
  have hb := hm.bk k hk
  obtain ⟨p0, p1, p2, p3, p4, p5, hp⟩ := list6 hb.n2
  have hR : x.undoC s = (eachB (fun i => x.unlockC i) [p0, p1, p2, p3, p4, p5] 0 (s.lands k.undo)).back k.again := by simp only [Cx.undoC, bk_of hk, hp]
  rw [hR]
  have c5 : w.cell? ⟨c, 5, none⟩ = some (ptr m.b) := by rw [hm.c5]; simp only [blkV, hk]
  have c18 := hb.un
  obtain ⟨ua, uk, huv⟩ := slice_of hb.urow
  rw [huv] at c18
  have H0 := hid hm
  clear hm hb hR
  go_enter Tryz.func226, Tryz.ntmps226
  go_wp2
  go_loopw [12] (fun v12 wr => ∃ i : Nat, i ≤ k.undo.length ∧ v12 = .int .i64 i ∧ Hid (Cd W x K m wr c (s.lands (k.undo.take i)))) (fun v12 _ => k.undo.length - (intOf v12).toNat)
  case atStart => exact ⟨0, Nat.zero_le _, rfl, H0⟩
  case round =>
    obtain ⟨i, hi, rfl, hB⟩ := hrel
    by_cases hlt : i < k.undo.length
    · have hlt' : (i : Int) < (k.undo.length : Int) := by omega
      have hi0 : (0 : Int) ≤ (i : Int) := by omega
      have hb := hB.out.bk k ((lands_blk _ _).trans hk)
      obtain ⟨g, cap, bl, ba, e1, e2, h1, h2⟩ := row_leap hb.urow hb.ul hlt
      rw [huv] at e1
      injection e1 with e3 _ e4
      subst e3 e4
      have hun := (hB.out.ok.u k ((lands_blk _ _).trans hk)).2 k.undo[i] (List.getElem_mem hlt)
      have D1 := hid (land_d hB.out h1 h2 hun (by rw [lands_g]; simp; omega))
      have hs : (s.lands (k.undo.take i)).land k.undo[i] = s.lands (k.undo.take (i + 1)) := by
        rw [← lands_snoc, List.take_add_one, List.getElem?_eq_getElem hlt]; rfl
      rw [hs] at D1
      clear hb h1 h2 hun hs
      go_wp2_with fail
      refine D1.out.mono ?_
      rintro e w1 ⟨rfl, q⟩
      have H1 := hid q
      clear q D1
      go_wp2
      go_roundw
      case rel => exact ⟨i + 1, by omega, by go_num, H1⟩
      case measure => simp [intOf]; omega
    · have hlt' : ¬ (i : Int) < (k.undo.length : Int) := by omega
      have hie : i = k.undo.length := by omega
      rw [hie, List.take_length] at hB
      have hk2 : (s.lands k.undo).blk = some k := (lands_blk _ _).trans hk
      have hb := hB.out.bk k hk2
      have d5 : wr.cell? ⟨c, 5, none⟩ = some (ptr m.b) := by rw [hB.out.c5]; simp only [blkV, hk2]
      have g0 := hb.p 0 p0 (by rw [hp]; rfl)
      have g1 := hb.p 1 p1 (by rw [hp]; rfl)
      have g2 := hb.p 2 p2 (by rw [hp]; rfl)
      have g3 := hb.p 3 p3 (by rw [hp]; rfl)
      have g4 := hb.p 4 p4 (by rw [hp]; rfl)
      have g5 := hb.p 5 p5 (by rw [hp]; rfl)
      simp only [Nat.reduceAdd] at g0 g1 g2 g3 g4 g5
      have hmf : ∀ (fn : Fn) (first cap : Array Value) (w : World), (Instr.makeFunc fn first cap).run Tryz.prog w = .ok (.func fn first cap) w := fun _ _ _ _ => rfl
      clear hb
      go_wp2_with fail
      refine (each_wm (fun i => x.unlockC i) (unlock_fair x) entUnlock (fun i w s k hi h hk hG => unlock_c h (by omega) (by omega) hG) ⟨m, hB.out⟩ hk2 (by rw [lands_g]; omega)).mono ?_
      rintro e w2 ⟨rfl, q⟩
      obtain ⟨k', hk', hsim⟩ := (unlock_fair x).eachK [p0, p1, p2, p3, p4, p5] 0 (s.lands k.undo) k hk2
      have hg := (unlock_fair x).eachG [p0, p1, p2, p3, p4, p5] 0 (s.lands k.undo)
      rw [lands_g] at hg
      obtain ⟨b', d5', dc⟩ := q.cells hk'
      have d17 := dc.ag
      rw [hsim.2.2.2.2] at d17
      have H2 := hid q
      clear q dc d5 g0 g1 g2 g3 g4 g5
      go_wp2_with fail
      go_region_law (first | (go_simp; go_at_call 195; refine (back_c H2.out.drew (n := k.again) hA (by simp only [List.length_cons, List.length_nil] at hg; omega)).mono ?_; rintro e w3 ⟨rfl, q⟩; have H3 := hid q; clear q))
      all_goals
        go_wp2
        go_end0
        exact ⟨rfl, H3.out⟩
end
end Go.Proofs.YtfhkfnoajbbfdabGreatDoor

/- The coder: a block's beginning. -/
namespace Go.Proofs.YtfhkfnoajbbfdabGreatDoor
open Go.RowKit

section
variable {W w w' : World} {x : Cx} {K : List (Nat × Nat × Value)} {m : Cm} {c : Nat} {s : Ck}

/-- Where the block begins anew is set. -/
theorem Cd.setAgain (h : Cd W x K m w c s) {k : Bk} (hk : s.blk = some k) (n : Nat) :
    Cd W x K m (w.setCell ⟨m.b, 17, none⟩ (.int .i64 n)) c { s with blk := some { k with again := n } } := by
  have lb := h.lt
  have hb := h.bk k hk
  have lbb := lt_of_shape hb.sh
  have hset : Chg (fun k j => k = m.b ∧ j = 17) w (w.setCell ⟨m.b, 17, none⟩ (.int .i64 n)) := (Chg.refl _ w).setCell (fun _ => ⟨rfl, rfl⟩) _
  have nk : ∀ k l, m.lab k = l → l ≠ 4 → ∀ j, ¬ (k = m.b ∧ j = 17) := fun k l hk h1 j e => h1 (by rw [← hk, e.1]; exact hb.lbk)
  have hM : ∀ k j, k < w.heap.size → (k = m.b ∧ j = 17) → m.lab k ≠ 0 := by
    rintro k j _ ⟨rfl, _⟩
    rw [hb.lbk]; omega
  have kc : ∀ j, ¬ (c = m.b ∧ j = 17) := nk c 1 h.lc (by omega)
  have kb : ∀ j, j ≠ 17 → (w.setCell ⟨m.b, 17, none⟩ (.int .i64 n)).cell? ⟨m.b, j, none⟩ = w.cell? ⟨m.b, j, none⟩ := fun j hj => hset.cell _ _ lbb (fun e => hj e.2)
  refine h.turn ⟨h.ok.l, h.ok.z, h.ok.t, h.ok.tb, fun k' hk' => ?_⟩ hset (fun k j hk e => ⟨hM k j hk e, fun ec => (kc j (ec ▸ e)).elim⟩) (fun _ _ => rfl) (fun k hk => h.lz k (by simpa [size_set] using hk)) ((hset.cell _ _ lb (kc 0)).trans h.c0) ((hset.cell _ _ lb (kc 4)).trans h.c4) ?_ ((hset.cell _ _ lb (kc 6)).trans h.c6) (ownsRow_chg h.lrow hset (fun q hq => nk _ _ (h.llv q hq) (by omega))) (ownsRow_chg h.trow hset (fun q hq => nk _ _ (h.ltv q hq) (by omega))) (h.tl.keep hset hM fun _ _ e => e) (fun k' hk' => ?_) h.llv h.ltv
  · cases hk'; exact h.ok.u k hk
  · rw [(hset.cell _ _ lb (kc 5)).trans h.c5]
    simp only [blkV, hk]
  · cases hk'
    exact {
      sh := (hset.shape _ lbb).trans hb.sh
      g := fun i v hv => by
        have : i < 6 := by rw [← hb.n1]; exact (List.getElem?_eq_some_iff.1 hv).1
        exact (kb i (by omega)).trans (hb.g i v hv)
      p := fun i v hv => by
        have : i < 6 := by rw [← hb.n2]; exact (List.getElem?_eq_some_iff.1 hv).1
        exact (kb (6 + i) (by omega)).trans (hb.p i v hv)
      ch := fun i v hv => by
        have : i < 4 := by rw [← hb.n3]; exact (List.getElem?_eq_some_iff.1 hv).1
        exact (kb (12 + i) (by omega)).trans (hb.ch i v hv)
      gv := (kb 16 (by omega)).trans hb.gv
      ag := cell_set_eq hb.ag rfl
      un := (kb 18 (by omega)).trans hb.un
      free := fun j => (hset.frozen _ _ lbb).trans (hb.free j)
      urow := ownsRow_chg hb.urow hset (fun q hq => nk _ _ (hb.luv q hq) (by omega))
      ul := hb.ul.keep hset hM fun _ _ e => e
      lbk := hb.lbk, luv := hb.luv, n1 := hb.n1, n2 := hb.n2, n3 := hb.n3 }

theorem BkCells.below {b : Nat} {k : Bk} (h : BkCells w b k) (hb : Below w.heap.size w w') : BkCells w' b k := by
  have lb := World.block_lt_of_cell? _ _ h.gv
  have cc : ∀ j, w'.cell? ⟨b, j, none⟩ = w.cell? ⟨b, j, none⟩ := fun j => hb.cell (p := ⟨b, j, none⟩) lb
  exact ⟨fun i v hv => (cc _).trans (h.g i v hv), fun i v hv => (cc _).trans (h.p i v hv), fun i v hv => (cc _).trans (h.ch i v hv), (cc _).trans h.gv, (cc _).trans h.ag, h.n1, h.n2, h.n3⟩

theorem eachA_blk (ws : Nat → List ByteArray) : ∀ (l : List Bool) (i : Nat) (s : Ck), (eachB (fun i s => s.add (ws i)) l i s).blk = s.blk
  | [], _, _ => rfl
  | a :: r, i, s => by
    simp only [eachB]
    rw [eachA_blk ws r (i + 1)]
    by_cases ha : a = true
    · rw [if_pos ha]; rfl
    · rw [if_neg ha]

set_option maxRecDepth 100000 in
set_option maxHeartbeats 4000000 in
theorem begin_c (h : Cw W x K w c s) {k : Bk} (hk : s.blk = some k) (hG : s.g + 1000 < 1000000) :
    Calls Tryz.prog 190 #[ptr c] w fun e w' => e = .returned (.tuple #[]) ∧ Cw W x K w' c (x.begin s) := by
  obtain ⟨b0, c5, hb⟩ := h.cells hk
  obtain ⟨p0, p1, p2, p3, p4, p5, hp⟩ := list6 hb.n2
  obtain ⟨q0, q1, q2, q3, q4, q5, hq⟩ := list6 hb.n1
  obtain ⟨l0, l1, l2, l3, hl⟩ := list4 hb.n3
  have lb := h.lt
  have H0 := hid (h.box [ptr c] 153)
  have HB0 := hid (hb.below ((Below.refl _ w).alloc (Nat.le_refl _) (.cells #[ptr c] 153)))
  have hmf : ∀ (fn : Fn) (first cap : Array Value) (w : World), (Instr.makeFunc fn first cap).run Tryz.prog w = .ok (.func fn first cap) w := fun _ _ _ _ => rfl
  have hR : x.begin s = (eachB (fun i s => s.add [yStore, y0, x.own (12 + i), y0]) [q0, q1, q2, q3, q4, q5] 0 (eachB (fun i s => s.add [yStore, y0, x.own (6 + i), y0]) [p0, p1, p2, p3, p4, p5] 0 (((eachB (fun i s => s.add [yLoad, regW i, y0, x.own (32 + i)]) [l0, l1, l2, l3] 0 { eachB (fun i s => s.add [yStore, y0, x.own (32 + i), regW i]) [l0, l1, l2, l3] 0 s with blk := some { k with again := (eachB (fun i s => s.add [yStore, y0, x.own (32 + i), regW i]) [l0, l1, l2, l3] 0 s).L.length } }).add [yLoad, yR6, y0, dec 12]).add [yAdd, yR6, yR6, y1]))).add [yMov, yR7, y0] := by
    simp only [Cx.begin, bk_of hk, hp, hq, hl]
  rw [hR]
  clear h hb hR
  go_enter Tryz.func190, Tryz.ntmps190
  go_wp2_with fail
  generalize hwb : w.alloc (Obj.cells #[ptr c] 153) = wb at *
  generalize w.heap.size = bx at *
  have hbx : (bx, 0, ptr c) ∈ boxK bx [ptr c] 0 ++ K := by simp [boxK]
  generalize hKK : boxK bx [ptr c] 0 ++ K = KK at *
  have hg1 := (add_fair fun i => [yStore, y0, x.own (32 + (i : Nat)), regW (i : Nat)]).eachG [l0, l1, l2, l3] 0 s
  have hk1 : (eachB (fun i s => s.add [yStore, y0, x.own (32 + (i : Nat)), regW (i : Nat)]) [l0, l1, l2, l3] 0 s).blk = some k := (eachA_blk (fun i => [yStore, y0, x.own (32 + (i : Nat)), regW (i : Nat)]) _ _ _).trans hk
  refine (changed_wk (fun i s => s.add [yStore, y0, x.own (32 + (i : Nat)), regW (i : Nat)]) (add_fair fun i => [yStore, y0, x.own (32 + (i : Nat)), regW (i : Nat)]) entB1 (HB0.out.ch 0 l0 (by rw [hl]; rfl)) (HB0.out.ch 1 l1 (by rw [hl]; rfl)) (HB0.out.ch 2 l2 (by rw [hl]; rfl)) (HB0.out.ch 3 l3 (by rw [hl]; rfl)) (fun i w s k hi h hk hG => begin1_c h hbx (by omega) (by omega) hG) H0.out hk (by omega)).mono ?_
  rintro e w1 ⟨rfl, m1, h1⟩
  simp only [List.length_cons, List.length_nil] at hg1
  generalize hS1 : eachB (fun i s => s.add [yStore, y0, x.own (32 + (i : Nat)), regW (i : Nat)]) [l0, l1, l2, l3] 0 s = S1 at *
  have hb1 := h1.bk k hk1
  have d5 : w1.cell? ⟨c, 5, none⟩ = some (ptr m1.b) := by rw [h1.c5]; simp only [blkV, hk1]
  have d17 := hb1.ag
  have f17 := hb1.free 17
  have e0 := (h1.kp _ hbx).2.2
  dsimp only at e0
  have ncb : c ≠ m1.b := fun e => by have := hb1.lbk; rw [← e, h1.lc] at this; omega
  have nxb : bx ≠ m1.b := fun e => by have := hb1.lbk; rw [← e, (h1.kp _ hbx).2.1] at this; omega
  have H1 := hid h1
  have kk1 : (w1.setCell ⟨m1.b, 17, none⟩ (.int .i64 (S1.L.length : Int))).drew.cell? ⟨bx, 0, none⟩ = some (ptr c) := (cell_set_ne (w := w1) (v := .int .i64 (S1.L.length : Int)) (.inl nxb)).trans e0
  have kk2 : (w1.setCell ⟨m1.b, 17, none⟩ (.int .i64 (S1.L.length : Int))).drew.cell? ⟨c, 5, none⟩ = some (ptr m1.b) := (cell_set_ne (w := w1) (v := .int .i64 (S1.L.length : Int)) (.inl ncb)).trans d5
  clear h1 hb1 c5 HB0 H0
  go_wp2_with fail
  go_region_held3 (fun w' => w'.cell? ⟨bx, 0, none⟩ = some (ptr c) ∧ w'.cell? ⟨c, 5, none⟩ = some (ptr m1.b)) (first | go_keep | exact ⟨kk1, kk2⟩)
    (first
      | (go_at_call 193; refine (place_c ⟨m1, H1.out.drew⟩).mono ?_; rintro e w2 ⟨rfl, rfl⟩))
  have hk2 : ({ S1 with blk := some { k with again := S1.L.length } } : Ck).blk = some { k with again := S1.L.length } := rfl
  have H2 := hid (H1.out.drew.setAgain hk1 S1.L.length)
  generalize hW2 : World.drew _ = w2 at *
  have H2d : Hid (Cd W x KK m1 w2 c { S1 with blk := some { k with again := S1.L.length } }) := hid (by rw [← hW2]; exact H2.out)
  have H2' : Hid (Cw W x KK w2 c { S1 with blk := some { k with again := S1.L.length } }) := hid ⟨m1, H2d.out⟩
  clear H2 hW2 d5 d17 f17 e0 H1 kk1 kk2
  have hbb := H2d.out.bk _ hk2
  have hb : BkCells w2 m1.b _ := ⟨hbb.g, hbb.p, hbb.ch, hbb.gv, hbb.ag, hbb.n1, hbb.n2, hbb.n3⟩
  clear hbb H2d
  have e0 := H2'.out.kept hbx
  have hg2 : ({ S1 with blk := some { k with again := S1.L.length } } : Ck).g = S1.g := rfl
  generalize hS2 : ({ S1 with blk := some { k with again := S1.L.length } } : Ck) = S2 at *
  generalize hk' : ({ k with again := S1.L.length } : Bk) = k2 at *
  have hl2 : k2.chgs = [l0, l1, l2, l3] := by rw [← hk']; exact hl
  have hp2 : k2.puts = [p0, p1, p2, p3, p4, p5] := by rw [← hk']; exact hp
  have hq2 : k2.gets = [q0, q1, q2, q3, q4, q5] := by rw [← hk']; exact hq
  have HB2 := hid hb
  clear hb
  have hg3 := (add_fair fun i => [yLoad, regW (i : Nat), y0, x.own (32 + (i : Nat))]).eachG [l0, l1, l2, l3] 0 S2
  have hk3 : (eachB (fun i s => s.add [yLoad, regW (i : Nat), y0, x.own (32 + (i : Nat))]) [l0, l1, l2, l3] 0 S2).blk = some k2 := (eachA_blk (fun i => [yLoad, regW (i : Nat), y0, x.own (32 + (i : Nat))]) _ _ _).trans hk2
  simp only [List.length_cons, List.length_nil] at hg3
  go_wp2_with fail
  refine (changed_wk (fun i s => s.add [yLoad, regW (i : Nat), y0, x.own (32 + (i : Nat))]) (add_fair fun i => [yLoad, regW (i : Nat), y0, x.own (32 + (i : Nat))]) entB2 (HB2.out.ch 0 l0 (by rw [hl2]; rfl)) (HB2.out.ch 1 l1 (by rw [hl2]; rfl)) (HB2.out.ch 2 l2 (by rw [hl2]; rfl)) (HB2.out.ch 3 l3 (by rw [hl2]; rfl)) (fun i w s k hi h hk hG => begin2_c h hbx (by omega) (by omega) hG) H2'.out hk2 (by omega)).mono ?_
  rintro e w3 ⟨rfl, h3⟩
  have H3 := hid h3
  clear h3 e0 HB2
  have e0 := H3.out.kept hbx
  generalize hS3 : eachB (fun i s => s.add [yLoad, regW (i : Nat), y0, x.own (32 + (i : Nat))]) [l0, l1, l2, l3] 0 S2 = S3 at *
  go_wp2_with fail
  go_region_held3 (fun w' => w'.cell? ⟨bx, 0, none⟩ = some (ptr c)) (go_keep)
    (first
      | (go_at_call 219; refine (clock_c H3.out.drew).mono ?_; rintro e w4 ⟨rfl, q⟩; have H4 := hid q; clear q; have e4 := H4.out.kept hbx)
      | (go_at_call 103; refine (add_new H4.out [yLoad, yR6, y0, dec 12] (by simp) ⟨by decide, by decide, by decide, szDec _ (by omega) (by omega), trivial⟩ (by omega)).mono ?_; rintro e w5 ⟨rfl, q⟩; have H5 := hid q; clear q; have e5 := H5.out.kept hbx))
  go_wp2_with fail
  refine (add_new H5.out [yAdd, yR6, yR6, y1] (by simp) ⟨by decide, by decide, by decide, by decide, trivial⟩ (by show S3.g + 1 < _; omega)).mono ?_
  rintro e w6 ⟨rfl, h6⟩
  have hk6 : ((S3.add [yLoad, yR6, y0, dec 12]).add [yAdd, yR6, yR6, y1]).blk = some k2 := hk3
  have hg6 : ((S3.add [yLoad, yR6, y0, dec 12]).add [yAdd, yR6, yR6, y1]).g = S3.g + 2 := rfl
  have H6 := hid h6
  clear h6 e0 e4 e5 H4 H5 H3
  generalize hS6 : (S3.add [yLoad, yR6, y0, dec 12]).add [yAdd, yR6, yR6, y1] = S6 at *
  have e0 := H6.out.kept hbx
  obtain ⟨b6, c5, hb⟩ := H6.out.cells hk6
  have g0 := hb.p 0 p0 (by rw [hp2]; rfl)
  have g1 := hb.p 1 p1 (by rw [hp2]; rfl)
  have g2 := hb.p 2 p2 (by rw [hp2]; rfl)
  have g3 := hb.p 3 p3 (by rw [hp2]; rfl)
  have g4 := hb.p 4 p4 (by rw [hp2]; rfl)
  have g5 := hb.p 5 p5 (by rw [hp2]; rfl)
  simp only [Nat.reduceAdd] at g0 g1 g2 g3 g4 g5
  clear hb
  have hg7 := (add_fair fun i => [yStore, y0, x.own (6 + (i : Nat)), y0]).eachG [p0, p1, p2, p3, p4, p5] 0 S6
  have hk7 : (eachB (fun i s => s.add [yStore, y0, x.own (6 + (i : Nat)), y0]) [p0, p1, p2, p3, p4, p5] 0 S6).blk = some k2 := (eachA_blk (fun i => [yStore, y0, x.own (6 + (i : Nat)), y0]) _ _ _).trans hk6
  simp only [List.length_cons, List.length_nil] at hg7
  go_wp2_with fail
  refine (each_wk (fun i s => s.add [yStore, y0, x.own (6 + (i : Nat)), y0]) (add_fair fun i => [yStore, y0, x.own (6 + (i : Nat)), y0]) entB3 (fun i w s k hi h hk hG => begin3_c h hbx (by omega) (by omega) hG) H6.out hk6 (by omega)).mono ?_
  rintro e w7 ⟨rfl, h7⟩
  have H7 := hid h7
  clear h7 e0 c5 g0 g1 g2 g3 g4 g5 H6
  generalize hS7 : eachB (fun i s => s.add [yStore, y0, x.own (6 + (i : Nat)), y0]) [p0, p1, p2, p3, p4, p5] 0 S6 = S7 at *
  have e0 := H7.out.kept hbx
  obtain ⟨b7, c5, hb⟩ := H7.out.cells hk7
  have g0 := hb.g 0 q0 (by rw [hq2]; rfl)
  have g1 := hb.g 1 q1 (by rw [hq2]; rfl)
  have g2 := hb.g 2 q2 (by rw [hq2]; rfl)
  have g3 := hb.g 3 q3 (by rw [hq2]; rfl)
  have g4 := hb.g 4 q4 (by rw [hq2]; rfl)
  have g5 := hb.g 5 q5 (by rw [hq2]; rfl)
  clear hb
  have hg8 := (add_fair fun i => [yStore, y0, x.own (12 + (i : Nat)), y0]).eachG [q0, q1, q2, q3, q4, q5] 0 S7
  simp only [List.length_cons, List.length_nil] at hg8
  go_wp2_with fail
  refine (each_wk (fun i s => s.add [yStore, y0, x.own (12 + (i : Nat)), y0]) (add_fair fun i => [yStore, y0, x.own (12 + (i : Nat)), y0]) entB4 (fun i w s k hi h hk hG => begin4_c h hbx (by omega) (by omega) hG) H7.out hk7 (by omega)).mono ?_
  rintro e w8 ⟨rfl, h8⟩
  have H8 := hid h8
  clear h8 e0 c5 g0 g1 g2 g3 g4 g5 H7
  generalize hS8 : eachB (fun i s => s.add [yStore, y0, x.own (12 + (i : Nat)), y0]) [q0, q1, q2, q3, q4, q5] 0 S7 = S8 at *
  have e0 := H8.out.kept hbx
  go_wp2_with fail
  refine (add_new H8.out [yMov, yR7, y0] (by simp) ⟨by decide, by decide, by decide, trivial⟩ (by omega)).mono ?_
  rintro e w9 ⟨rfl, h9⟩
  have H9 := hid h9
  clear h9 H8
  go_wp2
  go_end0
  subst hKK
  have H10 := H9.out.unbox
  subst hS8 hS7 hS6 hS3 hS2 hk' hS1
  exact ⟨rfl, H10⟩
end
end Go.Proofs.YtfhkfnoajbbfdabGreatDoor

/- Which statement it is (written by gen-pr3.py). -/
namespace Go.Proofs.YtfhkfnoajbbfdabGreatDoor
open Go.RowKit

theorem ta_qSet_qSet (x : Value) (w : World) : (Instr.typeAssert (.iface 328 x) 222 328 true).run Tryz.prog w = .ok (.tuple #[x, .bool true]) w := by kernel_rfl
theorem ta_qSet_qOperate (x : Value) (w : World) : (Instr.typeAssert (.iface 328 x) 222 332 true).run Tryz.prog w = .ok (.tuple #[.agg #[.string ⟨#[]⟩, .int .i64 0, .string ⟨#[]⟩, .int .i64 0, .string ⟨#[]⟩, .int .i64 0], .bool false]) w := by kernel_rfl
theorem ta_qSet_qGet (x : Value) (w : World) : (Instr.typeAssert (.iface 328 x) 222 307 true).run Tryz.prog w = .ok (.tuple #[.agg #[.string ⟨#[]⟩, .string ⟨#[]⟩, .string ⟨#[]⟩, .int .i64 0], .bool false]) w := by kernel_rfl
theorem ta_qSet_qPut (x : Value) (w : World) : (Instr.typeAssert (.iface 328 x) 222 309 true).run Tryz.prog w = .ok (.tuple #[.agg #[.string ⟨#[]⟩, .string ⟨#[]⟩, .int .i64 0, .string ⟨#[]⟩, .int .i64 0], .bool false]) w := by kernel_rfl
theorem ta_qSet_qOut (x : Value) (w : World) : (Instr.typeAssert (.iface 328 x) 222 311 true).run Tryz.prog w = .ok (.tuple #[.agg #[.string ⟨#[]⟩, .int .i64 0], .bool false]) w := by kernel_rfl
theorem ta_qSet_pAtomic (x : Value) (w : World) : (Instr.typeAssert (.iface 328 x) 222 231 true).run Tryz.prog w = .ok (.tuple #[.pointer none, .bool false]) w := by kernel_rfl
theorem ta_qSet_pIf (x : Value) (w : World) : (Instr.typeAssert (.iface 328 x) 222 312 true).run Tryz.prog w = .ok (.tuple #[.pointer none, .bool false]) w := by kernel_rfl
theorem ta_qSet_pLoop (x : Value) (w : World) : (Instr.typeAssert (.iface 328 x) 222 315 true).run Tryz.prog w = .ok (.tuple #[.pointer none, .bool false]) w := by kernel_rfl
theorem ta_qSet_holder (x : Value) (w : World) : (Instr.typeAssert (.iface 328 x) 222 322 true).run Tryz.prog w = .ok (.tuple #[.nilIface, .bool false]) w := run_typeAssert_lacksB Tryz.underlying322 (by kernel_rfl) (by kernel_rfl) x _ w
theorem ta_qOperate_qSet (x : Value) (w : World) : (Instr.typeAssert (.iface 332 x) 222 328 true).run Tryz.prog w = .ok (.tuple #[.agg #[.string ⟨#[]⟩, .string ⟨#[]⟩, .int .i64 0], .bool false]) w := by kernel_rfl
theorem ta_qOperate_qOperate (x : Value) (w : World) : (Instr.typeAssert (.iface 332 x) 222 332 true).run Tryz.prog w = .ok (.tuple #[x, .bool true]) w := by kernel_rfl
theorem ta_qOperate_qGet (x : Value) (w : World) : (Instr.typeAssert (.iface 332 x) 222 307 true).run Tryz.prog w = .ok (.tuple #[.agg #[.string ⟨#[]⟩, .string ⟨#[]⟩, .string ⟨#[]⟩, .int .i64 0], .bool false]) w := by kernel_rfl
theorem ta_qOperate_qPut (x : Value) (w : World) : (Instr.typeAssert (.iface 332 x) 222 309 true).run Tryz.prog w = .ok (.tuple #[.agg #[.string ⟨#[]⟩, .string ⟨#[]⟩, .int .i64 0, .string ⟨#[]⟩, .int .i64 0], .bool false]) w := by kernel_rfl
theorem ta_qOperate_qOut (x : Value) (w : World) : (Instr.typeAssert (.iface 332 x) 222 311 true).run Tryz.prog w = .ok (.tuple #[.agg #[.string ⟨#[]⟩, .int .i64 0], .bool false]) w := by kernel_rfl
theorem ta_qOperate_pAtomic (x : Value) (w : World) : (Instr.typeAssert (.iface 332 x) 222 231 true).run Tryz.prog w = .ok (.tuple #[.pointer none, .bool false]) w := by kernel_rfl
theorem ta_qOperate_pIf (x : Value) (w : World) : (Instr.typeAssert (.iface 332 x) 222 312 true).run Tryz.prog w = .ok (.tuple #[.pointer none, .bool false]) w := by kernel_rfl
theorem ta_qOperate_pLoop (x : Value) (w : World) : (Instr.typeAssert (.iface 332 x) 222 315 true).run Tryz.prog w = .ok (.tuple #[.pointer none, .bool false]) w := by kernel_rfl
theorem ta_qOperate_holder (x : Value) (w : World) : (Instr.typeAssert (.iface 332 x) 222 322 true).run Tryz.prog w = .ok (.tuple #[.nilIface, .bool false]) w := run_typeAssert_lacksB Tryz.underlying322 (by kernel_rfl) (by kernel_rfl) x _ w
theorem ta_qGet_qSet (x : Value) (w : World) : (Instr.typeAssert (.iface 307 x) 222 328 true).run Tryz.prog w = .ok (.tuple #[.agg #[.string ⟨#[]⟩, .string ⟨#[]⟩, .int .i64 0], .bool false]) w := by kernel_rfl
theorem ta_qGet_qOperate (x : Value) (w : World) : (Instr.typeAssert (.iface 307 x) 222 332 true).run Tryz.prog w = .ok (.tuple #[.agg #[.string ⟨#[]⟩, .int .i64 0, .string ⟨#[]⟩, .int .i64 0, .string ⟨#[]⟩, .int .i64 0], .bool false]) w := by kernel_rfl
theorem ta_qGet_qGet (x : Value) (w : World) : (Instr.typeAssert (.iface 307 x) 222 307 true).run Tryz.prog w = .ok (.tuple #[x, .bool true]) w := by kernel_rfl
theorem ta_qGet_qPut (x : Value) (w : World) : (Instr.typeAssert (.iface 307 x) 222 309 true).run Tryz.prog w = .ok (.tuple #[.agg #[.string ⟨#[]⟩, .string ⟨#[]⟩, .int .i64 0, .string ⟨#[]⟩, .int .i64 0], .bool false]) w := by kernel_rfl
theorem ta_qGet_qOut (x : Value) (w : World) : (Instr.typeAssert (.iface 307 x) 222 311 true).run Tryz.prog w = .ok (.tuple #[.agg #[.string ⟨#[]⟩, .int .i64 0], .bool false]) w := by kernel_rfl
theorem ta_qGet_pAtomic (x : Value) (w : World) : (Instr.typeAssert (.iface 307 x) 222 231 true).run Tryz.prog w = .ok (.tuple #[.pointer none, .bool false]) w := by kernel_rfl
theorem ta_qGet_pIf (x : Value) (w : World) : (Instr.typeAssert (.iface 307 x) 222 312 true).run Tryz.prog w = .ok (.tuple #[.pointer none, .bool false]) w := by kernel_rfl
theorem ta_qGet_pLoop (x : Value) (w : World) : (Instr.typeAssert (.iface 307 x) 222 315 true).run Tryz.prog w = .ok (.tuple #[.pointer none, .bool false]) w := by kernel_rfl
theorem ta_qGet_holder (x : Value) (w : World) : (Instr.typeAssert (.iface 307 x) 222 322 true).run Tryz.prog w = .ok (.tuple #[.nilIface, .bool false]) w := run_typeAssert_lacksB Tryz.underlying322 (by kernel_rfl) (by kernel_rfl) x _ w
theorem ta_qPut_qSet (x : Value) (w : World) : (Instr.typeAssert (.iface 309 x) 222 328 true).run Tryz.prog w = .ok (.tuple #[.agg #[.string ⟨#[]⟩, .string ⟨#[]⟩, .int .i64 0], .bool false]) w := by kernel_rfl
theorem ta_qPut_qOperate (x : Value) (w : World) : (Instr.typeAssert (.iface 309 x) 222 332 true).run Tryz.prog w = .ok (.tuple #[.agg #[.string ⟨#[]⟩, .int .i64 0, .string ⟨#[]⟩, .int .i64 0, .string ⟨#[]⟩, .int .i64 0], .bool false]) w := by kernel_rfl
theorem ta_qPut_qGet (x : Value) (w : World) : (Instr.typeAssert (.iface 309 x) 222 307 true).run Tryz.prog w = .ok (.tuple #[.agg #[.string ⟨#[]⟩, .string ⟨#[]⟩, .string ⟨#[]⟩, .int .i64 0], .bool false]) w := by kernel_rfl
theorem ta_qPut_qPut (x : Value) (w : World) : (Instr.typeAssert (.iface 309 x) 222 309 true).run Tryz.prog w = .ok (.tuple #[x, .bool true]) w := by kernel_rfl
theorem ta_qPut_qOut (x : Value) (w : World) : (Instr.typeAssert (.iface 309 x) 222 311 true).run Tryz.prog w = .ok (.tuple #[.agg #[.string ⟨#[]⟩, .int .i64 0], .bool false]) w := by kernel_rfl
theorem ta_qPut_pAtomic (x : Value) (w : World) : (Instr.typeAssert (.iface 309 x) 222 231 true).run Tryz.prog w = .ok (.tuple #[.pointer none, .bool false]) w := by kernel_rfl
theorem ta_qPut_pIf (x : Value) (w : World) : (Instr.typeAssert (.iface 309 x) 222 312 true).run Tryz.prog w = .ok (.tuple #[.pointer none, .bool false]) w := by kernel_rfl
theorem ta_qPut_pLoop (x : Value) (w : World) : (Instr.typeAssert (.iface 309 x) 222 315 true).run Tryz.prog w = .ok (.tuple #[.pointer none, .bool false]) w := by kernel_rfl
theorem ta_qPut_holder (x : Value) (w : World) : (Instr.typeAssert (.iface 309 x) 222 322 true).run Tryz.prog w = .ok (.tuple #[.nilIface, .bool false]) w := run_typeAssert_lacksB Tryz.underlying322 (by kernel_rfl) (by kernel_rfl) x _ w
theorem ta_qOut_qSet (x : Value) (w : World) : (Instr.typeAssert (.iface 311 x) 222 328 true).run Tryz.prog w = .ok (.tuple #[.agg #[.string ⟨#[]⟩, .string ⟨#[]⟩, .int .i64 0], .bool false]) w := by kernel_rfl
theorem ta_qOut_qOperate (x : Value) (w : World) : (Instr.typeAssert (.iface 311 x) 222 332 true).run Tryz.prog w = .ok (.tuple #[.agg #[.string ⟨#[]⟩, .int .i64 0, .string ⟨#[]⟩, .int .i64 0, .string ⟨#[]⟩, .int .i64 0], .bool false]) w := by kernel_rfl
theorem ta_qOut_qGet (x : Value) (w : World) : (Instr.typeAssert (.iface 311 x) 222 307 true).run Tryz.prog w = .ok (.tuple #[.agg #[.string ⟨#[]⟩, .string ⟨#[]⟩, .string ⟨#[]⟩, .int .i64 0], .bool false]) w := by kernel_rfl
theorem ta_qOut_qPut (x : Value) (w : World) : (Instr.typeAssert (.iface 311 x) 222 309 true).run Tryz.prog w = .ok (.tuple #[.agg #[.string ⟨#[]⟩, .string ⟨#[]⟩, .int .i64 0, .string ⟨#[]⟩, .int .i64 0], .bool false]) w := by kernel_rfl
theorem ta_qOut_qOut (x : Value) (w : World) : (Instr.typeAssert (.iface 311 x) 222 311 true).run Tryz.prog w = .ok (.tuple #[x, .bool true]) w := by kernel_rfl
theorem ta_qOut_pAtomic (x : Value) (w : World) : (Instr.typeAssert (.iface 311 x) 222 231 true).run Tryz.prog w = .ok (.tuple #[.pointer none, .bool false]) w := by kernel_rfl
theorem ta_qOut_pIf (x : Value) (w : World) : (Instr.typeAssert (.iface 311 x) 222 312 true).run Tryz.prog w = .ok (.tuple #[.pointer none, .bool false]) w := by kernel_rfl
theorem ta_qOut_pLoop (x : Value) (w : World) : (Instr.typeAssert (.iface 311 x) 222 315 true).run Tryz.prog w = .ok (.tuple #[.pointer none, .bool false]) w := by kernel_rfl
theorem ta_qOut_holder (x : Value) (w : World) : (Instr.typeAssert (.iface 311 x) 222 322 true).run Tryz.prog w = .ok (.tuple #[.nilIface, .bool false]) w := run_typeAssert_lacksB Tryz.underlying322 (by kernel_rfl) (by kernel_rfl) x _ w
theorem ta_pAtomic_qSet (x : Value) (w : World) : (Instr.typeAssert (.iface 231 x) 222 328 true).run Tryz.prog w = .ok (.tuple #[.agg #[.string ⟨#[]⟩, .string ⟨#[]⟩, .int .i64 0], .bool false]) w := by kernel_rfl
theorem ta_pAtomic_qOperate (x : Value) (w : World) : (Instr.typeAssert (.iface 231 x) 222 332 true).run Tryz.prog w = .ok (.tuple #[.agg #[.string ⟨#[]⟩, .int .i64 0, .string ⟨#[]⟩, .int .i64 0, .string ⟨#[]⟩, .int .i64 0], .bool false]) w := by kernel_rfl
theorem ta_pAtomic_qGet (x : Value) (w : World) : (Instr.typeAssert (.iface 231 x) 222 307 true).run Tryz.prog w = .ok (.tuple #[.agg #[.string ⟨#[]⟩, .string ⟨#[]⟩, .string ⟨#[]⟩, .int .i64 0], .bool false]) w := by kernel_rfl
theorem ta_pAtomic_qPut (x : Value) (w : World) : (Instr.typeAssert (.iface 231 x) 222 309 true).run Tryz.prog w = .ok (.tuple #[.agg #[.string ⟨#[]⟩, .string ⟨#[]⟩, .int .i64 0, .string ⟨#[]⟩, .int .i64 0], .bool false]) w := by kernel_rfl
theorem ta_pAtomic_qOut (x : Value) (w : World) : (Instr.typeAssert (.iface 231 x) 222 311 true).run Tryz.prog w = .ok (.tuple #[.agg #[.string ⟨#[]⟩, .int .i64 0], .bool false]) w := by kernel_rfl
theorem ta_pAtomic_pAtomic (x : Value) (w : World) : (Instr.typeAssert (.iface 231 x) 222 231 true).run Tryz.prog w = .ok (.tuple #[x, .bool true]) w := by kernel_rfl
theorem ta_pAtomic_pIf (x : Value) (w : World) : (Instr.typeAssert (.iface 231 x) 222 312 true).run Tryz.prog w = .ok (.tuple #[.pointer none, .bool false]) w := by kernel_rfl
theorem ta_pAtomic_pLoop (x : Value) (w : World) : (Instr.typeAssert (.iface 231 x) 222 315 true).run Tryz.prog w = .ok (.tuple #[.pointer none, .bool false]) w := by kernel_rfl
theorem ta_pAtomic_holder (x : Value) (w : World) : (Instr.typeAssert (.iface 231 x) 222 322 true).run Tryz.prog w = .ok (.tuple #[.iface 231 x, .bool true]) w := by kernel_rfl
theorem ta_pIf_qSet (x : Value) (w : World) : (Instr.typeAssert (.iface 312 x) 222 328 true).run Tryz.prog w = .ok (.tuple #[.agg #[.string ⟨#[]⟩, .string ⟨#[]⟩, .int .i64 0], .bool false]) w := by kernel_rfl
theorem ta_pIf_qOperate (x : Value) (w : World) : (Instr.typeAssert (.iface 312 x) 222 332 true).run Tryz.prog w = .ok (.tuple #[.agg #[.string ⟨#[]⟩, .int .i64 0, .string ⟨#[]⟩, .int .i64 0, .string ⟨#[]⟩, .int .i64 0], .bool false]) w := by kernel_rfl
theorem ta_pIf_qGet (x : Value) (w : World) : (Instr.typeAssert (.iface 312 x) 222 307 true).run Tryz.prog w = .ok (.tuple #[.agg #[.string ⟨#[]⟩, .string ⟨#[]⟩, .string ⟨#[]⟩, .int .i64 0], .bool false]) w := by kernel_rfl
theorem ta_pIf_qPut (x : Value) (w : World) : (Instr.typeAssert (.iface 312 x) 222 309 true).run Tryz.prog w = .ok (.tuple #[.agg #[.string ⟨#[]⟩, .string ⟨#[]⟩, .int .i64 0, .string ⟨#[]⟩, .int .i64 0], .bool false]) w := by kernel_rfl
theorem ta_pIf_qOut (x : Value) (w : World) : (Instr.typeAssert (.iface 312 x) 222 311 true).run Tryz.prog w = .ok (.tuple #[.agg #[.string ⟨#[]⟩, .int .i64 0], .bool false]) w := by kernel_rfl
theorem ta_pIf_pAtomic (x : Value) (w : World) : (Instr.typeAssert (.iface 312 x) 222 231 true).run Tryz.prog w = .ok (.tuple #[.pointer none, .bool false]) w := by kernel_rfl
theorem ta_pIf_pIf (x : Value) (w : World) : (Instr.typeAssert (.iface 312 x) 222 312 true).run Tryz.prog w = .ok (.tuple #[x, .bool true]) w := by kernel_rfl
theorem ta_pIf_pLoop (x : Value) (w : World) : (Instr.typeAssert (.iface 312 x) 222 315 true).run Tryz.prog w = .ok (.tuple #[.pointer none, .bool false]) w := by kernel_rfl
theorem ta_pIf_holder (x : Value) (w : World) : (Instr.typeAssert (.iface 312 x) 222 322 true).run Tryz.prog w = .ok (.tuple #[.iface 312 x, .bool true]) w := by kernel_rfl
theorem ta_pLoop_qSet (x : Value) (w : World) : (Instr.typeAssert (.iface 315 x) 222 328 true).run Tryz.prog w = .ok (.tuple #[.agg #[.string ⟨#[]⟩, .string ⟨#[]⟩, .int .i64 0], .bool false]) w := by kernel_rfl
theorem ta_pLoop_qOperate (x : Value) (w : World) : (Instr.typeAssert (.iface 315 x) 222 332 true).run Tryz.prog w = .ok (.tuple #[.agg #[.string ⟨#[]⟩, .int .i64 0, .string ⟨#[]⟩, .int .i64 0, .string ⟨#[]⟩, .int .i64 0], .bool false]) w := by kernel_rfl
theorem ta_pLoop_qGet (x : Value) (w : World) : (Instr.typeAssert (.iface 315 x) 222 307 true).run Tryz.prog w = .ok (.tuple #[.agg #[.string ⟨#[]⟩, .string ⟨#[]⟩, .string ⟨#[]⟩, .int .i64 0], .bool false]) w := by kernel_rfl
theorem ta_pLoop_qPut (x : Value) (w : World) : (Instr.typeAssert (.iface 315 x) 222 309 true).run Tryz.prog w = .ok (.tuple #[.agg #[.string ⟨#[]⟩, .string ⟨#[]⟩, .int .i64 0, .string ⟨#[]⟩, .int .i64 0], .bool false]) w := by kernel_rfl
theorem ta_pLoop_qOut (x : Value) (w : World) : (Instr.typeAssert (.iface 315 x) 222 311 true).run Tryz.prog w = .ok (.tuple #[.agg #[.string ⟨#[]⟩, .int .i64 0], .bool false]) w := by kernel_rfl
theorem ta_pLoop_pAtomic (x : Value) (w : World) : (Instr.typeAssert (.iface 315 x) 222 231 true).run Tryz.prog w = .ok (.tuple #[.pointer none, .bool false]) w := by kernel_rfl
theorem ta_pLoop_pIf (x : Value) (w : World) : (Instr.typeAssert (.iface 315 x) 222 312 true).run Tryz.prog w = .ok (.tuple #[.pointer none, .bool false]) w := by kernel_rfl
theorem ta_pLoop_pLoop (x : Value) (w : World) : (Instr.typeAssert (.iface 315 x) 222 315 true).run Tryz.prog w = .ok (.tuple #[x, .bool true]) w := by kernel_rfl
theorem ta_pLoop_holder (x : Value) (w : World) : (Instr.typeAssert (.iface 315 x) 222 322 true).run Tryz.prog w = .ok (.tuple #[.iface 315 x, .bool true]) w := by kernel_rfl
theorem th_pqThread (x : Value) (w : World) : (Instr.typeAssert (.iface 152 x) 322 231 true).run Tryz.prog w = .ok (.tuple #[.pointer none, .bool false]) w := by kernel_rfl
theorem th_pAtomic (x : Value) (w : World) : (Instr.typeAssert (.iface 231 x) 322 231 true).run Tryz.prog w = .ok (.tuple #[x, .bool true]) w := by kernel_rfl
theorem th_pIf (x : Value) (w : World) : (Instr.typeAssert (.iface 312 x) 322 231 true).run Tryz.prog w = .ok (.tuple #[.pointer none, .bool false]) w := by kernel_rfl
theorem th_pLoop (x : Value) (w : World) : (Instr.typeAssert (.iface 315 x) 322 231 true).run Tryz.prog w = .ok (.tuple #[.pointer none, .bool false]) w := by kernel_rfl

/-- What holds statements. -/
def hkOk : HK → Prop
  | .inl _ => True
  | .inr (.inr (.inr (.inr (.inr (.inr (.inl ())))))) => True
  | .inr (.inr (.inr (.inr (.inr (.inr (.inr (.inl _))))))) => True
  | .inr (.inr (.inr (.inr (.inr (.inr (.inr (.inr _))))))) => True
  | .inr _ => False

section
variable {D : Nat → Prop} {lab : Nat → Nat × Nat} {w : World} {br sb bs : Nat} {tv ov : Value} {st : RS} {ms : List HM}

attribute [local go_sem] th_pqThread th_pAtomic th_pIf th_pLoop

theorem hk_cases {k : HK} (h : hkOk k) : (hkT k = 231 ∧ k.isAtomic = true) ∨ ((hkT k = 152 ∨ hkT k = 312 ∨ hkT k = 315) ∧ k.isAtomic = false) := by
  rcases k with ⟨l, c⟩ | ⟨to, a⟩ | ⟨to, k, a, c⟩ | ⟨to, f, a⟩ | ⟨f, a, c⟩ | a | ⟨⟩ | a | n
  · exact .inr ⟨.inl rfl, rfl⟩
  · exact h.elim
  · exact h.elim
  · exact h.elim
  · exact h.elim
  · exact h.elim
  · exact .inl ⟨rfl, rfl⟩
  · exact .inr ⟨.inr (.inl rfl), rfl⟩
  · exact .inr ⟨.inr (.inr rfl), rfl⟩

/-- What is open is there. -/
def RS.opnOk (st : RS) : Prop := st.opn.length ≤ 4 ∧ ∀ j ∈ st.opn, ∃ h, st.hs[j]? = some h ∧ hkOk h.k

theorem open_at (h : RMach D lab w br sb bs tv ov st ms) (ho : st.opnOk) (k : Nat) (hk : k < st.opn.length) : ∃ g cp T b, ov = .slice (some ⟨g, 0, none⟩) st.opn.length cp ∧ w.cell? ⟨g, k, none⟩ = some (.iface T (ptr b)) ∧
    ((T = 231 ∧ ((st.hk st.opn[k]).map HK.isAtomic).getD false = true) ∨ ((T = 152 ∨ T = 312 ∨ T = 315) ∧ ((st.hk st.opn[k]).map HK.isAtomic).getD false = false)) := by
  have hr := h.orow
  obtain ⟨g, cp, rfl⟩ : ∃ g cp, ov = .slice (some ⟨g, 0, none⟩) st.opn.length cp := by
    rcases hr.2 with ⟨_, e2⟩ | ⟨g', cap', cur, e1, _⟩
    · omega
    · exact ⟨g', cap', e1⟩
  obtain ⟨q1, _, _⟩ := ownsRow_cell hr k hk
  obtain ⟨x, hx, hok⟩ := ho.2 st.opn[k] (List.getElem_mem hk)
  rw [← h.hs, List.getElem?_map] at hx
  cases hm : ms[st.opn[k]]? with
  | none => rw [hm] at hx; simp at hx
  | some m =>
    rw [hm] at hx
    simp at hx
    have hc : w.cell? ⟨g, k, none⟩ = some (.iface (hkT m.h.k) (ptr m.b)) := by
      rw [q1]
      simp [idV, idsOf, List.getElem?_eq_getElem hk, hm]
    have e : (st.hk st.opn[k]).map HK.isAtomic = some m.h.k.isAtomic := by
      unfold RS.hk
      rw [← h.hs, List.getElem?_map, hm]
      rfl
    rw [e]
    rw [← hx] at hok
    exact ⟨g, cp, _, _, rfl, hc, hk_cases hok⟩

set_option maxRecDepth 100000 in
set_option maxHeartbeats 1000000 in
theorem inBlock_is (h : RMach D lab w br sb bs tv ov st ms) (ho : st.opnOk) :
    Calls Tryz.prog 177 #[ptr br] w fun e w' => e = .returned (.bool st.inB) ∧ w' = w := by
  have c3 := h.c3
  obtain ⟨oa, ok, hov⟩ : ∃ a k, ov = .slice a st.opn.length k := by
    rcases h.orow.2 with ⟨e1, e2⟩ | ⟨g', cap', cur, e1, _⟩
    · exact ⟨none, 0, by rw [e1, e2]⟩
    · exact ⟨_, _, e1⟩
  have HA := hid (fun k hk => open_at h ho k hk)
  have ho4 := ho.1
  rw [hov] at c3
  have HOV := hid hov
  clear h ho hov
  go_enter Tryz.func177, Tryz.ntmps177
  go_wp2
  go_loopw [12] (fun v wr => ∃ k : Nat, k ≤ st.opn.length ∧ v = .int .i64 k ∧ wr = w ∧ Hid (∀ j (h : j < st.opn.length), j < k → ((st.hk st.opn[j]).map HK.isAtomic).getD false = false)) (fun v _ => st.opn.length - (intOf v).toNat)
  case atStart => exact ⟨0, Nat.zero_le _, rfl, rfl, fun j _ hj => by omega⟩
  case round =>
    obtain ⟨k, hk, rfl, rfl, hP⟩ := hrel
    by_cases hlt : k < st.opn.length
    · have hlt' : (k : Int) < (st.opn.length : Int) := by omega
      obtain ⟨g, cp, T, b, e1, q1, q2⟩ := HA.out k hlt
      rw [HOV.out] at e1
      obtain ⟨rfl, rfl⟩ : oa = some ⟨g, 0, none⟩ ∧ ok = cp := by simpa using e1
      clear e1
      have Q2 := hid q2
      rcases q2 with ⟨rfl, q3⟩ | ⟨q2 | q2 | q2, q3⟩
      · have HT : Hid (st.inB = true) := by
          refine List.any_eq_true.2 ⟨st.opn[k], List.getElem_mem hlt, q3⟩
        clear q3 Q2
        go_wp2
        go_ret
        exact ⟨by rw [HT.out]; rfl, rfl⟩
      all_goals
        subst q2
        have HP2 : Hid (∀ j (h : j < st.opn.length), j < k + 1 → ((st.hk st.opn[j]).map HK.isAtomic).getD false = false) := fun j hj hjk => by
          by_cases e : j = k
          · subst e; exact q3
          · exact hP.out j hj (by omega)
        clear q3 Q2 hP
        go_wp2
        go_roundw
        case rel => exact ⟨k + 1, by omega, by go_num, trivial, HP2⟩
        case measure => simp [intOf]; omega
    · have hlt' : ¬ (k : Int) < (st.opn.length : Int) := by omega
      have HF : Hid (st.inB = false) := by
        refine List.any_eq_false.2 fun j hj => ?_
        obtain ⟨i, hi, rfl⟩ := List.getElem_of_mem hj
        have := hP.out i hi (by omega)
        simp [this]
      go_wp2
      go_ret
      exact ⟨by rw [HF.out]; rfl, rfl⟩

end
end Go.Proofs.YtfhkfnoajbbfdabGreatDoor
