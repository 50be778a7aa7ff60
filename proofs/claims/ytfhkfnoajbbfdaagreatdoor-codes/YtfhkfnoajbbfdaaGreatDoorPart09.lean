import Derived.Test.YtfhkfnoajbbfdaaGreatDoorPart08
import Derived.Test.YtfhkfnoajbbfdaaGreatDoorPart05
import Derived.Test.YtfhkfnoajbbfdaaGreatDoorPart01
import Derived.Defers
import Derived.Recover
namespace Go.Proofs.YtfhkfnoajbbfdaaGreatDoor
open Go.RowKit

section
variable {w : World} {bl bw : Nat} {n : Int} {ws : List ByteArray} {wd : Nat → ByteArray}

def wThread : ByteArray := ⟨#[116, 104, 114, 101, 97, 100]⟩

theorem infoSIns : (Tryz.prog.info? 140).map (fun i => (i.zero, i.size, i.bytes)) = some (some (.slice none 0 0), 1, 24) := by kernel_rfl

set_option maxRecDepth 100000 in
set_option maxHeartbeats 1000000 in
/-- A thread's head: one more row, with nothing in it. -/
theorem withLine_thread {v : Value} {a : Option Addr} {k c : Nat} {xs : List Value} (h : LineAt w bl n bw [wThread]) (hk : k < 3) (hv : v = .slice a k c) (ho : w.ownsRow 0 140 1 v k xs) (hob : v.ownBlock ≠ some bl) (how : v.ownBlock ≠ some bw) :
    Calls Tryz.prog 107 #[v, ptr bl] w fun e w' => ∃ g cap, e = .returned (.slice (some ⟨g, 0, none⟩) (k + 1) cap) ∧ w'.ownsRow 0 140 1 (.slice (some ⟨g, 0, none⟩) (k + 1) cap) (k + 1) (xs ++ [.slice none 0 0]) ∧ (v.ownBlock = some g ∨ w.heap.size ≤ g) ∧ LineAt w' bl n bw [] ∧ Chg (fun q i => lineM bl q i ∨ v.ownBlock = some q) w w' := by
  obtain ⟨i0, hi, hz0, hz1, hz2⟩ := info_parts infoSIns
  have H0 := hid h
  have HO := hid ho
  have hl1 : k + 1 ≤ maxLen := by unfold maxLen; omega
  have hl2 : (k + 1) * 24 ≤ 140737488355328 := by omega
  clear h ho
  subst hv
  have hk' : ¬ (k : Int) = 3 := by omega
  go_enter Tryz.func107, Tryz.ntmps107
  go_wp2_with fail
  refine (word_ok H0.out (by simp)).mono ?_
  rintro e W1 ⟨rfl, h1, c1⟩
  have H1 := hid h1
  have C1 := hid c1
  have HO1 := hid (ownsRow_chg HO.out c1 (fun g hg i e => hob (e.1 ▸ hg)))
  clear h1 c1
  rw [show wThread = ⟨#[116, 104, 114, 101, 97, 100]⟩ from rfl]
  go_wp2_with fail
  refine (end_ok H1.out).mono ?_
  rintro e W2 ⟨rfl, rfl⟩
  go_wp2_with (at_builtin; refine wpList_app1 rfl _ _ 132 rfl 140 i0 (.slice none 0 0) 24 Tryz.underlying132 hi hz0 hz1 hz2 rfl (.slice a k c) k _ rfl (HO1.out.alloc _) ⟨W2.heap.size, 0, none⟩ (.slice none 0 0) rfl (cell_one_new _ _ _) rfl hl1 hl2 ?_; go_must (intro g cap w1 hown1 hch hg; have HC := hid hown1; have HD := hid hch; have HG := hid hg; clear hown1 hch hg))
  go_ret
  have d1 : Chg (fun q _ => (Value.slice a k c).ownBlock = some q) W2 w1 := ((Chg.refl _ W2).alloc _).trans HD.out
  refine ⟨g, cap, rfl, HC.out, ?_, H1.out.keep d1 (fun _ => hob) (fun _ => how), (C1.out.mono (fun q i _ e => .inl e)).trans (d1.mono (fun q i _ e => .inr e))⟩
  rcases HG.out with e | e
  · exact .inl e
  · right; have := C1.out.size; simp at e; omega
end
end Go.Proofs.YtfhkfnoajbbfdaaGreatDoor

/- A row of one's own: reading one of its cells, setting one. -/
namespace Go.Proofs.YtfhkfnoajbbfdaaGreatDoor
open Go.RowKit

theorem ownsRow_cell {w : World} {e : TypeId} {g n cap : Nat} {xs : List Value} (h : w.ownsRow 0 e 1 (.slice (some ⟨g, 0, none⟩) n cap) n xs) (j : Nat) (hj : j < n) :
    w.cell? ⟨g, j, none⟩ = xs[j]? ∧ w.frozen? ⟨g, j, none⟩ = false ∧ g < w.heap.size := by
  rcases h.2 with ⟨h2, _⟩ | ⟨g', cap', cur, hv, _, hg, hn, hm, hs, ht⟩
  · cases h2
  · cases hv
    refine ⟨?_, ?_, (Array.getElem?_eq_some_iff.1 hg).1⟩
    · rw [← ht]
      simp [World.cell?, hg, hj]
    · simp [World.frozen?, hg]

theorem ownsRow_set {w : World} {e : TypeId} {g n cap : Nat} {xs : List Value} (h : w.ownsRow 0 e 1 (.slice (some ⟨g, 0, none⟩) n cap) n xs) (j : Nat) (u : Value) :
    (w.setCell ⟨g, j, none⟩ u).ownsRow 0 e 1 (.slice (some ⟨g, 0, none⟩) n cap) n (xs.set j u) := by
  refine ⟨by simpa using h.1, ?_⟩
  rcases h.2 with ⟨h2, _⟩ | ⟨g', cap', cur, hv, hb, hg, hn, hm, hs, ht⟩
  · cases h2
  · cases hv
    have hlt := (Array.getElem?_eq_some_iff.1 hg).1
    refine .inr ⟨g, cap, cur.setIfInBounds j u, rfl, hb, ?_, hn, hm, by simpa using hs, ?_⟩
    · rw [World.setCell]; simp only [Array.getElem?_modify, hg]; simp
    · rw [← ht]; simp [List.take_set]

section
variable {w : World} {bl bw : Nat} {n : Int} {ws : List ByteArray} {wd : Nat → ByteArray}

theorem row_cell {W w1 : World} {o : Obj} {ov v : Value} {g k : Nat} (hc : Chg (fun k _ => ov.ownBlock = some k) (W.alloc o) w1) (hg : ov.ownBlock ≠ some g) (hlt : g < W.heap.size) (h : W.cell? ⟨g, k, none⟩ = some v) : w1.cell? ⟨g, k, none⟩ = some v :=
  (hc.cell g k (by simp; omega) hg).trans ((World.cell?_alloc_past _ _ _ hlt).trans h)
theorem row_free {W w1 : World} {o : Obj} {ov : Value} {g k : Nat} (hc : Chg (fun k _ => ov.ownBlock = some k) (W.alloc o) w1) (hlt : g < W.heap.size) (h : W.frozen? ⟨g, k, none⟩ = false) : w1.frozen? ⟨g, k, none⟩ = false :=
  (hc.frozen g k (by simp; omega)).trans ((World.frozen?_alloc_past _ _ _ hlt).trans h)

theorem infoIns : (Tryz.prog.info? 202).map (fun i => (i.zero, i.size, i.bytes)) = some (some .nilIface, 1, 16) := by kernel_rfl

set_option maxRecDepth 100000 in
set_option maxHeartbeats 1000000 in
/-- An instruction: the last row grows by one. -/
theorem withLine_ins {u : ByteArray} {g k c m : Nat} {xs ys : List Value} {iv : Value} {T : TypeId} {p : Value} (h : LineAt w bl n bw (u :: ws)) (hlen : ws.length < 1000000) (hu : u ≠ wThread) (hk : k < 3)
    (hr : ∀ W, LineAt W bl n bw ws → Chg (lineM bl) w W → Calls Tryz.prog 140 #[.string u, ptr bl] W fun e w' => e = .returned (.iface T p) ∧ LineAt w' bl n bw [] ∧ Chg (lineM bl) W w')
    (ho : w.ownsRow 0 140 1 (.slice (some ⟨g, 0, none⟩) (k + 1) c) (k + 1) xs) (hob : g ≠ bl) (how : g ≠ bw) (hx : xs[k]? = some iv) (hi : w.ownsRow 0 202 1 iv m ys) (him : m < 4000) (hib : iv.ownBlock ≠ some bl) (hiw : iv.ownBlock ≠ some bw) :
    Calls Tryz.prog 107 #[.slice (some ⟨g, 0, none⟩) (k + 1) c, ptr bl] w fun e w' => e = .returned (.slice (some ⟨g, 0, none⟩) (k + 1) c) ∧ ∃ b cap, w'.ownsRow 0 202 1 (.slice (some ⟨b, 0, none⟩) (m + 1) cap) (m + 1) (ys ++ [.iface T p]) ∧ w'.ownsRow 0 140 1 (.slice (some ⟨g, 0, none⟩) (k + 1) c) (k + 1) (xs.set k (.slice (some ⟨b, 0, none⟩) (m + 1) cap)) ∧ (iv.ownBlock = some b ∨ w.heap.size ≤ b) ∧ LineAt w' bl n bw [] ∧ Chg (fun q i => lineM bl q i ∨ iv.ownBlock = some q ∨ (q = g ∧ i = k)) w w' := by
  have hne := ba_ne hu
  have H0 := hid h
  have HR := hid hr
  have HO := hid ho
  have HI := hid hi
  have hk' : ¬ (k : Int) + 1 = 0 := by omega
  clear h hr ho hi hu
  go_enter Tryz.func107, Tryz.ntmps107
  go_wp2_with fail
  refine (word_ok H0.out hlen).mono ?_
  rintro e W1 ⟨rfl, h1, c1⟩
  have H1 := hid h1
  have C1 := hid c1
  clear h1 c1
  rw [show wThread.toList = [116, 104, 114, 101, 97, 100] from by rw [ByteArray.toList_eq]; rfl] at hne
  go_wp2_with fail
  refine (HR.out W1 H1.out C1.out).mono ?_
  rintro e W2 ⟨rfl, h2, c2⟩
  have H2 := hid h2
  have C2 := hid (C1.out.trans c2)
  clear h2 c2 HR H1 C1
  go_wp2_with fail
  refine (end_ok H2.out).mono ?_
  rintro e W3 ⟨rfl, rfl⟩
  have ho3 := ownsRow_chg HO.out C2.out (fun g' hg i e => by simp [Value.ownBlock] at hg; exact hob (hg.trans e.1))
  have hi3 := ownsRow_chg HI.out C2.out (fun g' hg i e => hib (e.1 ▸ hg))
  obtain ⟨q1, q2, q3⟩ := ownsRow_cell ho3 k (by omega)
  rw [hx] at q1
  obtain ⟨ia, ic, rfl⟩ : ∃ ia ic, iv = .slice ia m ic := by
    rcases hi3.2 with ⟨e1, e2⟩ | ⟨g', cap', cur, e1, _⟩
    · exact ⟨none, 0, by rw [e1, e2]⟩
    · exact ⟨_, _, e1⟩
  have HO3 := hid ho3
  have HI3 := hid hi3
  have him' : ¬ (m : Int) = 4000 := by omega
  have hl1 : m + 1 ≤ maxLen := by unfold maxLen; omega
  have hl2 : (m + 1) * 16 ≤ 140737488355328 := by omega
  obtain ⟨i0, hi0, hz0, hz1, hz2⟩ := info_parts infoIns
  have hig : (Value.slice ia m ic).ownBlock ≠ some g := fun e => by
    obtain ⟨x1, y1⟩ := ownsRow_shape hi3 g e
    obtain ⟨x2, y2⟩ := ownsRow_shape ho3 g rfl
    rw [y1] at y2
    simp at y2
  have HIG := hid hig
  clear ho3 hi3 hig
  go_wp2_with (at_builtin; refine wpList_app1 rfl _ _ 140 rfl 202 i0 .nilIface 16 Tryz.underlying140 hi0 hz0 hz1 hz2 rfl (.slice ia m ic) m _ rfl (HI3.out.alloc _) ⟨W3.heap.size, 0, none⟩ (.iface T p) rfl (cell_one_new _ _ _) rfl hl1 hl2 ?_; go_must (intro b cap w1 hown1 hch hg; have hcb := row_cell hch HIG.out q3 q1; have hfb := row_free hch q3 q2; have HC := hid hown1; have HD := hid hch; have HG := hid hg; clear hown1 hch hg))
  go_ret
  have d1 : Chg (fun q _ => (Value.slice ia m ic).ownBlock = some q) W3 w1 := ((Chg.refl _ W3).alloc _).trans HD.out
  have d2 : Chg (fun q i => q = g ∧ i = k) w1 (w1.setCell ⟨g, k, none⟩ (.slice (some ⟨b, 0, none⟩) (m + 1) cap)) := (Chg.refl (fun q i => q = g ∧ i = k) w1).setCell (b := g) (o := k) (fun _ => ⟨rfl, rfl⟩) _
  have hbg : b ≠ g := by
    rcases HG.out with e | e
    · exact fun e' => HIG.out (e' ▸ e)
    · simp at e; omega
  refine ⟨rfl, b, cap, ownsRow_chg HC.out d2 (fun g' hg' i e => by simp [Value.ownBlock] at hg'; exact hbg (hg'.trans e.1)), ownsRow_set (ownsRow_chg HO3.out d1 (fun g' hg' i e => by simp [Value.ownBlock] at hg'; exact HIG.out (hg' ▸ e))) k _, ?_, (H2.out.keep d1 (fun _ => hib) (fun _ => hiw)).keep d2 (fun _ e => hob e.1.symm) (fun _ e => how e.1.symm), ((C2.out.mono (fun q i _ e => .inl e)).trans (d1.mono (fun q i _ e => .inr (.inl e)))).trans (d2.mono (fun q i _ e => .inr (.inr e)))⟩
  rcases HG.out with e | e
  · exact .inl e
  · right; have := C2.out.size; simp at e; omega
end
end Go.Proofs.YtfhkfnoajbbfdaaGreatDoor

namespace Go.Proofs.YtfhkfnoajbbfdaaGreatDoor
open Go.RowKit
section
variable {w : World} {bl bw : Nat} {n : Int} {ws : List ByteArray}

set_option maxRecDepth 100000 in
set_option maxHeartbeats 1000000 in
/-- What a line does to the threads read so far, which lie in a box. -/
theorem read1_ok {bt : Nat} {v : Value} {R : Option Addr → Nat → Nat → World → Prop} (hc : w.cell? ⟨bt, 0, none⟩ = some v)
    (hcall : Calls Tryz.prog 107 #[v, ptr bl] w fun e w' => ∃ a k c, e = .returned (.slice a k c) ∧ R a k c w' ∧ w'.cell? ⟨bt, 0, none⟩ = some v ∧ w'.frozen? ⟨bt, 0, none⟩ = false) :
    Calls Tryz.prog 106 #[ptr bl, ptr bt] w fun e w' => e = .returned (.tuple #[]) ∧ ∃ a k c w1, R a k c w1 ∧ w1.cell? ⟨bt, 0, none⟩ = some v ∧ w' = w1.setCell ⟨bt, 0, none⟩ (.slice a k c) := by
  have HC := hid hcall
  clear hcall
  go_enter Tryz.func106, Tryz.ntmps106
  go_wp2_with fail
  refine HC.out.mono ?_
  rintro e w1 ⟨a, k, c, rfl, hr, h1, h2⟩
  have HR := hid hr
  clear hr HC
  go_wp2
  go_end0
  exact ⟨rfl, a, k, c, w1, HR.out, h1, rfl⟩

end
end Go.Proofs.YtfhkfnoajbbfdaaGreatDoor

namespace Go.Proofs.YtfhkfnoajbbfdaaGreatDoor
open Go.RowKit
/- A thread's address is not nil. -/
theorem nGive (b : Nat) (w : World) : (nilAhead 584 141 (ptr b) "Give").run Tryz.prog w = .ok (some false) w := by kernel_rfl
theorem nStore (b : Nat) (w : World) : (nilAhead 584 141 (ptr b) "Store").run Tryz.prog w = .ok (some false) w := by kernel_rfl
theorem nSetCell (b : Nat) (w : World) : (nilAhead 584 141 (ptr b) "SetCell").run Tryz.prog w = .ok (some false) w := by kernel_rfl
end Go.Proofs.YtfhkfnoajbbfdaaGreatDoor

/- text.Read on a text without fault. -/
namespace Go.Proofs.YtfhkfnoajbbfdaaGreatDoor
open Go.RowKit

/-- A line's words. -/
def wordsOf (l : List UInt8) : List ByteArray := Lib.splitB ⟨#[32]⟩ 0 (Lib.countB ⟨l.toArray⟩ ⟨#[32]⟩) ⟨l.toArray⟩

theorem wordsOf_len (l : List UInt8) : (wordsOf l).length = Lib.countB ⟨l.toArray⟩ ⟨#[32]⟩ + 1 := Lib.splitB_all ⟨#[32]⟩ (by decide) 0 _ _ rfl

theorem cut_lt {r l r' : List UInt8} {sep : UInt8} (h : Lib.cut r [sep] = (l, r', true)) (h0 : r ≠ []) : r'.length < r.length ∧ l.length ≤ r.length := by
  unfold Lib.cut at h
  have hl : 0 < r.length := List.length_pos_iff.2 h0
  split at h
  · simp only [Prod.mk.injEq, and_true] at h
    obtain ⟨rfl, rfl⟩ := h
    constructor
    · simp only [List.length_drop, List.length_cons, List.length_nil]; omega
    · simp only [List.length_take]; omega
  · simp at h

theorem below_drewN (B : Nat) (w : World) (n : Nat) : Below B w (w.drewN n) := ⟨rfl, rfl, rfl, Nat.le_refl _, fun _ _ => rfl⟩

theorem lineAt_new {w : World} {l : List UInt8} {n : Int} :
    LineAt ((w.alloc (.cells ((wordsOf l).map Value.string).toArray 9)).alloc (.cells #[.int .i64 n, .slice (some ⟨w.heap.size, 0, none⟩) (wordsOf l).length (wordsOf l).length] 257)) (w.heap.size + 1) n w.heap.size (wordsOf l) := by
  have hs : (w.alloc (.cells ((wordsOf l).map Value.string).toArray 9)).heap.size = w.heap.size + 1 := by simp
  refine ⟨?_, ?_, ⟨0, (wordsOf l).length, Nat.le_refl _, ?_, ?_⟩, ?_, by omega, by simp; omega⟩
  · have e : ((w.alloc (.cells ((wordsOf l).map Value.string).toArray 9)).alloc (.cells #[.int .i64 n, .slice (some ⟨w.heap.size, 0, none⟩) (wordsOf l).length (wordsOf l).length] 257)).heap[w.heap.size + 1]? = some (.cells #[.int .i64 n, .slice (some ⟨w.heap.size, 0, none⟩) (wordsOf l).length (wordsOf l).length] 257) := by
      rw [← hs]; show (Array.push _ _)[_]? = _; exact Array.getElem?_push_size
    unfold World.shape?
    rw [e]
    rfl
  · rw [← hs]; exact (World.cell?_alloc_new _ _ _ 0).trans rfl
  · rw [← hs]; exact (World.cell?_alloc_new _ _ _ 1).trans rfl
  · intro j hj
    rw [World.cell?_alloc_past _ _ _ (by simp), World.cell?_alloc_new]
    simp [hj]
  · rw [← hs]; simp

set_option maxRecDepth 100000 in
set_option maxHeartbeats 1000000 in
theorem read1x_idle (p : Addr) (w : World) :
    CallsD Tryz.prog 134 #[.pointer (some p)] .returning w fun e u' w' => e = .returned (.tuple #[]) ∧ u' = .returning ∧ w' = w := by
  refine callsD_of_wpS Tryz.func134 rfl fun c₀ cs hu => ?_
  apply wpS_seq
  apply wpS_region
  simp [wpOpsS, go_sem, recoverD, hu, Tryz.ntmps134, Exit.thenS]
  apply wpS_of_wp
  go_wp2
  cases c₀
  simp_all [bodyPostS, results, Tryz.results134]

def strSize : Value → Nat | .string b => b.size | _ => 0

set_option maxRecDepth 100000 in
set_option maxHeartbeats 2000000 in
theorem textRead_walk (W : World) (s : ByteArray) (most : Int) (tk bt : Nat) (Inv : List UInt8 → Nat → World → Prop)
    (hs : (s.size : Int) ≤ most) (hs2 : s.size ≤ 1000000) (hne : s.data.toList ≠ [])
    (hent : ∀ args w, (callFunc tk args).run Tryz.prog w = .ok (.enter tk args) w)
    (h0 : Hid (Inv s.data.toList 0 (W.alloc (.cells #[.nilIface] 96))))
    (hcut : Hid (∀ (r : List UInt8) (j : Nat) (w : World), r.length ≤ s.size → Inv r j w → Calls Tryz.prog 135 #[.string ⟨r.toArray⟩, .string ⟨#[10]⟩] w fun e w' => e = .returned (.tuple #[.string ⟨(Lib.cut r [10]).1.toArray⟩, .string ⟨(Lib.cut r [10]).2.1.toArray⟩, .bool (Lib.cut r [10]).2.2]) ∧ ∃ n, w' = w.drewN n))
    (hsplit : Hid (∀ (r : List UInt8) (j : Nat) (w : World) (l : List UInt8) (n : Nat), Inv r j w → l.length ≤ s.size → Calls Tryz.prog 136 #[.string ⟨l.toArray⟩, .string ⟨#[32]⟩] (w.drewN n) fun e w' => e = .returned (.slice (some ⟨w.heap.size, 0, none⟩) (wordsOf l).length (wordsOf l).length) ∧ w' = (w.drewN n).alloc (.cells ((wordsOf l).map Value.string).toArray 9)))
    (hstep : Hid (∀ (r : List UInt8) (j : Nat) (w : World), Inv r j w → r ≠ [] → ∃ l r', Lib.cut r [10] = (l, r', true) ∧ r'.length < r.length ∧ l.length ≤ r.length ∧ ∀ n, Calls Tryz.prog tk #[ptr (w.heap.size + 1), ptr bt] (((w.drewN n).alloc (.cells ((wordsOf l).map Value.string).toArray 9)).alloc (.cells #[.int .i64 (j + 1), .slice (some ⟨w.heap.size, 0, none⟩) (wordsOf l).length (wordsOf l).length] 257)) fun e w2 => e = .returned (.tuple #[]) ∧ Inv r' (j + 1) w2))
    (herr : Hid (∀ r j w, Inv r j w → w.cell? ⟨W.heap.size, 0, none⟩ = some .nilIface ∧ w.frozen? ⟨W.heap.size, 0, none⟩ = false)) :
    Calls Tryz.prog 105 #[.string s, .int .i64 most, .func (.func tk) #[] #[ptr bt]] W fun e w' => e = .returned .nilIface ∧ ∃ j w1, Inv [] j w1 ∧ w' = w1.setCell ⟨W.heap.size, 0, none⟩ .nilIface := by
  have hs' : ¬ most < (s.size : Int) := by omega
  have hmf : ∀ (fn : Fn) (first cap : Array Value) (w : World), (Instr.makeFunc fn first cap).run Tryz.prog w = .ok (.func fn first cap) w := fun _ _ _ _ => rfl
  go_enter_defers Tryz.func105, Tryz.ntmps105
  go_wp2
  go_loopw [0, 7] (fun v0 v7 wr => ∃ (r : List UInt8) (j : Nat), v0 = .string ⟨r.toArray⟩ ∧ v7 = .int .i64 (j + 1) ∧ Inv r j wr ∧ (j = 0 → r ≠ []) ∧ j + r.length ≤ s.size) (fun v0 _ _ => strSize v0)
  case atStart => exact ⟨s.data.toList, 0, by simp, rfl, h0.out, fun _ => hne, by simp⟩
  case round =>
    obtain ⟨r, j, rfl, rfl, hi, hj0, hjl⟩ := hrel
    have HI := hid hi
    clear hi
    by_cases hr : r = []
    · subst hr
      have hj : ¬ (j : Int) + 1 = 1 := fun e => hj0 (by omega) rfl
      have hee : (ByteArray.mk ([] : List UInt8).toArray).toList.isEmpty = true := by rw [ByteArray.toList_eq]; rfl
      obtain ⟨e1, e2⟩ := herr.out _ _ _ HI.out
      have hjb : (((j : Int) + 1) == 1) = false := by simpa using hj
      go_wp2
      refine leaves_cons (f := 134) (args := #[.pointer (some ⟨W.heap.size, 0, none⟩)]) (by simp) (by simp [go_sem]) ?_
      refine (read1x_idle ⟨W.heap.size, 0, none⟩ _).mono ?_
      rintro e u' w'' ⟨rfl, rfl, rfl⟩
      refine ⟨.nilIface, ?_, rfl, j, wr, HI.out, rfl⟩
      simp [results, Tryz.results105, go_sem, World.cell?_setCell_same wr _ _ e1]
    · have hie : r.isEmpty = false := by simpa using hr
      obtain ⟨l, r', hcu, hlt, hll, hgo⟩ := hstep.out r j wr HI.out hr
      have HG := hid hgo
      clear hgo
      have hwr : wrap64 ((j : Int) + 1 + 1) = (j : Int) + 1 + 1 := by
        have : j < 1000000 := by have := List.length_pos_iff.2 hr; omega
        unfold wrap64; omega
      have hjb : (((j : Int) + 1) == 1) = true ∨ (((j : Int) + 1) == 1) = false := by cases (((j : Int) + 1) == 1) <;> simp
      rcases hjb with hjb | hjb
      all_goals
        go_wp2_with fail
        refine (hcut.out r j wr (by omega) HI.out).mono ?_
        rintro e w1 ⟨rfl, n, rfl⟩
        rw [hcu]
        go_wp2_with fail
        refine (hsplit.out r j wr l n HI.out (by omega)).mono ?_
        rintro e w1 ⟨rfl, rfl⟩
        go_wp2_with fail
        refine (HG.out n).mono ?_
        rintro e w2 ⟨rfl, h2⟩
        have H2 := hid h2
        clear h2 HG HI
        go_wp2
        go_roundw
        case rel => exact ⟨r', j + 1, rfl, by go_num, H2.out, fun e => absurd e (Nat.succ_ne_zero _), by omega⟩
        case measure => show r'.toArray.size < r.toArray.size; simpa using hlt
end Go.Proofs.YtfhkfnoajbbfdaaGreatDoor
