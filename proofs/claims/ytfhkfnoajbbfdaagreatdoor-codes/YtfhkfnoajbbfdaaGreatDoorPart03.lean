import Derived.RangeFuncNested
import Derived.RangeFuncBound
import Derived.RangeFuncCalls
import Derived.RangeFuncLeaves
import Derived.RangeFuncFrom
import Derived.Shelf.Abstract
import Derived.Shelf.RegionOpen
import Derived.WalkKit
import Derived.OwnWalkIn
import Derived.TacticsInMore
import Derived.LoopNIn
import Derived.LoopIn
import Derived.RegionIn
import Derived.Stop.RegionWithIn
import Derived.Test.YtfhkfnoajbbfdaaGreatDoorPart01
namespace Go.Proofs.YtfhkfnoajbbfdaaGreatDoor
open Go.RowKit Go.Shelf

attribute [local go_sem] Oper.semAt_some

/-- What the ring holds, the last first: the i-th. -/
def ringBack (x y : Nat → Int) (f c : Nat) (i : Nat) : Int × Int := (x ((f + (c - 1 - i)) % 4), y ((f + (c - 1 - i)) % 4))
/-- The first k of them. -/
def backUpto (x y : Nat → Int) (f c k : Nat) : List (Int × Int) := (List.range k).map (ringBack x y f c)
theorem backUpto_succ (x y : Nat → Int) (f c k : Nat) : backUpto x y f c (k + 1) = backUpto x y f c k ++ [ringBack x y f c k] := by simp [backUpto, List.range_succ]
theorem backUpto_length (x y : Nat → Int) (f c k : Nat) : (backUpto x y f c k).length = k := by simp [backUpto]

theorem slot_in (n : Nat) (b o : Nat) (i f : Int) (w : World) (hf : w.cell? ⟨b, o + 8, none⟩ = some (.int .i64 f)) (h0 : 0 ≤ f) (h1 : f < 4) (i0 : 0 ≤ i) (i1 : i ≤ 4) :
    CallsIn Fence.wide n Tryz.prog 144 #[.pointer (some ⟨b, o, none⟩), .int .i64 i] w fun e w' => e = .returned (.int .i64 ((f + i) % 4)) ∧ w' = w := by
  exact callsIn_wide.2 (slot_any b o i f w hf h0 h1 i0 i1)

set_option maxRecDepth 100000 in
set_option maxHeartbeats 1000000 in
theorem back1_in (n : Nat) (hn : 2 ≤ n) (l Bs n₀ b o f c : Nat) (x y : Nat → Int) (hb : b < n₀) (hBs : Bs < n₀) (J Jx : List (Int × Int) → World → Prop)
    (hY : ∀ pre (p : Int × Int) W, J pre W → pre.length < c → YieldAt Fence.wide (n - 1) Tryz.prog l #[.agg #[.int .i64 p.1, .int .i64 p.2]] W fun e W' =>
      (e = .returned (.bool true) ∧ J (pre ++ [p]) W' ∧ Below n₀ W W') ∨ (e = .returned (.bool false) ∧ Jx (pre ++ [p]) W'))
    (hD : ∀ pre W, J pre W → J pre W.drew)
    (W : World) (hB : W.cell? ⟨Bs, 0, none⟩ = some (.pointer (some ⟨b, o, none⟩))) (hr : RingAt W b o x y f c) (h0 : J [] W) :
    CallsIn Fence.wide n Tryz.prog 355 #[.func (.yield l) #[] #[], .pointer (some ⟨Bs, 0, none⟩)] W fun e W' => (∃ v, e = .returned v) ∧
      ((∃ ys, ys = backUpto x y f c c ∧ J ys W') ∨ (∃ pre, (∃ k, k ≤ c ∧ pre = backUpto x y f c k) ∧ Jx pre W')) := by
  have h9 := hr.c9
  have hc4 := hr.count
  refine callsIn_of_wp Tryz.func355 rfl trivial ?_ rfl
  simp only [Tryz.ntmps355, List.size_toArray, List.length_cons, List.length_nil, Nat.reduceAdd, Nat.reduceSub, Array.replicate_succ, Array.replicate_zero, List.push_toArray, List.append_toArray, List.nil_append, List.cons_append]
  have HR : Hid (RingAt W b o x y f c) := hr
  have hf4 := hr.first
  clear hr
  gi_wp2
  gi_loopw [3] (fun i wr => ∃ k : Nat, k ≤ c ∧ i = .int .i64 ((c : Int) - 1 - k) ∧ J (backUpto x y f c k) wr ∧ Below n₀ W wr)
    (fun i _ => (intOf i + 1).toNat)
  case atStart => exact ⟨0, Nat.zero_le _, by simp, h0, Below.refl _ _⟩
  case round =>
    obtain ⟨k, hk, rfl, hJs, hnx⟩ := hrel
    by_cases hlt : k < c
    · obtain ⟨fn, tmps, assign, body, hy, hR⟩ := hY _ (ringBack x y f c k) wr.drew (hD _ _ hJs) (by rw [backUpto_length]; exact hlt)
      have hcx' := (hnx.cell (p := ⟨Bs, 0, none⟩) hBs).trans hB
      have h8 := (hnx.cell (p := ⟨b, o + 8, none⟩) hb).trans HR.out.c8
      have hx1 := (hnx.cell (p := ⟨b, o + (f + (c - 1 - k)) % 4 * 2, none⟩) hb).trans (HR.out.at_ ((f + (c - 1 - k)) % 4) (by omega))
      have hy1 := (hnx.cell (p := ⟨b, o + (f + (c - 1 - k)) % 4 * 2 + 1, none⟩) hb).trans (HR.out.what ((f + (c - 1 - k)) % 4) (by omega))
      have e1 : ((f : Int) + ((c : Int) - 1 - k)) % 4 = (((f + (c - 1 - k)) % 4 : Nat) : Int) := by omega
      have e2 : (((f + (c - 1 - k)) % 4 : Nat) : Int) < 4 := by omega
      have e0 : (0 : Int) ≤ (c : Int) - 1 - k := by omega
      have e3 : 1 ≤ n - 1 := by omega
      have e4 : 1 ≤ n := by omega
      have hw : ∀ f, Fence.wide.fn f := fun _ => trivial
      have s1 : (0 : Int) ≤ (f : Int) := by omega
      have s2 : (f : Int) < 4 := by omega
      have s3 : (c : Int) - 1 - k ≤ 4 := by omega
      dsimp only [ringBack] at hy
      generalize hg : (f + (c - 1 - k)) % 4 = g at *
      have hR' := hR.mono (R' := fun e W' => ∃ bb, e = .returned (.bool bb) ∧ ((bb = true ∧ J (backUpto x y f c k ++ [ringBack x y f c k]) W' ∧ Below n₀ wr.drew W') ∨ (bb = false ∧ Jx (backUpto x y f c k ++ [ringBack x y f c k]) W')))
        (fun e W3 h => h.elim (fun h => ⟨true, h.1, .inl ⟨rfl, h.2⟩⟩) (fun h => ⟨false, h.1, .inr ⟨rfl, h.2⟩⟩))
      clear hR hY h9 hB h0
      have HX : Hid (Below n₀ W wr) := hnx
      have HJ : Hid (J (backUpto x y f c k) wr) := hJs
      clear hnx hJs hD
      gi_wp2
      gi_region_with (first | (gi_at_call 144; refine (slot_in (n - 1) b o ((c : Int) - 1 - k) (f : Int) wr.drew h8 s1 s2 e0 s3).mono ?_; rintro e w' ⟨rfl, rfl⟩) | (with_reducible refine hR'.mono ?_; rintro e W3 ⟨bb, rfl, hbb⟩))
      all_goals
        rcases hbb with ⟨rfl, hJ3, hk3⟩ | ⟨rfl, hJx3⟩
        · gi_wp2
          go_roundw
          case rel => exact ⟨k + 1, by omega, by go_num, by rw [backUpto_succ]; exact hJ3, HX.out.trans (Below.trans ((Below.refl _ _).drew) hk3)⟩
          case measure => simp [intOf]; omega
        · gi_wp2
          refine bodyPost_ret (results_none rfl _ _ _) rfl ?_
          exact ⟨⟨_, rfl⟩, .inr ⟨_, ⟨k + 1, by omega, (backUpto_succ _ _ _ _ _).symm⟩, hJx3⟩⟩
    · obtain rfl : k = c := by omega
      have e5 : ¬ (0 : Int) ≤ (k : Int) - 1 - k := by omega
      gi_wp2
      go_end0
      exact ⟨⟨_, rfl⟩, .inl hJs⟩

theorem back_stops (n : Nat) (hn : 2 ≤ n) (Bs n₀ b o f c : Nat) (x y : Nat → Int) (w : World) (hb : b < n₀) (hBs : Bs < n₀) (hn₀ : n₀ ≤ w.heap.size)
    (hB : w.cell? ⟨Bs, 0, none⟩ = some (.pointer (some ⟨b, o, none⟩))) (hr : RingAt w b o x y f c) :
    SeqStopsK Fence.wide n Tryz.prog 355 #[.pointer (some ⟨Bs, 0, none⟩)] (fun p : Int × Int => #[.agg #[.int .i64 p.1, .int .i64 p.2]]) (Below n₀) (fun ys => ys = backUpto x y f c c) (fun pre => ∃ k, k ≤ c ∧ pre = backUpto x y f c k) c w := fun l J Jx W hW hA _ hY h0 =>
  back1_in n hn l Bs n₀ b o f c x y hb hBs J Jx hY (fun pre W h => hA pre W W.drew none h ⟨rfl, rfl, rfl, Nat.le_refl _, fun _ _ _ => rfl⟩ (fun r e => by cases e)) W ((hW.cell (p := ⟨Bs, 0, none⟩) (Nat.lt_of_lt_of_le hBs hn₀)).trans hB)
    (hr.chg (M := fun _ _ => False) (Chg.of_below hW) (fun _ _ h => h)) h0

theorem back_any (b o : Nat) (w : World) :
    Calls Tryz.prog 353 #[.pointer (some ⟨b, o, none⟩)] w fun e w' => e = .returned (.func (.func 355) #[] #[.pointer (some ⟨w.heap.size, 0, none⟩)]) ∧ w' = w.alloc (.cells #[.pointer (some ⟨b, o, none⟩)] 275) := by
  have hmf : ∀ (fn : Fn) (first cap : Array Value) (w : World), (Instr.makeFunc fn first cap).run Tryz.prog w = .ok (.func fn first cap) w := fun _ _ _ _ => rfl
  go_enter Tryz.func353, Tryz.ntmps353
  go_wp2
  go_ret
  exact ⟨rfl, rfl⟩

end Go.Proofs.YtfhkfnoajbbfdaaGreatDoor
