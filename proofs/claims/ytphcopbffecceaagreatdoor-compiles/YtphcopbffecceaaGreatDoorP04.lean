import Derived.RangeFuncNested
import Derived.RangeFuncBound
import Derived.RangeFuncCalls
import Derived.RangeFuncLeaves
import Derived.RangeFuncFrom
import Derived.Shelf.Abstract
import Derived.Shelf.RegionOpen
import Derived.OwnWalkIn
import Derived.TacticsInMore
import Derived.LoopNIn
import Derived.LoopIn
import Derived.RegionIn
import Derived.Stop.RegionWithIn
import Derived.Test.YtphcopbffecceaaGreatDoorP03
import Derived.Deep.AppendLies
import Derived.Maps.AppendAt
import Derived.BigQuiet
import Derived.Deep.QuietTactic
import Derived.Laws.Bits64b
import Derived.Laws.Shifts
namespace Go.Proofs.YtphcopbffecceaaGreatDoor
open Go.RowKit
variable{w:World}
theorem Qd{k:Nat}{s:TypeId×Nat}(h:w.shape? k=some s):k<w.heap.size:=by
 unfold World.shape? at h
 split at h
 ·rename_i c e f hb;exact (Array.getElem?_eq_some_iff.1 hb).1
 ·cases h
theorem Qc{M:Nat->Nat->Prop}{w':World}{base:Nat}{e:TypeId}{size:Nat}{v:Value}{n:Nat}{xs:List Value}(h:w.ownsRow base e size v n xs)(hc:Chg M w w')(hM: ∀g,v.ownBlock=some g->∀i,¬M g i):w'.ownsRow base e size v n xs:=by
 refine ⟨h.1,?_⟩
 rcases h.2 with h2|⟨g,cap,cur,rfl,hb,hg,h3⟩
 ·exact .inl h2
 ·exact .inr ⟨g,cap,cur,rfl,hb,(hc.block g (Array.getElem?_eq_some_iff.1 hg).1 (hM g rfl)).trans hg,h3⟩
section
variable{w w':World}{b bm:Nat}{iv ov:Value}{T:Th}{m:Nat->Int}{M:Nat->Nat->Prop}
end
section
variable{w:World}{b bm:Nat}{iv ov:Value}{T:Th}{m:Nat->Int}
def waits(b:Nat)(w:World):Nat:=(intOf ((w.cell? ⟨b,20,none⟩).getD (.int .i64 0))).toNat
end
section
variable{w:World}{b bm:Nat}{iv ov:Value}{T:Th}{m:Nat->Int}
theorem zqb:(Tryz.prog.info? 2).map (λi=>(i.zero,i.size,i.bytes))=some (some (.int .i64 0),1,8):=yak
theorem hid{p:Prop}(h:p):Hid p:=h
end
def okI(i:Ic):Prop:=i.d<8/\i.a.ok/\i.b.ok/\i.c.ok/\(i.k=2\/i.k=3\/i.k=4\/i.k=5\/i.k=6\/i.k=7\/i.k=8\/i.k=10\/i.k=0\/(i.k=1/\i.op<12)\/i.k=9)
section
variable{w:World}{b bm:Nat}{iv ov:Value}{T:Th}{m:Nat->Int}
end
section
variable{D:Nat->Prop}{w:World}{bm:Nat}{A:List (Th×List Ic)}{m:Nat->Int}
end
end Go.Proofs.YtphcopbffecceaaGreatDoor
