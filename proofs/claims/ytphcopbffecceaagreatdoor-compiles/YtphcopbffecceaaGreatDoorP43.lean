import Derived.Test.YtphcopbffecceaaGreatDoorP01
import Derived.Test.YtphcopbffecceaaGreatDoorRows
import Derived.ProofKit
import Derived.JoinedOf
set_option maxRecDepth 100000
set_option maxHeartbeats 20000000
namespace Go.Proofs.YtphcopbffecceaaGreatDoor
open Go.RowKit
theorem z52{a b:Bool}(ha:a=true)(hb:b=true):(a&&b)=true:=by rw [ha,hb];rfl
theorem zfd:joinedFacts Tryz.checked.prog 3 Tryz.f3 Rows.compilesSpec Rows.compilesRow=true:=by
 unfold joinedFacts
 repeat' (with_reducible refine z52 ?_ ?_)
 all_goals (as_aux_lemma=>kernel_rfl)
theorem zfe:Tryz.checked.prog.funcNamed Rows.compilesRow.func=some 3:=yak
theorem zhc:Tryz.f3.isInstance Tryz.checked.prog Rows.compilesRow.origin Rows.compilesRow.targs:=of_decide_eq_true yak
theorem zhd:Tryz.f3.isWrapper Tryz.checked.prog Rows.compilesRow.wrapper Rows.compilesRow.mainSum:=by unfold Func.isWrapper;first|(rw [if_pos (by decide+kernel)];kernel_rfl)|(rw [if_neg (by decide+kernel)];exact ⟨rfl,rfl⟩)
end Go.Proofs.YtphcopbffecceaaGreatDoor
