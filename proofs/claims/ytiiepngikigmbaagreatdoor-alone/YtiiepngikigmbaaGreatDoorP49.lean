import Derived.Test.YtiiepngikigmbaaGreatDoorP01
import Derived.Test.YtiiepngikigmbaaGreatDoorRows
import Derived.ProofKit
import Derived.JoinedOf
set_option maxRecDepth 100000
set_option maxHeartbeats 20000000
namespace Go.Proofs.YtiiepngikigmbaaGreatDoor
open Go.RowKit
theorem yjh{a b:Bool}(ha:a=true)(hb:b=true):(a&&b)=true:=by rw [ha,hb];rfl
theorem yb9:joinedFacts Tryz.checked.prog 3 Tryz.f3 Rows.aloneSpec Rows.aloneRow=true:=by
 unfold joinedFacts
 repeat' (with_reducible refine yjh ?_ ?_)
 all_goals (as_aux_lemma=>kernel_rfl)
theorem yca:Tryz.checked.prog.funcNamed Rows.aloneRow.func=some 3:=yl7
theorem ydw:Tryz.f3.isInstance Tryz.checked.prog Rows.aloneRow.origin Rows.aloneRow.targs:=of_decide_eq_true yl7
theorem ydx:Tryz.f3.isWrapper Tryz.checked.prog Rows.aloneRow.wrapper Rows.aloneRow.mainSum:=by unfold Func.isWrapper;first|(rw [if_pos (by decide+kernel)];kernel_rfl)|(rw [if_neg (by decide+kernel)];exact ⟨rfl,rfl⟩)
end Go.Proofs.YtiiepngikigmbaaGreatDoor
