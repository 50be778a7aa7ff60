import Derived.Test.YtphcopbffecceaaGreatDoorRows
import Derived.Test.YtphcopbffecceaaGreatDoorP02
import Derived.ProofKit
import Derived.LaidMore
import Derived.LaidSub
import Derived.OpenShut
import Derived.Lay
import Derived.Handed
import Derived.Stop.Joined
import Derived.Shelf.Vars
import Derived.Laws.AppendOwn
import Derived.Deep.RegionHeldLaw
namespace Go.Proofs.YtphcopbffecceaaGreatDoor
open Go.RowKit
variable{P:Program}{W w:World}{ops:Array Oper}{a:Act}{Q:Exit->Act->World->Prop}{o:Oper}{rest:List Oper}{md:Region.Mode}{S:World->Prop}{fuel:Nat}{listed:Array Bool}
open Go.ChangeShapes Go.WideShapes Go.ChangeAt Go.WideMaps Go.WideElems Go.RowKit
theorem own:ownKnob Tryz.prog.godebug=none:=yak
theorem z11:Tryz.prog.globalNamed "commits/ops.words" =some 2:=yak
theorem z12:(Tryz.prog.globals[2]?).map (·.type)=some 251:=yak
theorem zqa(h:W.ShapedOpen Tryz.prog): ∃m,W.cell? ⟨1,0,none⟩=some (.int .i64 m):=
 cell_of_shapedOpen_int (zero:=#[.int .i64 0]) (t:=3) h (of_decide_eq_true yak) yak rfl yak yak Tryz.underlying3
theorem zu6(h:laidMet Tryz.prog [("commits/ops.words",Rows.laid_commits_ops_words)] W):zjj W Jc:=by
 obtain ⟨ps,⟨g0,t0,cs0,f0,p0,q0,hg0,ht0,hv0,hd0,_,_⟩,_,_⟩:=h
 obtain rfl:=Option.some.inj (z11.symm.trans hg0)
 obtain rfl:=Option.some.inj (z12.symm.trans ht0)
 obtain ⟨xs,m1,rfl,hx1,hlen,hn3,hel⟩:=DataW.trod_array Tryz.underlying251 hd0
 simp only [Prod.mk.injEq] at hx1
 have hD:(DataW.agg (xs.map (·.1)):DataW Unit)=DataW.agg ((List.range 12).map λj=> .lit (.string (Jc j).data.toList)):=hx1.1.symm.trans yak
 have hD':xs.map (·.1)=(List.range 12).map λj=>DataW.lit (.string (Jc j).data.toList):=by injection hD
 have c9:Tryz.prog.cellsOf 9=1:=yak
 intro j hj
 have h0:=hel j hj
 rw [c9] at h0
 obtain ⟨x,hx⟩: ∃x,xs[j]?=some x:=⟨_,List.getElem?_eq_getElem yai⟩
 rw [hx] at h0
 obtain ⟨s,e1,e2,_⟩:=DataW.trod_string Tryz.underlying9 h0
 have e3:(xs.map (·.1))[j]?=some x.1:=by simp [hx]
 rw [hD',e2] at e3
 simp [hj] at e3
 have e4:Jc j=s:=Go.WideShapes.bytes_inj (by simpa using e3)
 have e5:(List.take 1 (List.drop (j*1) cs0.toList))[0]?=some (.string s):=by rw [e1];rfl
 simp at e5
 rw [e4]
 exact (World.var?_cell hg0 hv0 j).trans e5
theorem znw{l:List (String×DataW Unit)}(hf:l.filter (λx=>x.1== "commits/ops.words")=[("commits/ops.words",Rows.laid_commits_ops_words)])(h:laidMetH Tryz.prog l W):zjj W Jc:=by
 have h1:=h.filter (λx=>x.1== "commits/ops.words")
 rw [hf,MakeChecks.laidMetH_plain _ _ _ yak] at h1
 exact zu6 h1
theorem ze7{H:Type}{enc:TypeId×Value->H}{a:Assume}{C:Checked}{os:Os}{f:FuncId}{fn:Func}{s:ChangeSpec}{conds:List PathCond}{apart fresh handsOn again:Bool}{X:World->Array Value->Prop}
  (hX: ∀(w w':World) (args:Array Value),w.heap=w'.heap->X w args->X w' args)
  (own:ownKnob C.prog.godebug=none) (started:os.Started) (noInit:C.prog.inits.idxOf? f=none) (hfn:C.prog.funcs[f]?=some fn)
  (witness: ∃(w:World) (tape:Tape) (i:Input),w.os=os/\(w.forCall tape i).Shaped C.prog/\i.vars=[]/\Input.okWide C.prog (w.forCall tape i) .any w.heap.size f i/\
   ((s.pre enc C.prog fn conds apart (w.forCall tape i).memory i.args/\X (w.forCall tape i).memory i.args)/\sizedMet enc C.prog fn (OpenSpec.ofChange s) apart (w.forCall tape i).memory i.args)/\a.holds C.prog (lone (Frame.enter C.prog f i.args .normal) [] (w.forCall tape i)))
  (contract: ∀(W:World) (base:Nat) (args:Array Value) (ds gs:List (DataW H)) (before:List MemPlace),
   (∀(j:Nat) t v,fn.params[j]?=some t->args[j]?=some v->Value.okWide C.prog W .any base t v) ->
   DataW.Whole enc C.prog fn.params.toList s.vars apart W args.toList ds gs before ->
   (DataW.weightsEach C.prog (fn.params.toList++s.plain.varTypes C.prog) (ds++gs)).all (·<=reachBytes)=true->X W args->W.ShapedOpen C.prog ->
   Calls C.prog f args W λe W'=>∃v,e= .returned v/\s.post enc C.prog fn apart fresh handsOn again W args v W'):
  ReturnsInHanded a C os f .any (λw args=>(s.pre enc C.prog fn conds apart w args/\X w args)/\sizedMet enc C.prog fn (OpenSpec.ofChange s) apart w args) (s.post enc C.prog fn apart fresh handsOn again):=by
 refine returnsInHanded_of_calls own started noInit witness ?_
 intro w tape i _ hsh _ hok hpre hholds
 obtain ⟨_,_,_,fn',hfn',_,_,_,_,hval⟩:=hok
 have e:fn'=fn:=Option.some.inj (hfn'.symm.trans hfn)
 subst e
 obtain ⟨⟨⟨ds,gs,before,hw,hc⟩,hx⟩,hz⟩:=hpre
 have hw':=DataW.Whole.of_heap (w':=w.forCall tape i) (by rfl) hw
 refine (contract (w.forCall tape i) w.heap.size i.args ds gs before hval hw' (hz.weights hw) (hX _ _ _ (by rfl) hx) hsh).mono λe W' ⟨v,he,hp⟩=>?_
 subst he
 exact ChangeSpec.post_blind hp
structure Vl where
 reg:Bool
 v:Int
structure Ic where
 k:Nat
 op:Nat
 d:Nat
 a:Vl
 b:Vl
 c:Vl
 n:Int
structure Th where
 r:Nat->Int
 pl:Int
 q:List (Int×Int)
 out:List Int
 st:Int
def Vl.ok(x:Vl):Prop:=x.reg=true->0<=x.v/\x.v<8
theorem Chg.setRow{g:Nat}{old cs:Array Value}{e:TypeId}{fr:Nat×Nat}(hg:w.heap[g]?=some (.cells old e fr))(hs:cs.size=old.size):Chg (λk _=>k=g) w (w.setRow g cs):=by
 have hh:=setRow_heap w g old cs e fr hg
 refine ⟨rfl,rfl,rfl,by simp [World.setRow],?_,?_,?_,?_⟩
 ·intro k hk hn;exact setRow_other w g k cs (hn 0)
 ·intro k i hk hn;exact World.cell?_of_block (w:=w) (setRow_other w g k cs hn)
 ·intro k i hk
  by_cases e':k=g
  ·subst e';simp [World.frozen?,hh,hg]
  ·exact World.frozen?_of_block (w:=w) (setRow_other w g k cs e')
 ·intro k hk
  by_cases e':k=g
  ·subst e';simp [World.shape?,hh,hg,hs]
  ·exact Jw (setRow_other w g k cs e')
theorem zlx(w:World)(t ty e:TypeId)(i:TypeInfo)(z:Value)(bytes:Nat)(ht:P.underlying t=some (.slice e))(hi:P.info? e=some i)(hz:i.zero=some z)(hsize:i.size=1)(hby:i.bytes=bytes)(hzs:z.cells.size=1)
  (v:Value) (n:Nat) (xs:List Value) (hown:w.ownsRow 0 e 1 v n xs) (ad:Addr) (u:Value) (hu: ∀j u',[u][j]?=some u'->w.cell? (ad.add j)=some u') (hu1:u.oneCell'=true) (h63:n+1<=maxLen) (hbytes:(n+1)*bytes<=140737488355328):
  ∃g cap w',(Builtin.append_ #[t,t] ty #[v, .slice (some ad) 1 1]).run P w= .ok (.slice (some ⟨g,0,none⟩) (n+1) cap) w'/\
   w'.ownsRow 0 e 1 (.slice (some ⟨g,0,none⟩) (n+1) cap) (n+1) (xs++[u])/\Chg (λk _=>v.ownBlock=some k) w w'/\(v.ownBlock=some g\/g=w.heap.size):=by
 have h1: ∀u'∈[u],u'.oneCell'=true:=by simpa using hu1
 obtain ⟨v',w',hr,h2,_,_⟩:=run_append_own (P:=P) w 0 t ty e i z 1 bytes ht hi hz hsize hby hzs yal v n xs hown ad 1 1 [u] yaj hu h1 h63 hbytes (Nat.zero_le _)
 subst hby
 have hlu:[u].length=1*i.size:=by simp [hsize]
 rcases hown.2 with ⟨rfl,rfl⟩|⟨g,cap,cur,rfl,hbg,hg,hnc,hcm,hcs,htake⟩
 ·have hx:=run_append_nil (P:=P) w t ty e i z ht hi hz ad 1 1 [u] hlu hu yal yal yai
  rw [hx] at hr
  injection hr with e1 e2
  subst e1;subst e2
  exact ⟨_,_,_,hx,h2,((Chg.refl _ w).drew).alloc _, .inr rfl⟩
 ·by_cases hroom:n+1<=cap
  ·have hx:=run_append_room (P:=P) w t ty e i ht hi g n cap cur hg ad 1 1 [u] hlu hu h1 hroom (by simp [hsize,hcs];omega)
   rw [hx] at hr
   injection hr with e1 e2
   subst e1;subst e2
   refine ⟨_,_,_,hx,h2,(Chg.setRow hg ?_).mono (λk i _ e=>by simp [Value.ownBlock,e]), .inl rfl⟩
   simp only [List.size_toArray,List.length_append,List.length_take,List.length_drop,Array.length_toList,hsize,List.length_cons,List.length_nil]
   omega
  ·have hlo:xs.length=n*i.size:=by rw [hown.1,hsize]
   have hx:=run_append_grow (P:=P) w t ty e i z ht hi hz ⟨g,0,none⟩ n cap xs hlo (hown.cells (g:=g) rfl) ad 1 1 [u] hlu hu yai (by unfold maxLen at h63;omega) (growslice_fits yai hbytes)
   rw [hx] at hr
   injection hr with e1 e2
   subst e1;subst e2
   exact ⟨_,_,_,hx,h2,((Chg.refl _ w).drew).alloc _, .inr rfl⟩
theorem Zk(hgd:o.guard=none)(s x:Operand)(t:TypeId)
  (ho:o.op= .call {callee:= .builtin .append,args:=#[s,x],argTypes:=#[t,t]})
  (e:TypeId) (i:TypeInfo) (z:Value) (bytes:Nat) (ht:P.underlying t=some (.slice e)) (hi:P.info? e=some i) (hz:i.zero=some z) (hsize:i.size=1) (hby:i.bytes=bytes) (hzs:z.cells.size=1)
  (v:Value) (n:Nat) (xs:List Value) (hs:a.eval s=v) (hown:w.ownsRow 0 e 1 v n xs) (ad:Addr) (u:Value) (hx:a.eval x= .slice (some ad) 1 1) (hu: ∀j u',[u][j]?=some u'->w.cell? (ad.add j)=some u') (hu1:u.oneCell'=true) (h63:n+1<=maxLen) (hbytes:(n+1)*bytes<=140737488355328)
  (h: ∀g cap w',w'.ownsRow 0 e 1 (.slice (some ⟨g,0,none⟩) (n+1) cap) (n+1) (xs++[u])->Chg (λk _=>v.ownBlock=some k) w w'->(v.ownBlock=some g\/g=w.heap.size)->wpList P ops Q rest (a.put o.dst (.slice (some ⟨g,0,none⟩) (n+1) cap)) w'):wpList P ops Q (o::rest) a w:=
 wpList_plain hgd λK hK=>by
  obtain ⟨g,cap,w',hr,h2,h3,h4⟩:=zlx (P:=P) w t o.type e i z bytes ht hi hz hsize hby hzs v n xs hown ad u hu hu1 h63 hbytes
  unfold Oper.wp execOp
  simp only [ho,resolve,invoke,builtin,Sem.run_bind,Sem.run_pure,Result.andThen_ok,List.map_toArray,List.map_cons,List.map_nil,hs,hx,hr]
  exact hK _ _ (h g cap w' h2 h3 h4)
theorem Qa(i:Nat){oi:Oper}{v:Value}{a':Act}
  (hi:ops[i]?=some oi:=by rfl) (hy:YieldsIf P ops S oi v a:=by exact .inl ⟨by rfl,by intro w hSw;(try dsimp only at hSw);go_simp;try (with_reducible rfl)⟩) (hS:S w:=by assumption)
  (ha:a.put oi.dst v=a':=by simp only [Act.put,List.setIfInBounds_toArray];rfl)
  (hs:Region.noSelect ops=true:=by kernel_rfl) (hf:Region.free md ops listed i=true:=by kernel_rfl) (hr:(Region.ready md ops listed).contains i=true:=by kernel_rfl) (hQ: ∀c a w,Q (.panic c) (a.put oi.dst v) w->Q (.panic c) a w:=by exact λ_ _ _ h=>h)
  (h:wpAnyH P md ops Q S fuel (listed.setIfInBounds i true) a' w):wpAnyH P md ops Q S (fuel+1) listed a w:=by
 subst ha
 exact wpAnyH_take hi hs hf hr hQ hy hS h
theorem z6u(rs:List Nat)(h:AllReadyH P md ops Q S fuel listed a w rs)(hr:Region.ready md ops listed=rs:=by kernel_rfl)(hne:rs≠[]:=by simp):wpAnyH P md ops Q S (fuel+1) listed a w:=wpAnyH_ready hr hne h
section
variable{p:Prop}
theorem z7i(h:p:=by (try dsimp only);(first|go_keep|(refine ⟨(Qb (.inl n1)).trans ?_,(Qb (.inl n2)).trans ?_,(Qb (.inl n3)).trans ?_⟩<;>assumption))):p:=h
theorem z7n(h:p:=by (try dsimp only);(first|go_keep|exact (Qb (.inl ncb)).trans (by assumption))):p:=h
theorem z7t(h:p:=by (try dsimp only);(first|exact ⟨f0,f5⟩|exact ⟨H2.out.keep (br,0,ptr bp) (by simp),H2.out.keep (bp,1, .int .i64 c) (by simp)⟩|go_keep)):p:=h
theorem z70(h:p:=by (try dsimp only);(first|exact d3|exact H1.out.keep (bw,1, .string x) (by simp)|go_keep)):p:=h
end
theorem zl6(w:World)(t ty e:TypeId)(i:TypeInfo)(z:Value)(sz bytes:Nat)(hpos:0<sz)(ht:P.underlying t=some (.slice e))(hi:P.info? e=some i)(hz:i.zero=some z)(hsize:i.size=sz)(hby:i.bytes=bytes)(hzs:z.cells.size=sz)
  (v:Value) (n:Nat) (xs:List Value) (hown:w.ownsRow 0 e sz v n xs) (ad:Addr) (us:List Value) (hus:us.length=sz) (hu: ∀j u',us[j]?=some u'->w.cell? (ad.add j)=some u') (h1: ∀u'∈us,u'.oneCell'=true) (h63:n+1<=maxLen) (hbytes:(n+1)*bytes<=140737488355328):
  ∃g cap w',(Builtin.append_ #[t,t] ty #[v, .slice (some ad) 1 1]).run P w= .ok (.slice (some ⟨g,0,none⟩) (n+1) cap) w'/\
   w'.ownsRow 0 e sz (.slice (some ⟨g,0,none⟩) (n+1) cap) (n+1) (xs++us)/\Chg (λk _=>v.ownBlock=some k) w w'/\(v.ownBlock=some g\/g=w.heap.size):=by
 obtain ⟨v',w',hr,h2,_,_⟩:=run_append_own (P:=P) w 0 t ty e i z sz bytes ht hi hz hsize hby hzs hpos v n xs hown ad 1 1 us yai hu h1 h63 hbytes (Nat.zero_le _)
 subst hby
 subst hsize
 have hlu:us.length=1*i.size:=yai
 rcases hown.2 with ⟨rfl,rfl⟩|⟨g,cap,cur,rfl,hbg,hg,hnc,hcm,hcs,htake⟩
 ·have hx:=run_append_nil (P:=P) w t ty e i z ht hi hz ad 1 1 us hlu hu yal yal yai
  rw [hx] at hr
  injection hr with e1 e2
  subst e1;subst e2
  exact ⟨_,_,_,hx,h2,((Chg.refl _ w).drew).alloc _, .inr rfl⟩
 ·by_cases hroom:n+1<=cap
  ·have hsq:(n+1)*i.size<=cap*i.size:=Nat.mul_le_mul_right _ hroom
   rw [Nat.add_mul] at hsq
   have hx:=run_append_room (P:=P) w t ty e i ht hi g n cap cur hg ad 1 1 us hlu hu h1 hroom (by rw [hcs];omega)
   rw [hx] at hr
   injection hr with e1 e2
   subst e1;subst e2
   refine ⟨_,_,_,hx,h2,(Chg.setRow hg ?_).mono (λk i _ e=>by simp [Value.ownBlock,e]), .inl rfl⟩
   simp only [List.size_toArray,List.length_append,List.length_take,List.length_drop,Array.length_toList]
   omega
  ·have hx:=run_append_grow (P:=P) w t ty e i z ht hi hz ⟨g,0,none⟩ n cap xs hown.1 (hown.cells (g:=g) rfl) ad 1 1 us hlu hu yai (by unfold maxLen at h63;omega) (growslice_fits yai hbytes)
   rw [hx] at hr
   injection hr with e1 e2
   subst e1;subst e2
   exact ⟨_,_,_,hx,h2,((Chg.refl _ w).drew).alloc _, .inr rfl⟩
theorem zds(hgd:o.guard=none)(s x:Operand)(t:TypeId)
  (ho:o.op= .call {callee:= .builtin .append,args:=#[s,x],argTypes:=#[t,t]})
  (e:TypeId) (i:TypeInfo) (z:Value) (sz bytes:Nat) (hpos:0<sz) (ht:P.underlying t=some (.slice e)) (hi:P.info? e=some i) (hz:i.zero=some z) (hsize:i.size=sz) (hby:i.bytes=bytes) (hzs:z.cells.size=sz)
  (v:Value) (n:Nat) (xs:List Value) (hs:a.eval s=v) (hown:w.ownsRow 0 e sz v n xs) (ad:Addr) (us:List Value) (hus:us.length=sz) (hx:a.eval x= .slice (some ad) 1 1) (hu: ∀j u',us[j]?=some u'->w.cell? (ad.add j)=some u') (hu1: ∀u'∈us,u'.oneCell'=true) (h63:n+1<=maxLen) (hbytes:(n+1)*bytes<=140737488355328)
  (h: ∀g cap w',w'.ownsRow 0 e sz (.slice (some ⟨g,0,none⟩) (n+1) cap) (n+1) (xs++us)->Chg (λk _=>v.ownBlock=some k) w w'->(v.ownBlock=some g\/g=w.heap.size)->wpList P ops Q rest (a.put o.dst (.slice (some ⟨g,0,none⟩) (n+1) cap)) w'):wpList P ops Q (o::rest) a w:=
 wpList_plain hgd λK hK=>by
  obtain ⟨g,cap,w',hr,h2,h3,h4⟩:=zl6 (P:=P) w t o.type e i z sz bytes hpos ht hi hz hsize hby hzs v n xs hown ad us hus hu hu1 h63 hbytes
  unfold Oper.wp execOp
  simp only [ho,resolve,invoke,builtin,Sem.run_bind,Sem.run_pure,Result.andThen_ok,List.map_toArray,List.map_cons,List.map_nil,hs,hx,hr]
  exact hK _ _ (h g cap w' h2 h3 h4)
theorem Je{K:Act->World->Prop}{E:Prop}(hgd:o.guard=none)(s x:Operand)(t:TypeId)
  (ho:o.op= .call {callee:= .builtin .append,args:=#[s,x],argTypes:=#[t,t]})
  (e:TypeId) (i:TypeInfo) (z:Value) (sz bytes:Nat) (hpos:0<sz) (ht:P.underlying t=some (.slice e)) (hi:P.info? e=some i) (hz:i.zero=some z) (hsize:i.size=sz) (hby:i.bytes=bytes) (hzs:z.cells.size=sz)
  (v:Value) (n:Nat) (xs:List Value) (hs:a.eval s=v) (hown:w.ownsRow 0 e sz v n xs) (ad:Addr) (us:List Value) (hus:us.length=sz) (hx:a.eval x= .slice (some ad) 1 1) (hu: ∀j u',us[j]?=some u'->w.cell? (ad.add j)=some u') (hu1: ∀u'∈us,u'.oneCell'=true) (h63:n+1<=maxLen) (hbytes:(n+1)*bytes<=140737488355328)
  (h: ∀g cap w',w'.ownsRow 0 e sz (.slice (some ⟨g,0,none⟩) (n+1) cap) (n+1) (xs++us)->Chg (λk _=>v.ownBlock=some k) w w'->(v.ownBlock=some g\/g=w.heap.size)->K (a.put o.dst (.slice (some ⟨g,0,none⟩) (n+1) cap)) w'):
  if Region.wanted o (yielded ops a.tmps)=true then Oper.wp P o a w K Q else E:=by
 have hw:Region.wanted o (yielded ops a.tmps)=true:=by simp [Region.wanted,hgd]
 rw [if_pos hw]
 obtain ⟨g,cap,w',hr,h2,h3,h4⟩:=zl6 (P:=P) w t o.type e i z sz bytes hpos ht hi hz hsize hby hzs v n xs hown ad us hus hu hu1 h63 hbytes
 unfold Oper.wp execOp
 simp only [ho,resolve,invoke,builtin,Sem.run_bind,Sem.run_pure,Result.andThen_ok,List.map_toArray,List.map_cons,List.map_nil,hs,hx,hr]
 exact h g cap w' h2 h3 h4
end Go.Proofs.YtphcopbffecceaaGreatDoor
