import Derived.Test.YtphcopbffecceaaGreatDoorP01
import Derived.Deep.RegionWith
import Derived.Test.YtphcopbffecceaaGreatDoorShelf
import Derived.Test.YtphcopbffecceaaGreatDoorRows
import Derived.ProofKit
import Derived.LaidMore
import Derived.LaidSub
import Derived.OpenShut
import Derived.Lay
import Derived.Handed
import Derived.Stop.Joined
import Derived.Shelf.Vars
import Derived.RangeFuncNested
import Derived.RangeFuncBound
import Derived.RangeFuncCalls
import Derived.RangeFuncLeaves
import Derived.RangeFuncFrom
import Derived.Shelf.Abstract
import Derived.Shelf.RegionOpen
import Derived.OwnWalkIn
import Derived.TacticsInMore
import Derived.LoopNIn
import Derived.LoopIn
import Derived.RegionIn
import Derived.Stop.RegionWithIn
import Derived.Deep.AppendLies
import Derived.Laws.AppendOwn
import Derived.Maps.AppendAt
import Derived.BigQuiet
import Derived.Deep.QuietTactic
import Derived.Laws.Bits64b
import Derived.Laws.Shifts
import Derived.WalkLawsBesides
set_option maxRecDepth 100000
set_option maxHeartbeats 1000000
namespace Go.Proofs.YtphcopbffecceaaGreatDoor
open Go.RowKit
variable{W w w':World}{bl bw cap g:Nat}{hi lo n:Int}{ws:List ByteArray}{u:ByteArray}{e:TypeId}{M:Nat->Nat->Prop}{xs:List Value}{P:Program}
abbrev ptr(b:Nat):Value:= .pointer (some ⟨b,0,none⟩)
theorem Oz{s:ByteArray}(h:u≠s):(u.toList==s.toList)=false:=by
 rw [ByteArray.toList_eq,ByteArray.toList_eq]
 cases hb:(u.data.toList==s.data.toList) with
 |false=>rfl
 |true=>exact absurd (Go.WideShapes.bytes_inj ybu) h
def zjj(w:World)(wd:Nat->ByteArray):Prop:=∀j,j<12->w.cell? ⟨2,j,none⟩=some (.string (wd j))
theorem Ey{t:ByteArray}(h0:0<t.size):t.toList.isEmpty=false:=by
 rw [ByteArray.toList_eq]
 cases h:t.data.toList with
 |nil=>
   have e:t.data.size=0:=by rw [<-Array.length_toList,h];rfl
   exact absurd (show t.data.size=t.size from rfl) yai
 |cons a l=>rfl
def zab(s t:ByteArray):Prop:=t=⟨(Lib.trimPrefix s.data.toList [45]).toArray⟩
theorem znv(w:World)(s t:ByteArray)(ht:Hid (zab s t))(hm:t.size<4294967281)(h0:0<t.size)(hz:t[0].toNat≠48\/s=⟨#[48]⟩)(hd:Hid (∀j (h:j<t.size),48<=t[j].toNat/\t[j].toNat<=57)):
  Cl 134 #[.string s] w λe w'=>e= .returned (.bool true)/\w'=w:=by
 have hne:=Ey h0
 have hne': ¬t.toList=[]:=λh=>by simp [h] at hne
 have h0':(0:Int)<(t.size:Int):=yai
 have HT:=ht.out
 unfold zab at HT
 go_enter Tryz.func134,Tryz.ntmps134
 go_wp2_with fail
 refine (Tryz.strings_TrimPrefix s ⟨#[45]⟩ w).mono ?_
 rintro e w' ⟨rfl,rfl⟩
 change Hid _ at ht
 rw [show (⟨(Lib.trimPrefix s.data.toList (ByteArray.mk #[45]).data.toList).toArray⟩:ByteArray)=t from HT.symm]
 clear HT ht
 rcases hz with hz|rfl
 all_goals go_wp2
 all_goals
  go_loopw [20] (λv wr=>∃k:Nat,k<=t.size/\v= .int .i64 k/\wr=w') (λv _=>t.size- (intOf v).toNat)
  case atStart=>exact ⟨0,by omega,rfl,rfl⟩
  case round=>
   obtain ⟨k,hk,rfl,rfl⟩:=hrel
   by_cases hlt:k<t.size
   ·have hlt':(k:Int)<(t.size:Int):=by omega
    have hq:=hd.out k hlt
    have q1: ¬(t[k].toNat:Int)<48:=yai
    have q2: ¬(57:Int)<(t[k].toNat:Int):=yai
    go_wp2
    go_roundw
    case rel=>exact ⟨k+1,by omega,by go_num,trivial⟩
    case measure=>simp [intOf];omega
   ·have hlt': ¬(k:Int)<(t.size:Int):=by omega
    go_wp2
    go_ret
    exact ⟨rfl,rfl⟩
theorem zf8(w:World)(s t:ByteArray)(ht:zab s t)(h0:t.toList.isEmpty=true):
  Cl 134 #[.string s] w λe w'=>e= .returned (.bool false)/\w'=w:=by
 have h0':t.toList=[]:=by simpa using h0
 unfold zab at ht
 go_enter Tryz.func134,Tryz.ntmps134
 go_wp2_with fail
 refine (Tryz.strings_TrimPrefix s ⟨#[45]⟩ w).mono ?_
 rintro e w' ⟨rfl,rfl⟩
 rw [show (⟨(Lib.trimPrefix s.data.toList (ByteArray.mk #[45]).data.toList).toArray⟩:ByteArray)=t from ht.symm]
 clear ht
 go_wp2
 go_ret
 exact ⟨rfl,rfl⟩
theorem ze6(w:World)(s t:ByteArray)(ht:zab s t)(h0:0<t.size)(hz:t[0].toNat=48)(hs:s≠⟨#[48]⟩):
  Cl 134 #[.string s] w λe w'=>e= .returned (.bool false)/\w'=w:=by
 have hne:=Ey h0
 have hne': ¬t.toList=[]:=λh=>by simp [h] at hne
 have h0':(0:Int)<(t.size:Int):=yai
 have hz':(t[0].toNat:Int)=48:=yai
 have hs':(s.toList==[48])=false:=by
  have e:=Oz hs
  rwa [show (ByteArray.mk #[48]).toList=[48] from by rw [ByteArray.toList_eq]] at e
 unfold zab at ht
 go_enter Tryz.func134,Tryz.ntmps134
 go_wp2_with fail
 refine (Tryz.strings_TrimPrefix s ⟨#[45]⟩ w).mono ?_
 rintro e w' ⟨rfl,rfl⟩
 rw [show (⟨(Lib.trimPrefix s.data.toList (ByteArray.mk #[45]).data.toList).toArray⟩:ByteArray)=t from ht.symm]
 clear ht
 go_wp2
 go_ret
 exact ⟨rfl,rfl⟩
def Jc(j:Nat):ByteArray:=[⟨#[97,100,100]⟩,⟨#[115,117,98]⟩,⟨#[109,117,108]⟩,⟨#[100,105,118]⟩,⟨#[109,111,100]⟩,⟨#[97,110,100]⟩,⟨#[111,114]⟩,⟨#[120,111,114]⟩,⟨#[115,104,108]⟩,⟨#[115,104,114]⟩,⟨#[108,116]⟩,⟨#[101,113]⟩].getD j ⟨#[]⟩
open Go.ChangeShapes Go.WideShapes Go.ChangeAt Go.WideMaps Go.WideElems Go.RowKit
theorem own:ownKnob Tryz.prog.godebug=none:=yak
theorem z11:Tryz.prog.globalNamed "commits/ops.words" =some 2:=yak
theorem z12:(Tryz.prog.globals[2]?).map (·.type)=some 251:=yak
theorem zqa(h:W.ShapedOpen Tryz.prog): ∃m,W.cell? ⟨1,0,none⟩=some (.int .i64 m):=
 cell_of_shapedOpen_int (zero:=#[.int .i64 0]) (t:=3) h (of_decide_eq_true yak) yak rfl yak yak Tryz.underlying3
theorem zu6(h:laidMet Tryz.prog [("commits/ops.words",Rows.laid_commits_ops_words)] W):zjj W Jc:=by
 obtain ⟨ps,⟨g0,t0,cs0,f0,p0,q0,hg0,ht0,hv0,hd0,_,_⟩,_,_⟩:=h
 obtain rfl:=Option.some.inj (z11.symm.trans hg0)
 obtain rfl:=Option.some.inj (z12.symm.trans ht0)
 obtain ⟨xs,m1,rfl,hx1,hlen,hn3,hel⟩:=DataW.trod_array Tryz.underlying251 hd0
 simp only [Prod.mk.injEq] at hx1
 have hD:(DataW.agg (xs.map (·.1)):DataW Unit)=DataW.agg ((List.range 12).map λj=> .lit (.string (Jc j).data.toList)):=hx1.1.symm.trans yak
 have hD':xs.map (·.1)=(List.range 12).map λj=>DataW.lit (.string (Jc j).data.toList):=by injection hD
 have c9:Tryz.prog.cellsOf 9=1:=yak
 intro j hj
 have h0:=hel j hj
 rw [c9] at h0
 obtain ⟨x,hx⟩: ∃x,xs[j]?=some x:=⟨_,List.getElem?_eq_getElem yai⟩
 rw [hx] at h0
 obtain ⟨s,e1,e2,_⟩:=DataW.trod_string Tryz.underlying9 h0
 have e3:(xs.map (·.1))[j]?=some x.1:=by simp [hx]
 rw [hD',e2] at e3
 simp [hj] at e3
 have e4:Jc j=s:=Go.WideShapes.bytes_inj (by simpa using e3)
 have e5:(List.take 1 (List.drop (j*1) cs0.toList))[0]?=some (.string s):=by rw [e1];rfl
 simp at e5
 rw [e4]
 exact (World.var?_cell hg0 hv0 j).trans e5
theorem znw{l:List (String×DataW Unit)}(hf:l.filter (λx=>x.1== "commits/ops.words")=[("commits/ops.words",Rows.laid_commits_ops_words)])(h:laidMetH Tryz.prog l W):zjj W Jc:=by
 have h1:=h.filter (λx=>x.1== "commits/ops.words")
 rw [hf,MakeChecks.laidMetH_plain _ _ _ yak] at h1
 exact zu6 h1
theorem ze7{H:Type}{enc:TypeId×Value->H}{a:Assume}{C:Checked}{os:Os}{f:FuncId}{fn:Func}{s:ChangeSpec}{conds:List PathCond}{apart fresh handsOn again:Bool}{X:World->Array Value->Prop}
  (hX: ∀(w w':World) (args:Array Value),w.heap=w'.heap->X w args->X w' args)
  (own:ownKnob C.prog.godebug=none) (started:os.Started) (noInit:C.prog.inits.idxOf? f=none) (hfn:C.prog.funcs[f]?=some fn)
  (witness: ∃(w:World) (tape:Tape) (i:Input),w.os=os/\(w.forCall tape i).Shaped C.prog/\i.vars=[]/\Input.okWide C.prog (w.forCall tape i) .any w.heap.size f i/\
   ((s.pre enc C.prog fn conds apart (w.forCall tape i).memory i.args/\X (w.forCall tape i).memory i.args)/\sizedMet enc C.prog fn (OpenSpec.ofChange s) apart (w.forCall tape i).memory i.args)/\a.holds C.prog (lone (Frame.enter C.prog f i.args .normal) [] (w.forCall tape i)))
  (contract: ∀(W:World) (base:Nat) (args:Array Value) (ds gs:List (DataW H)) (before:List MemPlace),
   (∀(j:Nat) t v,fn.params[j]?=some t->args[j]?=some v->Value.okWide C.prog W .any base t v) ->
   DataW.Whole enc C.prog fn.params.toList s.vars apart W args.toList ds gs before ->
   (DataW.weightsEach C.prog (fn.params.toList++s.plain.varTypes C.prog) (ds++gs)).all (·<=reachBytes)=true->X W args->W.ShapedOpen C.prog ->
   Calls C.prog f args W λe W'=>∃v,e= .returned v/\s.post enc C.prog fn apart fresh handsOn again W args v W'):
  ReturnsInHanded a C os f .any (λw args=>(s.pre enc C.prog fn conds apart w args/\X w args)/\sizedMet enc C.prog fn (OpenSpec.ofChange s) apart w args) (s.post enc C.prog fn apart fresh handsOn again):=by
 refine returnsInHanded_of_calls own started noInit witness ?_
 intro w tape i _ hsh _ hok hpre hholds
 obtain ⟨_,_,_,fn',hfn',_,_,_,_,hval⟩:=hok
 have e:fn'=fn:=Option.some.inj (hfn'.symm.trans hfn)
 subst e
 obtain ⟨⟨⟨ds,gs,before,hw,hc⟩,hx⟩,hz⟩:=hpre
 have hw':=DataW.Whole.of_heap (w':=w.forCall tape i) (by rfl) hw
 refine (contract (w.forCall tape i) w.heap.size i.args ds gs before hval hw' (hz.weights hw) (hX _ _ _ (by rfl) hx) hsh).mono λe W' ⟨v,he,hp⟩=>?_
 subst he
 exact ChangeSpec.post_blind hp
structure Vl where
 reg:Bool
 v:Int
structure Ic where
 k:Nat
 op:Nat
 d:Nat
 a:Vl
 b:Vl
 c:Vl
 n:Int
structure Th where
 r:Nat->Int
 pl:Int
 q:List (Int×Int)
 out:List Int
 st:Int
def Vl.ok(x:Vl):Prop:=x.reg=true->0<=x.v/\x.v<8
theorem Qd{k:Nat}{s:TypeId×Nat}(h:w.shape? k=some s):k<w.heap.size:=by
 unfold World.shape? at h
 split at h
 ·rename_i c e f hb;exact (Array.getElem?_eq_some_iff.1 hb).1
 ·cases h
theorem Qc{base:Nat}{size:Nat}{v:Value}{n:Nat}(h:w.ownsRow base e size v n xs)(hc:Chg M w w')(hM: ∀g,v.ownBlock=some g->∀i,¬M g i):w'.ownsRow base e size v n xs:=by
 refine ⟨h.1,?_⟩
 rcases h.2 with h2|⟨g,cap,cur,rfl,hb,hg,h3⟩
 ·exact .inl h2
 ·exact .inr ⟨g,cap,cur,rfl,hb,(hc.block g (Array.getElem?_eq_some_iff.1 hg).1 (hM g rfl)).trans hg,h3⟩
section
variable{w w':World}{b bm:Nat}{iv ov:Value}{T:Th}{m:Nat->Int}{M:Nat->Nat->Prop}
end
structure LineAt(w:World)(bl:Nat)(n:Int)(bw:Nat)(ws:List ByteArray):Prop where
 sh:w.shape? bl=some (159,2)
 num:w.cell? ⟨bl,0,none⟩=some (.int .i64 n)
 wds: ∃o cap,ws.length<=cap/\w.cell? ⟨bl,1,none⟩=some (.slice (some ⟨bw,o,none⟩) ws.length cap)/\ ∀j (h:j<ws.length),w.cell? ⟨bw,o+j,none⟩=some (.string ws[j])
 free:w.frozen? ⟨bl,1,none⟩=false
 ne:bw≠bl
 ltw:bw<w.heap.size
theorem LineAt.lt(h:LineAt w bl n bw ws):bl<w.heap.size:=Qd h.sh
theorem LineAt.keep(h:LineAt w bl n bw ws)(hc:Chg M w w')(h1: ∀i,¬M bl i)(h2: ∀i,¬M bw i):LineAt w' bl n bw ws:={
 sh:=(hc.shape bl h.lt).trans h.sh
 num:=(hc.cell bl _ h.lt (h1 _)).trans h.num
 wds:=by
  obtain ⟨o,cap,hl,hs,hcs⟩:=h.wds
  exact ⟨o,cap,hl,(hc.cell bl _ h.lt (h1 _)).trans hs,λj hj=>(hc.cell bw _ h.ltw (h2 _)).trans (hcs j hj)⟩
 free:=(hc.frozen bl _ h.lt).trans h.free
 ne:=h.ne
 ltw:=Nat.lt_of_lt_of_le h.ltw hc.size}
abbrev Jo(bl:Nat):Nat->Nat->Prop:=λk i=>k=bl/\i=1
theorem LineAt.next(h:LineAt w bl n bw (u::ws))(o cap:Nat)(hl:ws.length<=cap)(hcs: ∀j (h:j<ws.length),w.cell? ⟨bw,o+j,none⟩=some (.string ws[j])):
  LineAt (w.setCell ⟨bl,1,none⟩ (.slice (some ⟨bw,o,none⟩) ws.length cap)) bl n bw ws/\Chg (Jo bl) w (w.setCell ⟨bl,1,none⟩ (.slice (some ⟨bw,o,none⟩) ws.length cap)):=by
 obtain ⟨o',cap',_,hs,_⟩:=h.wds
 have hc:Chg (Jo bl) w (w.setCell ⟨bl,1,none⟩ (.slice (some ⟨bw,o,none⟩) ws.length cap)):=(Chg.refl _ w).setCell (λ_=>⟨rfl,rfl⟩) _
 refine ⟨⟨(hc.shape bl h.lt).trans h.sh,(hc.cell bl 0 h.lt (λe=>by cases e.2)).trans h.num,⟨o,cap,hl,Qg hs rfl,λj hj=>(hc.cell bw _ h.ltw (λe=>h.ne e.1)).trans (hcs j hj)⟩,(hc.frozen bl _ h.lt).trans h.free,h.ne,Nat.lt_of_lt_of_le h.ltw hc.size⟩,hc⟩
theorem Ve(h:LineAt w bl n bw (u::ws))(hlen:ws.length<1000000):
  Cl 53 #[ptr bl] w λe w'=>e= .returned (.string u)/\LineAt w' bl n bw ws/\Chg (Jo bl) w w':=by
 obtain ⟨o,cap,hl,hs,hcs⟩:=h.wds
 have H:=hid h
 have hf:=h.free
 have h0:=hcs 0 yaj
 simp only [List.getElem_cons_zero,Nat.add_zero] at h0
 have HC:=hid hcs
 clear hcs
 simp only [List.length_cons] at hs hl
 have hlt:=h.lt
 clear h
 go_enter Tryz.func53,Tryz.ntmps53
 go_wp2
 all_goals go_ret
 ·refine ⟨rfl,H.out.next o 0 yai (λj hj=>by omega)⟩
 ·refine ⟨rfl,H.out.next (o+1) (cap- 1) yai (λj hj=>?_)⟩
  have:=HC.out (j+1) yan
  rw [show o+1+j=o+(j+1) by omega,this];rfl
theorem Eo(h:LineAt w bl n bw []):
  Cl 58 #[ptr bl] w λe w'=>e= .returned (.tuple #[])/\w'=w:=by
 obtain ⟨o,cap,hl,hs,hcs⟩:=h.wds
 clear hcs h
 simp only [List.length_nil] at hs hl
 go_enter Tryz.func58,Tryz.ntmps58
 go_wp2
 go_end0
 exact ⟨rfl,rfl⟩
theorem LineAt.below(h:LineAt w bl n bw ws)(hb:Below w.heap.size w w'):LineAt w' bl n bw ws:=
 h.keep (M:=λ_ _=>False) (Chg.of_below hb) (λ_ h=>h) (λ_ h=>h)
section
variable{w:World}{b bm:Nat}{iv ov:Value}{T:Th}{m:Nat->Int}
def waits(b:Nat)(w:World):Nat:=(intOf ((w.cell? ⟨b,20,none⟩).getD (.int .i64 0))).toNat
end
theorem Chg.setRow{old cs:Array Value}{fr:Nat×Nat}(hg:w.heap[g]?=some (.cells old e fr))(hs:cs.size=old.size):Chg (λk _=>k=g) w (w.setRow g cs):=by
 have hh:=setRow_heap w g old cs e fr hg
 refine ⟨rfl,rfl,rfl,by simp [World.setRow],?_,?_,?_,?_⟩
 ·intro k hk hn;exact setRow_other w g k cs (hn 0)
 ·intro k i hk hn;exact World.cell?_of_block (w:=w) (setRow_other w g k cs hn)
 ·intro k i hk
  by_cases e':k=g
  ·subst e';simp [World.frozen?,hh,hg]
  ·exact World.frozen?_of_block (w:=w) (setRow_other w g k cs e')
 ·intro k hk
  by_cases e':k=g
  ·subst e';simp [World.shape?,hh,hg,hs]
  ·exact Jw (setRow_other w g k cs e')
theorem zlx(w:World)(t ty e:TypeId)(i:TypeInfo)(z:Value)(bytes:Nat)(ht:P.underlying t=some (.slice e))(hi:P.info? e=some i)(hz:i.zero=some z)(hsize:i.size=1)(hby:i.bytes=bytes)(hzs:z.cells.size=1)
  (v:Value) (n:Nat) (xs:List Value) (hown:w.ownsRow 0 e 1 v n xs) (ad:Addr) (u:Value) (hu: ∀j u',[u][j]?=some u'->w.cell? (ad.add j)=some u') (hu1:u.oneCell'=true) (h63:n+1<=maxLen) (hbytes:(n+1)*bytes<=140737488355328):
  ∃g cap w',(Builtin.append_ #[t,t] ty #[v, .slice (some ad) 1 1]).run P w= .ok (.slice (some ⟨g,0,none⟩) (n+1) cap) w'/\
   w'.ownsRow 0 e 1 (.slice (some ⟨g,0,none⟩) (n+1) cap) (n+1) (xs++[u])/\Chg (λk _=>v.ownBlock=some k) w w'/\(v.ownBlock=some g\/g=w.heap.size):=by
 have h1: ∀u'∈[u],u'.oneCell'=true:=by simpa using hu1
 obtain ⟨v',w',hr,h2,_,_⟩:=run_append_own (P:=P) w 0 t ty e i z 1 bytes ht hi hz hsize hby hzs yal v n xs hown ad 1 1 [u] yaj hu h1 h63 hbytes (Nat.zero_le _)
 subst hby
 have hlu:[u].length=1*i.size:=by simp [hsize]
 rcases hown.2 with ⟨rfl,rfl⟩|⟨g,cap,cur,rfl,hbg,hg,hnc,hcm,hcs,htake⟩
 ·have hx:=run_append_nil (P:=P) w t ty e i z ht hi hz ad 1 1 [u] hlu hu yal yal yai
  rw [hx] at hr
  injection hr with e1 e2
  subst e1;subst e2
  exact ⟨_,_,_,hx,h2,((Chg.refl _ w).drew).alloc _, .inr rfl⟩
 ·by_cases hroom:n+1<=cap
  ·have hx:=run_append_room (P:=P) w t ty e i ht hi g n cap cur hg ad 1 1 [u] hlu hu h1 hroom (by simp [hsize,hcs];omega)
   rw [hx] at hr
   injection hr with e1 e2
   subst e1;subst e2
   refine ⟨_,_,_,hx,h2,(Chg.setRow hg ?_).mono (λk i _ e=>by simp [Value.ownBlock,e]), .inl rfl⟩
   simp only [List.size_toArray,List.length_append,List.length_take,List.length_drop,Array.length_toList,hsize,List.length_cons,List.length_nil]
   omega
  ·have hlo:xs.length=n*i.size:=by rw [hown.1,hsize]
   have hx:=run_append_grow (P:=P) w t ty e i z ht hi hz ⟨g,0,none⟩ n cap xs hlo (hown.cells (g:=g) rfl) ad 1 1 [u] hlu hu yai (by unfold maxLen at h63;omega) (growslice_fits yai hbytes)
   rw [hx] at hr
   injection hr with e1 e2
   subst e1;subst e2
   exact ⟨_,_,_,hx,h2,((Chg.refl _ w).drew).alloc _, .inr rfl⟩
theorem Zk{ops:Array Oper}{rest:List Oper}{o:Oper}{a:Act}{Q:Exit->Act->World->Prop}(hgd:o.guard=none)(s x:Operand)(t:TypeId)
  (ho:o.op= .call {callee:= .builtin .append,args:=#[s,x],argTypes:=#[t,t]})
  (e:TypeId) (i:TypeInfo) (z:Value) (bytes:Nat) (ht:P.underlying t=some (.slice e)) (hi:P.info? e=some i) (hz:i.zero=some z) (hsize:i.size=1) (hby:i.bytes=bytes) (hzs:z.cells.size=1)
  (v:Value) (n:Nat) (xs:List Value) (hs:a.eval s=v) (hown:w.ownsRow 0 e 1 v n xs) (ad:Addr) (u:Value) (hx:a.eval x= .slice (some ad) 1 1) (hu: ∀j u',[u][j]?=some u'->w.cell? (ad.add j)=some u') (hu1:u.oneCell'=true) (h63:n+1<=maxLen) (hbytes:(n+1)*bytes<=140737488355328)
  (h: ∀g cap w',w'.ownsRow 0 e 1 (.slice (some ⟨g,0,none⟩) (n+1) cap) (n+1) (xs++[u])->Chg (λk _=>v.ownBlock=some k) w w'->(v.ownBlock=some g\/g=w.heap.size)->wpList P ops Q rest (a.put o.dst (.slice (some ⟨g,0,none⟩) (n+1) cap)) w'):wpList P ops Q (o::rest) a w:=
 wpList_plain hgd λK hK=>by
  obtain ⟨g,cap,w',hr,h2,h3,h4⟩:=zlx (P:=P) w t o.type e i z bytes ht hi hz hsize hby hzs v n xs hown ad u hu hu1 h63 hbytes
  unfold Oper.wp execOp
  simp only [ho,resolve,invoke,builtin,Sem.run_bind,Sem.run_pure,Result.andThen_ok,List.map_toArray,List.map_cons,List.map_nil,hs,hx,hr]
  exact hK _ _ (h g cap w' h2 h3 h4)
section
variable{w:World}{b bm:Nat}{iv ov:Value}{T:Th}{m:Nat->Int}
theorem zqb:(Tryz.prog.info? 2).map (λi=>(i.zero,i.size,i.bytes))=some (some (.int .i64 0),1,8):=yak
theorem hid{p:Prop}(h:p):Hid p:=h
end
section
variable{w:World}{bl bw:Nat}{n:Int}{ws:List ByteArray}{wd:Nat->ByteArray}
def zff:ByteArray:=⟨#[102,101,110,99,101]⟩
def znx:ByteArray:=⟨#[104,97,108,116]⟩
def zae:ByteArray:=⟨#[115,116,111,114,101]⟩
def zf9:ByteArray:=⟨#[108,111,97,100]⟩
def ze9:ByteArray:=⟨#[120,97,100,100]⟩
def zqd:ByteArray:=⟨#[99,97,115]⟩
def zzh:ByteArray:=⟨#[111,117,116]⟩
def zyl:ByteArray:=⟨#[109,111,118]⟩
def zzi:ByteArray:=⟨#[106,109,112]⟩
def wJz:ByteArray:=⟨#[106,122]⟩
end
section
variable{w:World}{bl bw:Nat}{n:Int}{ws:List ByteArray}{wd:Nat->ByteArray}
def Vj:ByteArray:=⟨#[116,104,114,101,97,100]⟩
end
theorem Qm{n:Nat}(h:w.ownsRow 0 e 1 (.slice (some ⟨g,0,none⟩) n cap) n xs)(j:Nat)(hj:j<n):
  w.cell? ⟨g,j,none⟩=xs[j]?/\w.frozen? ⟨g,j,none⟩=false/\g<w.heap.size:=by
 rcases h.2 with ⟨h2,_⟩|⟨g',cap',cur,hv,_,hg,hn,hm,hs,ht⟩
 ·cases h2
 ·cases hv
  refine ⟨?_,?_,(Array.getElem?_eq_some_iff.1 hg).1⟩
  ·rw [<-ht]
   simp [World.cell?,hg,hj]
  ·simp [World.frozen?,hg]
theorem Ut{n:Nat}(h:w.ownsRow 0 e 1 (.slice (some ⟨g,0,none⟩) n cap) n xs)(j:Nat)(u:Value):
  (w.setCell ⟨g,j,none⟩ u).ownsRow 0 e 1 (.slice (some ⟨g,0,none⟩) n cap) n (xs.set j u):=by
 refine ⟨by simpa using h.1,?_⟩
 rcases h.2 with ⟨h2,_⟩|⟨g',cap',cur,hv,hb,hg,hn,hm,hs,ht⟩
 ·cases h2
 ·exact z8e
section
variable{w:World}{bl bw:Nat}{n:Int}{ws:List ByteArray}{wd:Nat->ByteArray}
end
abbrev zga(bf:Nat):List PanicEntry:=[{v:= .iface 153 (.agg #[ptr bf]),recovered:=false}]
def Fails(er n:Int)(bl:Nat)(w:World)(e:Ending)(w':World):Prop:=
 ∃bf,e= .panicked (zga bf)/\w.heap.size<=bf/\w'.cell? ⟨bf,0,none⟩=some (.int .i64 er)/\w'.cell? ⟨bf,1,none⟩=some (.int .i64 n)/\Chg (Jo bl) w w'
theorem Jv(h:LineAt w bl n bw ws)(er:Int):
  Cl 52 #[ptr bl, .int .i64 er] w λe w'=>Fails er n bl w e w':=by
 have hn:=h.num
 have hlt:=h.lt
 have H:=hid h
 clear h
 go_enter Tryz.func52,Tryz.ntmps52
 go_wp2
 refine ⟨rfl,w.heap.size,rfl,Nat.le_refl _,World.cell?_alloc_new _ _ _ 0,World.cell?_alloc_new _ _ _ 1,(Chg.refl _ w).alloc _⟩
theorem Fg(h:LineAt w bl n bw []):
  Cl 53 #[ptr bl] w λe w'=>Fails 2 n bl w e w':=by
 obtain ⟨o,cap,hl,hs,_⟩:=h.wds
 simp only [List.length_nil] at hs
 have H:=hid h
 clear h
 go_enter Tryz.func53,Tryz.ntmps53
 go_wp2_with (go_at_call 76;go_in)
 refine (Jv H.out 2).mono ?_
 rintro e w1 ⟨bf,rfl,h1⟩
 exact ⟨rfl,bf,rfl,h1⟩
theorem Fails.after{w1:World}{er:Int}{e:Ending}(h:Fails er n bl w1 e w')(c:Chg (Jo bl) w w1):Fails er n bl w e w':=by
 obtain ⟨bf,h1,h2,h3,h4,h5⟩:=h
 exact ⟨bf,h1,Nat.le_trans c.size h2,h3,h4,c.trans h5⟩
theorem zc0(h:LineAt w bl n bw (u::ws)):
  Cl 58 #[ptr bl] w λe w'=>Fails 2 n bl w e w':=by
 obtain ⟨o,cap,hl,hs,_⟩:=h.wds
 simp only [List.length_cons] at hs
 have H:=hid h
 clear h
 go_enter Tryz.func58,Tryz.ntmps58
 go_wp2_with (go_at_call 76;go_in)
 refine (Jv H.out 2).mono ?_
 rintro e w1 ⟨bf,rfl,h1⟩
 exact ⟨rfl,bf,rfl,h1⟩
def Rds(bl:Nat)(n:Int)(bw:Nat)(w:World)(r:Option (Value×List ByteArray))(e:Ending)(w':World):Prop:=
 match r with
 |some (v,ws)=>e= .returned v/\LineAt w' bl n bw ws/\Chg (Jo bl) w w'
 |none=>Fails 2 n bl w e w'
structure Env(w:World):Prop where
 lo:10<=w.heap.size
 max: ∃m,w.cell? ⟨1,0,none⟩=some (.int .i64 m)
 words:zjj w Jc
 es: ∃ev,w.cell? ⟨6,0,none⟩=some ev/\(ev= .nilIface\/ ∃te pe,ev= .iface te pe)
 er: ∃ev,w.cell? ⟨7,0,none⟩=some ev/\(ev= .nilIface\/ ∃te pe,ev= .iface te pe)
 et:w.cell? ⟨0,0,none⟩=some (.iface 182 (.agg #[.pointer (some ⟨10,44,none⟩)]))
theorem Env.keep(h:Env w)(hc:Chg M w w')(hM: ∀k i,k<10->¬M k i):Env w':=by
 have hl:=h.lo
 have hk: ∀g i v,g<10->w.cell? ⟨g,i,none⟩=some v->w'.cell? ⟨g,i,none⟩=some v:=λg i v hg hv=>(hc.cell g i yai (hM g i hg)).trans hv
 obtain ⟨m,h1⟩:=h.max
 obtain ⟨ev,h2,h3⟩:=h.es
 obtain ⟨ev',h4,h5⟩:=h.er
 exact ⟨Nat.le_trans h.lo hc.size,⟨m,hk _ _ _ yal h1⟩,λj hj=>hk _ _ _ yal (h.words j hj),⟨ev,hk _ _ _ yal h2,h3⟩,⟨ev',hk _ _ _ yal h4,h5⟩,hk _ _ _ yal h.et⟩
theorem Env.below(h:Env w)(hb:Below w.heap.size w w'):Env w':=h.keep (M:=λ_ _=>False) (Chg.of_below hb) (λ_ _ _ e=>e)
theorem Env.line(h:Env w)(hc:Chg (Jo bl) w w')(hb:10<=bl):Env w':=h.keep hc (λk i hk e=>by omega)
def zjl(b:UInt8):Bool:=decide (48<=b.toNat)&&decide (b.toNat<=57)
def Jg(s:ByteArray):ByteArray:=⟨(Lib.trimPrefix s.data.toList [45]).toArray⟩
def Jd(s:ByteArray):Bool:=
 if (Jg s).data.toList=[] then false else if (Jg s).data.toList.head?=some 48/\s≠⟨#[48]⟩ then false else (Jg s).data.toList.all zjl
def Qk(s:ByteArray):Option Int:=if Jd s=true then (match Lib.parseIntB 64 s.data.toList with| .ok v=>some v|_=>none) else none
theorem zjm(w:World)(s t:ByteArray)(ht:Hid (zab s t))(hm:t.size<4294967281)(k0:Nat)(hk0:k0<t.size)(hz:t[0].toNat≠48\/s=⟨#[48]⟩)(hd:Hid (∀j (h:j<t.size),j<k0->48<=t[j].toNat/\t[j].toNat<=57))(hb:t[k0].toNat<48\/57<t[k0].toNat):
  Cl 134 #[.string s] w λe w'=>e= .returned (.bool false)/\w'=w:=by
 have h0:0<t.size:=yai
 have hne:=Ey h0
 have hne': ¬t.toList=[]:=λh=>by simp [h] at hne
 have h0':(0:Int)<(t.size:Int):=yai
 have HT:=ht.out
 unfold zab at HT
 go_enter Tryz.func134,Tryz.ntmps134
 go_wp2_with fail
 refine (Tryz.strings_TrimPrefix s ⟨#[45]⟩ w).mono ?_
 rintro e w' ⟨rfl,rfl⟩
 change Hid _ at ht
 rw [show (⟨(Lib.trimPrefix s.data.toList (ByteArray.mk #[45]).data.toList).toArray⟩:ByteArray)=t from HT.symm]
 clear HT ht
 rcases hz with hz|rfl
 all_goals go_wp2
 all_goals
  go_loopw [20] (λv wr=>∃k:Nat,k<=k0/\v= .int .i64 k/\wr=w') (λv _=>t.size- (intOf v).toNat)
  case atStart=>exact ⟨0,by omega,rfl,rfl⟩
  case round=>
   obtain ⟨k,hk,rfl,rfl⟩:=hrel
   have hlt:k<t.size:=yai
   have hlt':(k:Int)<(t.size:Int):=yai
   by_cases hkk:k<k0
   ·have hq:=hd.out k hlt hkk
    have q1: ¬(t[k].toNat:Int)<48:=yai
    have q2: ¬(57:Int)<(t[k].toNat:Int):=yai
    go_wp2
    go_roundw
    case rel=>exact ⟨k+1,by omega,by go_num,trivial⟩
    case measure=>simp [intOf];omega
   ·obtain rfl:k=k0:=by omega
    rcases hb with hb|hb
    ·have q1:(t[k].toNat:Int)<48:=by omega
     go_wp2
     go_ret
     exact ⟨rfl,rfl⟩
    ·have q1: ¬(t[k].toNat:Int)<48:=by omega
     have q2:(57:Int)<(t[k].toNat:Int):=yai
     go_wp2
     go_ret
     exact ⟨rfl,rfl⟩
theorem Sn(w:World)(s:ByteArray)(hs:s.size<4294967281):
  Cl 134 #[.string s] w λe w'=>e= .returned (.bool (Jd s))/\w'=w:=by
 have ht:zab s (Jg s):=rfl
 have hle:(Jg s).size<=s.size:=by
  show (Lib.trimPrefix s.data.toList [45]).toArray.size<=s.data.size
  rw [<-Array.length_toList (xs:=s.data),List.size_toArray]
  unfold Lib.trimPrefix
  split
  ·simp
  ·exact Nat.le_refl _
 by_cases h0:(Jg s).data.toList=[]
 ·have hf:Jd s=false:=by unfold Jd;rw [if_pos h0]
  rw [hf]
  exact zf8 w s _ ht (by rw [ByteArray.toList_eq,h0];rfl)
 have hsz:0<(Jg s).size:=by
  show 0<(Jg s).data.size
  rw [<-Array.length_toList]
  exact List.length_pos_iff.2 h0
 have hhead:(Jg s).data.toList.head?=some (Jg s)[0]:=by
  rw [List.head?_eq_getElem?]
  simp [ByteArray.getElem_eq_getElem_data]
 by_cases h1:(Jg s).data.toList.head?=some 48/\s≠⟨#[48]⟩
 ·have hf:Jd s=false:=by unfold Jd;rw [if_neg h0,if_pos h1]
  rw [hf]
  refine ze6 w s _ ht hsz ?_ h1.2
  have:=hhead.symm.trans h1.1
  simp at this
  rw [this];rfl
 have hz:(Jg s)[0].toNat≠48\/s=⟨#[48]⟩:=by
  by_cases e:s=⟨#[48]⟩
  ·exact .inr e
  ·left
   intro e2
   exact h1 ⟨hhead.trans (congrArg some (UInt8.toNat_inj.1 e2)),e⟩
 have hv:Jd s=(Jg s).data.toList.all zjl:=by unfold Jd;rw [if_neg h0,if_neg h1]
 have hidx: ∀j (h:j<(Jg s).size),(Jg s)[j]=(Jg s).data.toList[j]'(by rw [Array.length_toList];exact h):=by intro j h;simp [ByteArray.getElem_eq_getElem_data]
 by_cases h2: ∀j (h:j<(Jg s).size),48<=(Jg s)[j].toNat/\(Jg s)[j].toNat<=57
 ·have ht':Jd s=true:=by
   rw [hv,List.all_eq_true]
   intro b hb
   obtain ⟨j,hj,rfl⟩:=List.mem_iff_getElem.1 hb
   have:=h2 j (by rw [Array.length_toList] at hj;exact hj)
   rw [hidx j (by rw [Array.length_toList] at hj;exact hj)] at this
   simp only [zjl,Bool.and_eq_true,decide_eq_true_eq]
   exact this
  rw [ht']
  exact znv w s _ ht yai hsz hz h2
 ·have hex: ∃k0,∃h:k0<(Jg s).size,(∀j (h:j<(Jg s).size),j<k0->48<=(Jg s)[j].toNat/\(Jg s)[j].toNat<=57)/\((Jg s)[k0].toNat<48\/57<(Jg s)[k0].toNat):=by
   have: ∀n,(∀j (h:j<(Jg s).size),j<n->48<=(Jg s)[j].toNat/\(Jg s)[j].toNat<=57)\/ ∃k0,∃h:k0<(Jg s).size,(∀j (h:j<(Jg s).size),j<k0->48<=(Jg s)[j].toNat/\(Jg s)[j].toNat<=57)/\((Jg s)[k0].toNat<48\/57<(Jg s)[k0].toNat):=by
    intro n
    induction n with
    |zero=>exact .inl (λj h hj=>absurd hj (Nat.not_lt_zero _))
    |succ n ih=>
     rcases ih with ih|ih
     ·by_cases hn:n<(Jg s).size
      ·by_cases hg:48<=(Jg s)[n].toNat/\(Jg s)[n].toNat<=57
       ·left
        intro j h hj
        by_cases e:j=n
        ·subst e;exact hg
        ·exact ih j h yai
       ·exact .inr ⟨n,hn,ih,by omega⟩
      ·exact .inl (λj h hj=>ih j h yai)
     ·exact .inr ih
   rcases this (Jg s).size with h|h
   ·exact absurd (λj h'=>h j h' h') h2
   ·exact h
  obtain ⟨k0,hk0,hd,hb⟩:=hex
  have ht':Jd s=false:=by
   rw [hv]
   cases hc:(Jg s).data.toList.all zjl with
   |false=>rfl
   |true=>
    rw [List.all_eq_true] at hc
    have:=hc ((Jg s)[k0]) (by rw [hidx k0 hk0];exact List.getElem_mem _)
    simp [zjl] at this
    omega
  rw [ht']
  exact zjm w s _ ht yai k0 hk0 hz hd hb
theorem zqe(w:World)(s:ByteArray)(hs:s.size<4294967281)(hn:Jd s=false):
  Cl 111 #[.string s] w λe w'=>e= .returned (.tuple #[.int .i64 0, .bool false])/\Below w.heap.size w w':=by
 go_enter Tryz.func111,Tryz.ntmps111
 go_wp2_with fail
 refine (Sn w s hs).mono ?_
 rintro e w' ⟨rfl,rfl⟩
 rw [hn]
 go_wp2
 go_ret2
 exact ⟨rfl,Below.refl _ _⟩
theorem zny(w:World)(s:ByteArray)(hs:s.size<4294967281)(hn:Jd s=true)(v:Int)(hv:Hid (Lib.parseIntB 64 s.data.toList= .ok v)):
  Cl 111 #[.string s] w λe w'=>e= .returned (.tuple #[.int .i64 v, .bool true])/\Below w.heap.size w w':=by
 go_enter Tryz.func111,Tryz.ntmps111
 go_wp2_with fail
 refine (Sn w s hs).mono ?_
 rintro e w' ⟨rfl,rfl⟩
 rw [hn]
 go_wp2_with fail
 refine (Tryz.strconv_ParseInt_10_at64_ok s yai v hv.out _).mono ?_
 rintro e w2 ⟨rfl,h2⟩
 have HB:Hid (Below w'.heap.size w' w2):=by
  rcases h2 with rfl|⟨u,rfl⟩
  ·exact Below.refl _ _
  ·exact Lib.bytesWorld_below _ _ _
 clear h2
 go_wp2
 go_ret2
 exact ⟨rfl,HB.out⟩
theorem zfg(w:World)(s:ByteArray)(hs:s.size<4294967281)(hn:Jd s=true)
  (hc:Hid (Cl 135 #[.string s, .int .i64 10, .int .i64 64] w λe w'=>∃x te N,e= .returned (.tuple #[.int .i64 x, .iface te (ptr N)])/\Below w.heap.size w w')):
  Cl 111 #[.string s] w λe w'=>e= .returned (.tuple #[.int .i64 0, .bool false])/\Below w.heap.size w w':=by
 go_enter Tryz.func111,Tryz.ntmps111
 go_wp2_with fail
 refine (Sn w s hs).mono ?_
 rintro e w' ⟨rfl,rfl⟩
 rw [hn]
 go_wp2_with fail
 refine hc.out.mono ?_
 rintro e w2 ⟨x,te,N,rfl,h2⟩
 have HB:=hid h2
 clear h2 hc
 go_wp2
 go_ret2
 exact ⟨rfl,HB.out⟩
theorem Og(hE:Env w)(s:ByteArray)(hs:s.size<4294967281):
  Cl 111 #[.string s] w λe w'=>e= .returned (.tuple #[.int .i64 ((Qk s).getD 0), .bool (Qk s).isSome])/\Below w.heap.size w w':=by
 cases hn:Jd s with
 |false=>
  have e:Qk s=none:=by unfold Qk;simp [hn]
  rw [e]
  exact zqe w s hs hn
 |true=>
  cases hp:Lib.parseIntB 64 s.data.toList with
  |ok v=>
   have e:Qk s=some v:=ycr
   rw [e]
   exact zny w s hs hn v hp
  |range=>
   have e:Qk s=none:=ycr
   rw [e]
   obtain ⟨ev,h1,h2⟩:=hE.er
   refine zfg w s hs hn ((Tryz.strconv_ParseInt_10_at64_range s yai hp ev w h1 h2).mono ?_)
   rintro e w' ⟨N,he,_,_,hb⟩
   exact ⟨_,_,N,he,hb⟩
  |_=>
   have e:Qk s=none:=ycr
   rw [e]
   obtain ⟨ev,h1,h2⟩:=hE.es
   refine zfg w s hs hn ((Tryz.strconv_ParseInt_10_at64_syntax s yai hp ev w h1 h2).mono ?_)
   rintro e w' ⟨N,he,_,_,hb⟩
   exact ⟨_,_,N,he,hb⟩
def Jt(s:ByteArray):Option Nat:=match s.data.toList with
 |[a,b]=>if a=114/\48<=b.toNat/\b.toNat<56 then some (b.toNat- 48) else none
 |_=>none
def SzOk(ws:List ByteArray):Prop:=ws.length<1000000/\ ∀u∈ws,u.size<4294967281
theorem SzOk.tail(h:SzOk (u::ws)):SzOk ws:=⟨by have:=h.1;simp at this;omega,λv hv=>h.2 v (List.mem_cons_of_mem _ hv)⟩
theorem SzOk.head(h:SzOk (u::ws)):u.size<4294967281:=h.2 u (List.mem_cons_self)
theorem SzOk.len(h:SzOk (u::ws)):ws.length<1000000:=h.tail.1
def zhi:List ByteArray->Option (Nat×List ByteArray)
 |[]=>none
 |u::ws=>(Jt u).map λr=>(r,ws)
def zco:List ByteArray->Option (Int×List ByteArray)
 |[]=>none
 |u::ws=>(Qk u).map λv=>(v,ws)
def zbp:List ByteArray->Option (Vl×List ByteArray)
 |[]=>none
 |u::ws=>match Jt u with
  |some r=>some (⟨true,r⟩,ws)
  |none=>(Qk u).map λv=>(⟨false,v⟩,ws)
def gIn(lo hi:Int)(ws:List ByteArray):Option (Int×List ByteArray):=(zco ws).bind λp=>if lo<=p.1/\p.1<=hi then some p else none
def Ez(ws:List ByteArray):Option ((Vl×Int)×List ByteArray):=(zbp ws).bind λp=>(zco p.2).map λq=>((p.1,q.1),q.2)
section
variable{w:World}{bl bw:Nat}{n:Int}{ws:List ByteArray}
theorem Sd(h:LineAt w bl n bw ws)(hE:Hid (Env w))(hbl:10<=bl)(hz:SzOk ws):
  Cl 109 #[ptr bl] w λe w'=>Rds bl n bw w ((zco ws).map λp=>(.int .i64 p.1,p.2)) e w':=by
 have H:=hid h
 clear h
 cases ws with
 |nil=>
  go_enter Tryz.func109,Tryz.ntmps109
  go_wp2_with fail
  refine (Fg H.out).mono ?_
  rintro e w1 ⟨bf,rfl,h1⟩
  exact ⟨rfl,bf,rfl,h1⟩
 |cons u ws=>
  cases hr:Qk u with
  |some r=>
   have e:((zco (u::ws)).map λp=>((.int .i64 p.1:Value),p.2))=some (.int .i64 r,ws):=by simp [zco,hr]
   rw [e]
   go_enter Tryz.func109,Tryz.ntmps109
   go_wp2_with fail
   refine (Ve H.out hz.len).mono ?_
   rintro e w1 ⟨rfl,h1,c1⟩
   have H1:=hid h1
   have C1:=hid c1
   clear h1 c1
   go_wp2_with fail
   refine (Og (hE.out.line C1.out hbl) u hz.head).mono ?_
   rintro e w2 ⟨rfl,b2⟩
   have H2:=hid (H1.out.below b2)
   have C2:=hid (C1.out.trans (Chg.of_below b2))
   clear b2 H1 C1
   rw [hr]
   go_wp2
   go_ret
   exact ⟨rfl,H2.out,C2.out⟩
  |none=>
   have e:((zco (u::ws)).map λp=>((.int .i64 p.1:Value),p.2))=none:=by simp [zco,hr]
   rw [e]
   go_enter Tryz.func109,Tryz.ntmps109
   go_wp2_with fail
   refine (Ve H.out hz.len).mono ?_
   rintro e w1 ⟨rfl,h1,c1⟩
   have H1:=hid h1
   have C1:=hid c1
   clear h1 c1
   go_wp2_with fail
   refine (Og (hE.out.line C1.out hbl) u hz.head).mono ?_
   rintro e w2 ⟨rfl,b2⟩
   have H2:=hid (H1.out.below b2)
   have C2:=hid (C1.out.trans (Chg.of_below b2))
   clear b2 H1 C1
   rw [hr]
   go_wp2_with fail
   refine (Jv H2.out 2).mono ?_
   intro e w3 h3
   obtain ⟨bf,rfl,h4⟩:=h3.after C2.out
   exact ⟨rfl,bf,rfl,h4⟩
end
section
variable{w:World}{bl bw:Nat}{n:Int}{ws ws1:List ByteArray}{x:Vl}{T:TypeId}{p:Value}{r:Nat}{v:Int}
theorem zzj(hv:zco ws=some (v,ws1))(hz:SzOk ws):SzOk ws1:=by
 cases ws with
 |nil=>simp [zco] at hv
 |cons u ws=>simp [zco] at hv;obtain ⟨_,_,_,e⟩:=hv;exact e▸hz.tail
theorem z13(hv:gIn lo hi ws=some (v,ws1))(hz:SzOk ws):SzOk ws1:=by
 unfold gIn at hv
 cases h:zco ws with
 |none=>simp [h] at hv
 |some q=>
  simp [h] at hv
  exact zzj (v:=q.1) (by rw [h];exact congrArg some (Prod.ext rfl (by rw [hv.2]))) hz
theorem z14(h:LineAt w bl n bw ws)(hE:Env w)(hbl:10<=bl)(hz:SzOk ws)(hv:zco ws=some (v,ws1)):
  Cl 109 #[ptr bl] w λe w'=>e= .returned (.int .i64 v)/\LineAt w' bl n bw ws1/\Chg (Jo bl) w w':=by
 have k:=Sd h hE hbl hz
 rw [hv] at k
 exact k
theorem z4v(h:LineAt w bl n bw ws)(hE:Env w)(hbl:10<=bl)(hz:SzOk ws)(hv:zco ws=none):
  Cl 109 #[ptr bl] w λe w'=>Fails 2 n bl w e w':=by
 have k:=Sd h hE hbl hz
 rw [hv] at k
 exact k
theorem zqf(h:LineAt w bl n bw ws)(hE:Env w)(hbl:10<=bl)(hz:SzOk ws)(hv:gIn lo hi ws=some (v,ws1)):
  Cl 78 #[ptr bl, .int .i64 lo, .int .i64 hi] w λe w'=>e= .returned (.int .i64 v)/\LineAt w' bl n bw ws1/\Chg (Jo bl) w w':=by
 have H:=hid h
 have HE:=hid hE
 clear h hE
 obtain ⟨hn,h1,h2⟩:zco ws=some (v,ws1)/\ ¬v<lo/\ ¬hi<v:=by
  unfold gIn at hv
  cases h:zco ws with
  |none=>simp [h] at hv
  |some q=>
   simp [h] at hv
   obtain ⟨⟨a,b⟩,rfl⟩:=hv
   exact ⟨rfl,by omega,by omega⟩
 go_enter Tryz.func78,Tryz.ntmps78
 go_wp2_with fail
 refine (z14 H.out HE.out hbl hz hn).mono ?_
 rintro e w1 ⟨rfl,h3,c1⟩
 have H1:=hid h3
 have C1:=hid c1
 clear h3 c1
 go_wp2
 go_ret
 exact ⟨rfl,H1.out,C1.out⟩
theorem z15(h:LineAt w bl n bw ws)(hE:Env w)(hbl:10<=bl)(hz:SzOk ws)(hv:gIn lo hi ws=none):
  Cl 78 #[ptr bl, .int .i64 lo, .int .i64 hi] w λe w'=>Fails 2 n bl w e w':=by
 have H:=hid h
 have HE:=hid hE
 clear h hE
 cases hn:zco ws with
 |none=>
  go_enter Tryz.func78,Tryz.ntmps78
  go_wp2_with fail
  refine (z4v H.out HE.out hbl hz hn).mono ?_
  rintro e w1 ⟨bf,rfl,h1⟩
  exact ⟨rfl,bf,rfl,h1⟩
 |some q=>
  obtain ⟨v,ws1⟩:=q
  have hq:v<lo\/(¬v<lo/\hi<v):=by
   simp [gIn,hn] at hv
   omega
  rcases hq with hq|⟨hq1,hq2⟩
  all_goals
   go_enter Tryz.func78,Tryz.ntmps78
   go_wp2_with fail
   refine (z14 H.out HE.out hbl hz hn).mono ?_
   rintro e w1 ⟨rfl,h3,c1⟩
   have H1:=hid h3
   have C1:=hid c1
   clear h3 c1
   go_wp2_with fail
   refine (Jv H1.out 2).mono ?_
   intro e w3 h3
   obtain ⟨bf,rfl,h4⟩:=h3.after C1.out
   exact ⟨rfl,bf,rfl,h4⟩
end
def zjn:ByteArray:=⟨#[116,114,97,112]⟩
section
variable{w:World}{bl bw:Nat}{n:Int}{ws:List ByteArray}
def zfh(ws:List ByteArray):Option (Ic×List ByteArray):=some ({k:=6,op:=0,d:=0,a:=⟨false,0⟩,b:=⟨false,0⟩,c:=⟨false,0⟩,n:=0},ws)
def znz(ws:List ByteArray):Option (Ic×List ByteArray):=some ({k:=10,op:=0,d:=0,a:=⟨false,0⟩,b:=⟨false,0⟩,c:=⟨false,0⟩,n:=10},ws)
def zqg(ws:List ByteArray):Option (Ic×List ByteArray):=(zbp ws).map λp1=>({k:=7,op:=0,d:=0,a:=p1.1,b:=⟨false,0⟩,c:=⟨false,0⟩,n:=0},p1.2)
def Xq(ws:List ByteArray):Option (Ic×List ByteArray):=(Ez ws).bind λp1=>(zbp p1.2).map λp2=>({k:=3,op:=0,d:=0,a:=p1.1.1,b:=p2.1,c:=⟨false,0⟩,n:=p1.1.2},p2.2)
def Ia(ws:List ByteArray):Option (Ic×List ByteArray):=(zhi ws).bind λp1=>(Ez p1.2).map λp2=>({k:=2,op:=0,d:=p1.1,a:=p2.1.1,b:=⟨false,0⟩,c:=⟨false,0⟩,n:=p2.1.2},p2.2)
def Fh(ws:List ByteArray):Option (Ic×List ByteArray):=(zhi ws).bind λp1=>(Ez p1.2).bind λp2=>(zbp p2.2).map λp3=>({k:=5,op:=0,d:=p1.1,a:=p2.1.1,b:=p3.1,c:=⟨false,0⟩,n:=p2.1.2},p3.2)
def zdj(ws:List ByteArray):Option (Ic×List ByteArray):=(zhi ws).bind λp1=>(Ez p1.2).bind λp2=>(zbp p2.2).bind λp3=>(zbp p3.2).map λp4=>({k:=4,op:=0,d:=p1.1,a:=p2.1.1,b:=p3.1,c:=p4.1,n:=p2.1.2},p4.2)
def zly(ws:List ByteArray):Option (Ic×List ByteArray):=(zhi ws).bind λp1=>(zbp p1.2).map λp2=>({k:=0,op:=0,d:=p1.1,a:=p2.1,b:=⟨false,0⟩,c:=⟨false,0⟩,n:=0},p2.2)
def zqh(ws:List ByteArray):Option (Ic×List ByteArray):=(gIn 0 4000 ws).map λp1=>({k:=8,op:=0,d:=0,a:=⟨false,0⟩,b:=⟨false,0⟩,c:=⟨false,0⟩,n:=p1.1},p1.2)
def gjz(ws:List ByteArray):Option (Ic×List ByteArray):=(zbp ws).bind λp1=>(gIn 0 4000 p1.2).map λp2=>({k:=9,op:=0,d:=0,a:=p1.1,b:=⟨false,0⟩,c:=⟨false,0⟩,n:=p2.1},p2.2)
def zgb(ws:List ByteArray):Option (Ic×List ByteArray):=(gIn 1 9 ws).map λp1=>({k:=10,op:=0,d:=0,a:=⟨false,0⟩,b:=⟨false,0⟩,c:=⟨false,0⟩,n:=p1.1},p1.2)
def gop(op:Nat)(ws:List ByteArray):Option (Ic×List ByteArray):=(zhi ws).bind λp1=>(zbp p1.2).bind λp2=>(zbp p2.2).map λp3=>({k:=1,op:=op,d:=p1.1,a:=p2.1,b:=p3.1,c:=⟨false,0⟩,n:=0},p3.2)
end
end Go.Proofs.YtphcopbffecceaaGreatDoor
