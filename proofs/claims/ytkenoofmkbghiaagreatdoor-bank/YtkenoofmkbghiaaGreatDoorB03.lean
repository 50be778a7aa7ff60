import Derived.Test.YtkenoofmkbghiaaGreatDoorRows
import Derived.Test.YtkenoofmkbghiaaGreatDoorB02
import Derived.ProofKit
import Derived.LaidMore
import Derived.LaidSub
import Derived.OpenShut
import Derived.Lay
import Derived.Handed
import Derived.Stop.Joined
import Derived.Shelf.Vars
import Derived.RangeFuncNested
import Derived.RangeFuncBound
import Derived.RangeFuncCalls
import Derived.RangeFuncLeaves
import Derived.RangeFuncFrom
import Derived.Shelf.Abstract
import Derived.Shelf.RegionOpen
import Derived.OwnWalkIn
import Derived.TacticsInMore
import Derived.LoopNIn
import Derived.LoopIn
import Derived.RegionIn
import Derived.Stop.RegionWithIn
import Derived.Laws.AppendOwn
import Derived.Laws.Bits64b
import Derived.Laws.Shifts
import Derived.Deep.RegionHeldLaw
set_option maxRecDepth 100000
set_option maxHeartbeats 2000000
namespace Go.Proofs.YtkenoofmkbghiaaGreatDoor
open Go.RowKit
variable{W w:World}{l q:List (Int×Int)}{P:Program}{a v:Int}{b fuel o:Nat}{ops:Array Oper}{Q:Exit->Act->World->Prop}{m:Nat->Int}{p:Int×Int}{md:Region.Mode}{S:World->Prop}{listed:Array Bool}
open Go.ChangeShapes Go.WideShapes Go.ChangeAt Go.WideMaps Go.WideElems Go.RowKit
theorem own:ownKnob Tryz.prog.godebug=none:=yug
theorem yne:laidOutB Tryz.prog=true:=yug
theorem z11:Tryz.prog.globalNamed "commits/ops.words" =some 2:=yug
theorem z12:(Tryz.prog.globals[2]?).map (·.type)=some 280:=yug
theorem zqa(h:W.ShapedOpen Tryz.prog): ∃m,W.cell? ⟨1,0,none⟩=some (.int .i64 m):=
 cell_of_shapedOpen_int (zero:=#[.int .i64 0]) (t:=3) h (of_decide_eq_true yug) yug rfl yug yug Tryz.underlying3
theorem zu6(h:laidMet Tryz.prog [("commits/ops.words",Rows.laid_commits_ops_words)] W):zjj W Jc:=by
 obtain ⟨ps,⟨g0,t0,cs0,f0,p0,q0,hg0,ht0,hv0,hd0,_,_⟩,_,_⟩:=h
 obtain rfl:=Option.some.inj (z11.symm.trans hg0)
 obtain rfl:=Option.some.inj (z12.symm.trans ht0)
 obtain ⟨xs,m1,rfl,hx1,hlen,hn3,hel⟩:=DataW.trod_array Tryz.underlying280 hd0
 simp only [Prod.mk.injEq] at hx1
 have hD:(DataW.agg (xs.map (·.1)):DataW Unit)=DataW.agg ((List.range 12).map λj=> .lit (.string (Jc j).data.toList)):=hx1.1.symm.trans yug
 have hD':xs.map (·.1)=(List.range 12).map λj=>DataW.lit (.string (Jc j).data.toList):=by injection hD
 have c9:Tryz.prog.cellsOf 9=1:=yug
 intro j hj
 have h0:=hel j hj
 rw [c9] at h0
 obtain ⟨x,hx⟩: ∃x,xs[j]?=some x:=⟨_,List.getElem?_eq_getElem yue⟩
 rw [hx] at h0
 obtain ⟨s,e1,e2,_⟩:=DataW.trod_string Tryz.underlying9 h0
 have e3:(xs.map (·.1))[j]?=some x.1:=by simp [hx]
 rw [hD',e2] at e3
 simp [hj] at e3
 have e4:Jc j=s:=Go.WideShapes.bytes_inj (by simpa using e3)
 have e5:(List.take 1 (List.drop (j*1) cs0.toList))[0]?=some (.string s):=by rw [e1];rfl
 simp at e5
 rw [e4]
 exact (World.var?_cell hg0 hv0 j).trans e5
theorem znw{l:List (String×DataW Unit)}(hf:l.filter (λx=>x.1== "commits/ops.words")=[("commits/ops.words",Rows.laid_commits_ops_words)])(h:laidMetH Tryz.prog l W):zjj W Jc:=by
 have h1:=h.filter (λx=>x.1== "commits/ops.words")
 rw [hf,MakeChecks.laidMetH_plain _ _ _ yug] at h1
 exact zu6 h1
theorem ze7{H:Type}{enc:TypeId×Value->H}{a:Assume}{C:Checked}{os:Os}{f:FuncId}{fn:Func}{s:ChangeSpec}{conds:List PathCond}{apart fresh handsOn again:Bool}{X:World->Array Value->Prop}
  (hX: ∀(w w':World) (args:Array Value),w.heap=w'.heap->X w args->X w' args)
  (own:ownKnob C.prog.godebug=none) (started:os.Started) (noInit:C.prog.inits.idxOf? f=none) (hfn:C.prog.funcs[f]?=some fn)
  (witness: ∃(w:World) (tape:Tape) (i:Input),w.os=os/\(w.forCall tape i).Shaped C.prog/\i.vars=[]/\Input.okWide C.prog (w.forCall tape i) .any w.heap.size f i/\
   ((s.pre enc C.prog fn conds apart (w.forCall tape i).memory i.args/\X (w.forCall tape i).memory i.args)/\sizedMet enc C.prog fn (OpenSpec.ofChange s) apart (w.forCall tape i).memory i.args)/\a.holds C.prog (lone (Frame.enter C.prog f i.args .normal) [] (w.forCall tape i)))
  (contract: ∀(W:World) (base:Nat) (args:Array Value) (ds gs:List (DataW H)) (before:List MemPlace),
   (∀(j:Nat) t v,fn.params[j]?=some t->args[j]?=some v->Value.okWide C.prog W .any base t v) ->
   DataW.Whole enc C.prog fn.params.toList s.vars apart W args.toList ds gs before ->
   (DataW.weightsEach C.prog (fn.params.toList++s.plain.varTypes C.prog) (ds++gs)).all (·<=reachBytes)=true->X W args->W.ShapedOpen C.prog ->
   Calls C.prog f args W λe W'=>∃v,e= .returned v/\s.post enc C.prog fn apart fresh handsOn again W args v W'):
  ReturnsInHanded a C os f .any (λw args=>(s.pre enc C.prog fn conds apart w args/\X w args)/\sizedMet enc C.prog fn (OpenSpec.ofChange s) apart w args) (s.post enc C.prog fn apart fresh handsOn again):=by
 refine returnsInHanded_of_calls own started noInit witness ?_
 intro w tape i _ hsh _ hok hpre hholds
 obtain ⟨_,_,_,fn',hfn',_,_,_,_,hval⟩:=hok
 have e:fn'=fn:=Option.some.inj (hfn'.symm.trans hfn)
 subst e
 obtain ⟨⟨⟨ds,gs,before,hw,hc⟩,hx⟩,hz⟩:=hpre
 have hw':=DataW.Whole.of_heap (w':=w.forCall tape i) (by rfl) hw
 refine (contract (w.forCall tape i) w.heap.size i.args ds gs before hval hw' (hz.weights hw) (hX _ _ _ (by rfl) hx) hsh).mono λe W' ⟨v,he,hp⟩=>?_
 subst he
 exact ChangeSpec.post_blind hp
open Go.RowKit Go.Shelf
attribute [local go_sem] Oper.semAt_some
def z8j(x y:Nat->Int)(f c:Nat)(i:Nat):Int×Int:=(x ((f+(c- 1- i))%4),y ((f+(c- 1- i))%4))
def z7n(x y:Nat->Int)(f c k:Nat):List (Int×Int):=(List.range k).map (z8j x y f c)
theorem z8z(x y:Nat->Int)(f c k:Nat):z7n x y f c (k+1)=z7n x y f c k++[z8j x y f c k]:=by simp [z7n,List.range_succ]
theorem z9v(x y:Nat->Int)(f c k:Nat):(z7n x y f c k).length=k:=by simp [z7n]
theorem ygm(n:Nat)(b o:Nat)(i f:Int)(w:World)(hf:w.cell? ⟨b,o+8,none⟩=some (.int .i64 f))(h0:0<=f)(h1:f<4)(i0:0<=i)(i1:i<=4):
  CallsIn Fence.wide n Tryz.prog 79 #[.pointer (some ⟨b,o,none⟩), .int .i64 i] w λe w'=>e= .returned (.int .i64 ((f+i)%4))/\w'=w:=by
 exact callsIn_wide.2 (ye7 b o i f w hf h0 h1 i0 i1)
theorem yfa(n:Nat)(hn:2<=n)(l Bs n₀ b o f c:Nat)(x y:Nat->Int)(hb:b<n₀)(hBs:Bs<n₀)(J Jx:List (Int×Int)->World->Prop)
  (hY: ∀pre (p:Int×Int) W,J pre W->pre.length<c->YieldAt Fence.wide (n- 1) Tryz.prog l #[.agg #[.int .i64 p.1, .int .i64 p.2]] W λe W'=>
   (e= .returned (.bool true)/\J (pre++[p]) W'/\Below n₀ W W')\/(e= .returned (.bool false)/\Jx (pre++[p]) W'))
  (hD: ∀pre W,J pre W->J pre W.drew)
  (W:World) (hB:W.cell? ⟨Bs,0,none⟩=some (.pointer (some ⟨b,o,none⟩))) (hr:RingAt W b o x y f c) (h0:J [] W):
  CallsIn Fence.wide n Tryz.prog 276 #[.func (.yield l) #[] #[], .pointer (some ⟨Bs,0,none⟩)] W λe W'=>(∃v,e= .returned v)/\
   ((∃ys,ys=z7n x y f c c/\J ys W')\/(∃pre,(∃k,k<=c/\pre=z7n x y f c k)/\Jx pre W')):=by
 have h9:=hr.c9
 have hc4:=hr.count
 refine callsIn_of_wp Tryz.func276 rfl trivial ?_ rfl
 simp only [Tryz.ntmps276,List.size_toArray,List.length_cons,List.length_nil,Nat.reduceAdd,Nat.reduceSub,Array.replicate_succ,Array.replicate_zero,List.push_toArray,List.append_toArray,List.nil_append,List.cons_append]
 have HR:Hid (RingAt W b o x y f c):=hr
 have hf4:=hr.first
 clear hr
 gi_wp2
 gi_loopw [3] (λi wr=>∃k:Nat,k<=c/\i= .int .i64 ((c:Int)- 1- k)/\J (z7n x y f c k) wr/\Below n₀ W wr)
  (λi _=>(intOf i+1).toNat)
 case atStart=>exact ⟨0,Nat.zero_le _,by simp,h0,Below.refl _ _⟩
 case round=>
  obtain ⟨k,hk,rfl,hJs,hnx⟩:=hrel
  by_cases hlt:k<c
  ·obtain ⟨fn,tmps,assign,body,hy,hR⟩:=hY _ (z8j x y f c k) wr.drew (hD _ _ hJs) (by rw [z9v];exact hlt)
   have hcx':=(hnx.cell (p:=⟨Bs,0,none⟩) hBs).trans hB
   have h8:=(hnx.cell (p:=⟨b,o+8,none⟩) hb).trans HR.out.c8
   have hx1:=(hnx.cell (p:=⟨b,o+(f+(c- 1- k))%4*2,none⟩) hb).trans (HR.out.at_ ((f+(c- 1- k))%4) yue)
   have hy1:=(hnx.cell (p:=⟨b,o+(f+(c- 1- k))%4*2+1,none⟩) hb).trans (HR.out.what ((f+(c- 1- k))%4) yue)
   have e1:((f:Int)+((c:Int)- 1- k))%4=(((f+(c- 1- k))%4:Nat):Int):=yue
   have e2:(((f+(c- 1- k))%4:Nat):Int)<4:=yue
   have e0:(0:Int)<=(c:Int)- 1- k:=yue
   have e3:1<=n- 1:=yue
   have e4:1<=n:=yue
   have hw: ∀f,Fence.wide.fn f:=λ_=>trivial
   have s1:(0:Int)<=(f:Int):=yue
   have s2:(f:Int)<4:=yue
   have s3:(c:Int)- 1- k<=4:=yue
   dsimp only [z8j] at hy
   generalize hg:(f+(c- 1- k))%4=g at*
   have hR':=hR.mono (R':=λe W'=>∃bb,e= .returned (.bool bb)/\((bb=true/\J (z7n x y f c k++[z8j x y f c k]) W'/\Below n₀ wr.drew W')\/(bb=false/\Jx (z7n x y f c k++[z8j x y f c k]) W')))
    (λe W3 h=>h.elim (λh=>⟨true,h.1, .inl ⟨rfl,h.2⟩⟩) (λh=>⟨false,h.1, .inr ⟨rfl,h.2⟩⟩))
   clear hR hY h9 hB h0
   have HX:Hid (Below n₀ W wr):=hnx
   have HJ:Hid (J (z7n x y f c k) wr):=hJs
   clear hnx hJs hD
   gi_wp2
   gi_region_with (first|(gi_at_call 79;refine (ygm (n- 1) b o ((c:Int)- 1- k) (f:Int) wr.drew h8 s1 s2 e0 s3).mono ?_;rintro e w' ⟨rfl,rfl⟩)|(with_reducible refine hR'.mono ?_;rintro e W3 ⟨bb,rfl,hbb⟩))
   all_goals
    rcases hbb with ⟨rfl,hJ3,hk3⟩|⟨rfl,hJx3⟩
    ·gi_wp2
     go_roundw
     case rel=>exact ⟨k+1,by omega,by go_num,by rw [z8z];exact hJ3,HX.out.trans (Below.trans ((Below.refl _ _).drew) hk3)⟩
     case measure=>simp [intOf];omega
    ·gi_wp2
     refine bodyPost_ret (results_none rfl _ _ _) rfl ?_
     exact ⟨⟨_,rfl⟩, .inr ⟨_,⟨k+1,by omega,(z8z _ _ _ _ _).symm⟩,hJx3⟩⟩
  ·obtain rfl:k=c:=by omega
   have e5: ¬(0:Int)<=(k:Int)- 1- k:=yue
   gi_wp2
   go_end0
   exact ⟨⟨_,rfl⟩, .inl hJs⟩
theorem ycs(n:Nat)(hn:2<=n)(Bs n₀ b o f c:Nat)(x y:Nat->Int)(w:World)(hb:b<n₀)(hBs:Bs<n₀)(hn₀:n₀<=w.heap.size)
  (hB:w.cell? ⟨Bs,0,none⟩=some (.pointer (some ⟨b,o,none⟩))) (hr:RingAt w b o x y f c):
  SeqStopsK Fence.wide n Tryz.prog 276 #[.pointer (some ⟨Bs,0,none⟩)] (λp:Int×Int=>#[.agg #[.int .i64 p.1, .int .i64 p.2]]) (Below n₀) (λys=>ys=z7n x y f c c) (λpre=>∃k,k<=c/\pre=z7n x y f c k) c w:=λl J Jx W hW hA _ hY h0=>
 yfa n hn l Bs n₀ b o f c x y hb hBs J Jx hY (λpre W h=>hA pre W W.drew none h ⟨rfl,rfl,rfl,Nat.le_refl _,λ_ _ _=>rfl⟩ (λr e=>by cases e)) W ((hW.cell (p:=⟨Bs,0,none⟩) (Nat.lt_of_lt_of_le hBs hn₀)).trans hB)
  (hr.chg (M:=λ_ _=>False) (Chg.of_below hW) (λ_ _ h=>h)) h0
theorem yfb(b o:Nat)(w:World):
  Cl 274 #[.pointer (some ⟨b,o,none⟩)] w λe w'=>e= .returned (.func (.func 276) #[] #[.pointer (some ⟨w.heap.size,0,none⟩)])/\w'=w.alloc (.cells #[.pointer (some ⟨b,o,none⟩)] 187):=by
 have hmf: ∀(fn:Fn) (first cap:Array Value) (w:World),(Instr.makeFunc fn first cap).run Tryz.prog w= .ok (.func fn first cap) w:=λ_ _ _ _=>rfl
 go_enter Tryz.func274,Tryz.ntmps274
 go_wp2
 go_ret
 exact ⟨rfl,rfl⟩
structure Vl where
 reg:Bool
 v:Int
structure Ic where
 k:Nat
 op:Nat
 d:Nat
 a:Vl
 b:Vl
 c:Vl
 n:Int
structure Th where
 r:Nat->Int
 pl:Int
 q:List (Int×Int)
 out:List Int
 st:Int
def Vl.of(x:Vl)(T:Th):Int:=if x.reg=true then T.r x.v.toNat else x.v
def Vl.ok(x:Vl):Prop:=x.reg=true->0<=x.v/\x.v<8
def Th.setR(T:Th)(d:Nat)(v:Int):Th:={T with r:=λj=>if j=d then v else T.r j}
def z60(m:Nat->Int)(a:Nat)(v:Int):Nat->Int:=λj=>if j=a then v else m j
def z6x(m:Nat->Int):List (Int×Int)->Nat->Int
 |[]=>m
 |p::q=>z6x (z60 m p.1.toNat p.2) q
def z62(q:List (Int×Int))(m:Nat->Int)(a v:Int):List (Int×Int)×(Nat->Int):=
 if q.length<4 then (q++[(a,v)],m) else match q with
  |[]=>([(a,v)],m)
  |p::q=>(q++[(a,v)],z60 m p.1.toNat p.2)
theorem ybl(h:q.length<4):z62 q m a v=(q++[(a,v)],m):=by simp [z62,h]
theorem ybm(h:q.length=3):z62 (p::q) m a v=(q++[(a,v)],z60 m p.1.toNat p.2):=by simp [z62,h]
def z67(l:List (Int×Int))(a m:Int):Int:=((l.find? (λp=>p.1==a)).map (·.2)).getD m
open Go.RowKit Go.Shelf
attribute [local go_sem] Oper.semAt_some
theorem yct{r:List (Int×Int)}{m:Int}(hl:l=q++[p]++r)(hq: ∀s∈q,(s.1==a)=false)(hp:p.1=a):z67 l a m=p.2:=by
 subst hl
 have h1:List.find? (λs:Int×Int=>s.1==a) q=none:=by
  rw [List.find?_eq_none];intro s hs;simp [hq s hs]
 simp [z67,List.find?_append,h1,hp]
theorem ybn{m:Int}(hq: ∀s∈l,(s.1==a)=false):z67 l a m=m:=by
 have h1:List.find? (λs:Int×Int=>s.1==a) l=none:=by
  rw [List.find?_eq_none];intro s hs;simp [hq s hs]
 simp [z67,h1]
theorem z9w(x y:Nat->Int)(f c k:Nat)(h:k<=c): ∃r,z7n x y f c c=z7n x y f c k++r:=by
 induction c- k generalizing k with
 |zero=>exact ⟨(z7n x y f c c).drop k,by
   have:z7n x y f c k=(z7n x y f c c).take k:=by
    simp only [z7n,<-List.map_take,List.take_range,Nat.min_eq_left h]
   rw [this,List.take_append_drop]⟩
 |succ _ ih=>exact ⟨(z7n x y f c c).drop k,by
   have:z7n x y f c k=(z7n x y f c c).take k:=by
    simp only [z7n,<-List.map_take,List.take_range,Nat.min_eq_left h]
   rw [this,List.take_append_drop]⟩
theorem ygn(n:Nat)(hn:4<=n)(b bm f c:Nat)(x y:Nat->Int)(a m:Int)(w:World)(h0:0<=a)(h1:a<256)(hbm:bm<w.heap.size)(hp:w.cell? ⟨b,0,none⟩=some (ptr bm))(hm:w.cell? ⟨bm,a.toNat,none⟩=some (.int .i64 m))(hr:RingAt w b 11 x y f c):
  CallsIn Fence.wide n Tryz.prog 270 #[ptr b, .int .i64 a] w λe W'=>e= .returned (.int .i64 (z67 (z7n x y f c c) a m))/\Below w.heap.size w W':=by
 have h1':1<=n:=yue
 have hb:=hr.lt
 have HR:Hid (RingAt w b 11 x y f c):=hr
 clear hr
 refine callsIn_of_wp_marks Tryz.func270 rfl trivial ?_ rfl
 simp only [Tryz.ntmps270,List.size_toArray,List.length_cons,List.length_nil,Nat.reduceAdd,Nat.reduceSub,Array.replicate_succ,Array.replicate_zero,List.push_toArray,List.append_toArray,List.nil_append,List.cons_append]
 have hw: ∀f,Fence.wide.fn f:=λ_=>trivial
 gi_wp2_with (gi_at_call 274;refine (callsIn_wide.2 (yfb _ _ _)).mono ?_;rintro e w' ⟨rfl,rfl⟩)
 have bA:=((Boxed.new w 3 (.int .i64 a)).alloc (.cells #[.int .i64 0] 2)).alloc (.cells #[.pointer (some ⟨b,11,none⟩)] 187)
 have bR:=(Boxed.new (w.alloc (.cells #[.int .i64 a] 3)) 2 (.int .i64 0)).alloc (.cells #[.pointer (some ⟨b,11,none⟩)] 187)
 have bP:=Boxed.new ((w.alloc (.cells #[.int .i64 a] 3)).alloc (.cells #[.int .i64 0] 2)) 187 (.pointer (some ⟨b,11,none⟩))
 simp only [World.size_alloc] at bR bP
 have hB0:Below w.heap.size w (((w.alloc (.cells #[.int .i64 a] 3)).alloc (.cells #[.int .i64 0] 2)).alloc (.cells #[.pointer (some ⟨b,11,none⟩)] 187)):=(((Below.refl _ w).alloc (Nat.le_refl _) _).alloc yuf _).alloc yuj _
 have hsz:(((w.alloc (.cells #[.int .i64 a] 3)).alloc (.cells #[.int .i64 0] 2)).alloc (.cells #[.pointer (some ⟨b,11,none⟩)] 187)).heap.size=w.heap.size+3:=yuf
 obtain ⟨W0,hW0⟩: ∃W0,((w.alloc (.cells #[.int .i64 a] 3)).alloc (.cells #[.int .i64 0] 2)).alloc (.cells #[.pointer (some ⟨b,11,none⟩)] 187)=W0:=⟨_,rfl⟩
 rw [hW0] at bA bR bP hB0 hsz⊢
 clear hW0
 have hrW:RingAt W0 b 11 x y f c:=HR.out.chg (M:=λ_ _=>False) (Chg.of_below hB0) (λ_ _ h=>h)
 refine wpIn_rangeFunc_ownH rfl h1' (gf:=276) (lb:=#[.pointer (some ⟨w.heap.size+1+1,0,none⟩)]) rfl trivial (enters_of Tryz.func276 yug rfl)
  (ycs (n- 1) yue (w.heap.size+1+1) W0.heap.size b 11 f c x y W0 yue yue (Nat.le_refl _) bP.cell hrW) belowK_t (belowK_b (Nat.le_refl _)) (Below.refl _ _) (λ_=>rfl)
  (λpre W=>((Boxed W w.heap.size 3 (.int .i64 a)/\Boxed W (w.heap.size+1) 2 (.int .i64 0))/\((∀p∈pre,(p.1==a)=false)/\W0.heap.size<=W.heap.size))/\Below w.heap.size w W)
  (λc' pre W=>((c'= .ret/\ ∃q p,pre=q++[p]/\(∀s∈q,(s.1==a)=false)/\p.1=a/\Boxed W (w.heap.size+1) 2 (.int .i64 p.2)))/\Below w.heap.size w W)
  (OwnFrom.and (OwnFrom.and (OwnFrom.and (Own.from (boxed_own _ _ _) _) (Own.from (boxed_own _ _ _) _)) (λ_ _ _ _ hs hg _=>⟨hs.1,Nat.le_trans hs.2 hg.size⟩)) (ownFrom_below (Nat.le_refl _) yue))
  (λc'=>OwnFrom.and (λpre X Y row hs hg hr=>by obtain ⟨h1,q,p,h2,h3,h4,h5⟩:=hs;exact ⟨h1,q,p,h2,h3,h4,boxed_own _ 2 (λ(_:Unit)=>Value.int .i64 p.2) () X Y row h5 hg (λr e=>(hr r e).2)⟩) (ownFrom_below (Nat.le_refl _) yue))
  ⟨⟨⟨bA,bR⟩,by simp,Nat.le_refl _⟩,hB0⟩
  (λp a' W=>∃Bx,w.heap.size+2<Bx/\W.cell? ⟨Bx,0,none⟩=some (.int .i64 p.1)/\W.cell? ⟨Bx,1,none⟩=some (.int .i64 p.2)/\a'={tmps:=#[ptr b, .int .i64 a,undef, .pointer (some ⟨w.heap.size,0,none⟩), .pointer (some ⟨w.heap.size+1,0,none⟩), .pointer (some ⟨Bx,0,none⟩),ptr b, .pointer (some ⟨b,0,none⟩), .pointer (some ⟨b,11,none⟩), .func (.func 276) #[] #[.pointer (some ⟨w.heap.size+1+1,0,none⟩)], .agg #[.int .i64 p.1, .int .i64 p.2],undef,undef,undef,undef,undef,undef,undef,undef,undef,undef,undef,undef,undef,undef],defers:=[]})
  (λp a' _ X Y row hs hg hr=>by obtain ⟨Bx,k1,k2,k3,k4⟩:=hs;exact ⟨Bx,k1,cell_kept k2 hg (λr e=>(hr r e).2),cell_kept k3 hg (λr e=>(hr r e).2),k4⟩)
  ?assign ?body ?done ?stop
 case assign=>
  rintro l pre p W K ⟨⟨⟨bA1,bR1⟩,hq,hWs⟩,hB1⟩ hK
  gi_wp2
  refine hK _ _ ((KeepsOthers.alloc _ _).from _) ((Below.refl _ W).alloc hWs _) ⟨⟨⟨bA1.alloc _,bR1.alloc _⟩,hq,by simp;omega⟩,hB1.alloc hB1.size _⟩ ⟨W.heap.size,by omega,?_,?_,rfl⟩
  ·simp [go_sem]
  ·simp [go_sem]
 case body=>
  rintro l pre p a' W hl _ ⟨⟨⟨bA1,bR1⟩,hq,hWs⟩,hB1⟩ ⟨Bx,hBx,k1,k2,rfl⟩ hlt
  have cA:=bA1.cell
  have cR:=bR1.cell
  have zR:=bR1.frozen
  by_cases hpa:p.1=a
  ·have hpb:(p.1==a)=true:=by simp [hpa]
   gi_wp2
   exact ⟨(KeepsOthers.setCell _ _ _).from _,⟨rfl,pre,p,rfl,hq,hpa,bR1.set _⟩,hB1.setCell (p:=⟨w.heap.size+1,0,none⟩) yuf _⟩
  ·have hpb:(p.1==a)=false:=by simp [hpa]
   gi_wp2
   exact ⟨KeepsFrom.refl _ _,Below.refl _ _,⟨⟨bA1,bR1⟩,λs hs=>(List.mem_append.1 hs).elim (hq s) (λe=>by simp at e;subst e;exact hpb),hWs⟩,hB1⟩
 case done=>
  rintro D ys W hD rfl ⟨⟨⟨bA1,bR1⟩,hq,hWs⟩,hB1⟩ hK
  obtain ⟨j,rfl⟩:=Int.eq_ofNat_of_zero_le h0
  simp only [Int.toNat_natCast] at hm
  have cA:=bA1.cell
  have cR:=bR1.cell
  have zR:=bR1.frozen
  have hp1:W.cell? ⟨b,0,none⟩=some (.pointer (some ⟨bm,0,none⟩)):=(hB1.cell (p:=⟨b,0,none⟩) hb).trans hp
  have hm1:W.cell? ⟨bm,j,none⟩=some (.int .i64 m):=(hB1.cell (p:=⟨bm,j,none⟩) hbm).trans hm
  have HD:Hid (w.heap.size+3<=D):=show w.heap.size+3<=D by omega
  have HK:Hid (W.heap[D]?=some (.deferred (some []))):=hK
  clear hK hm hp
  gi_wp2
  gi_region
  all_goals gi_wp2
  all_goals
   have hK':((W.setCell ⟨w.heap.size+1,0,none⟩ (.int .i64 m)).drew).heap[D]?=some (.deferred (some [])):=(KeepsOthers.setCell W ⟨w.heap.size+1,0,none⟩ (.int .i64 m)).same D _ HK.out rfl
   refine ⟨by simp, .inl ⟨_,_,rfl,run_takeDeferred hK',?_⟩⟩
   have hc5:=cell_kept (show ((W.setCell ⟨w.heap.size+1,0,none⟩ (.int .i64 m)).drew).cell? ⟨w.heap.size+1,0,none⟩=some (.int .i64 m) from (bR1.set (.int .i64 m)).cell) (grownBy_putObj' _ D (.deferred none)) (λr e=>by cases e;exact ⟨_,hK',rfl⟩)
   refine ⟨.int .i64 m,?_,by rw [ybn hq],((hB1.setCell (p:=⟨w.heap.size+1,0,none⟩) yuf _).drew).trans (belowK_b (w:=w) (Nat.le_refl _) _ D _ _ (by have:=HD.out;omega) hK' rfl rfl)⟩
   simp [results,Tryz.f270,go_sem,hc5]
 case stop=>
  rintro D c' pre W hD ⟨k,hk,rfl⟩ ⟨⟨rfl,q,p,h2,h3,h4,h5⟩,hB1⟩ hK
  gi_wp2
  refine ⟨by simp, .inl ⟨_,_,rfl,run_takeDeferred hK,?_⟩⟩
  have hc5:=cell_kept h5.cell (grownBy_putObj' _ D (.deferred none)) (λr e=>by cases e;exact ⟨_,hK,rfl⟩)
  obtain ⟨r,hr⟩:=z9w x y f c k hk
  refine ⟨.int .i64 p.2,?_,by rw [yct (hr.trans (by rw [h2])) h3 h4],hB1.trans (belowK_b (w:=w) (Nat.le_refl _) W D _ _ yue hK rfl rfl)⟩
  simp [results,Tryz.f270,go_sem,hc5]
theorem yfc(b bm f c:Nat)(x y:Nat->Int)(a m:Int)(w:World)(h0:0<=a)(h1:a<256)(hbm:bm<w.heap.size)(hp:w.cell? ⟨b,0,none⟩=some (ptr bm))(hm:w.cell? ⟨bm,a.toNat,none⟩=some (.int .i64 m))(hr:RingAt w b 11 x y f c):
  Cl 270 #[ptr b, .int .i64 a] w λe W'=>e= .returned (.int .i64 (z67 (z7n x y f c c) a m))/\Below w.heap.size w W':=
 callsIn_wide.1 (ygn 4 (Nat.le_refl _) b bm f c x y a m w h0 h1 hbm hp hm hr)
def RingQ(w:World)(b o:Nat)(q:List (Int×Int)):Prop:=
 ∃x y f,RingAt w b o x y f q.length/\ ∀i (h:i<q.length),x ((f+i)%4)=q[i].1/\y ((f+i)%4)=q[i].2
theorem RingQ.lt(h:RingQ w b o q):b<w.heap.size:=let ⟨_,_,_,h,_⟩:=h;h.lt
theorem RingQ.le(h:RingQ w b o q):q.length<=4:=let ⟨_,_,_,h,_⟩:=h;h.count
theorem RingQ.count(h:RingQ w b o q):w.cell? ⟨b,o+9,none⟩=some (.int .i64 (q.length:Int)):=let ⟨_,_,_,h,_⟩:=h;h.c9
theorem RingQ.chg{w':World}{M:Nat->Nat->Prop}(h:RingQ w b o q)(hc:Chg M w w')(hM: ∀j,j<10->¬M b (o+j)):RingQ w' b o q:=
 let ⟨x,y,f,hr,hq⟩:=h;⟨x,y,f,hr.chg hc hM,hq⟩
theorem z9k{x y:Nat->Int}{f:Nat}(hq: ∀i (h:i<q.length),x ((f+i)%4)=q[i].1/\y ((f+i)%4)=q[i].2):z7n x y f q.length q.length=q.reverse:=by
 apply List.ext_getElem
 ·simp [z7n]
 ·intro i h1 h2
  simp [z7n] at h1
  have:=hq (q.length- 1- i) yue
  simp only [z7n,List.getElem_map,List.getElem_range,z8j,List.getElem_reverse]
  rw [this.1,this.2]
theorem yfd(b o:Nat)(w:World)(h:RingQ w b o []):
  Cl 51 #[.pointer (some ⟨b,o,none⟩)] w λe w'=>e= .returned (.tuple #[.agg #[.int .i64 0, .int .i64 0], .bool false])/\Below w.heap.size w w':=
 ye8 b o w h.lt h.count
theorem yd2(b o:Nat)(p:Int×Int)(q:List (Int×Int))(w:World)(h:RingQ w b o (p::q)):
  Cl 51 #[.pointer (some ⟨b,o,none⟩)] w λe w'=>e= .returned (.tuple #[.agg #[.int .i64 p.1, .int .i64 p.2], .bool true])/\Chg (z8b b o) w w'/\RingQ w' b o q:=by
 obtain ⟨x,y,f,hr,hq⟩:=h
 have hf:=hr.first
 have h0:=hq 0 yuf
 have hc:=hr.count
 simp only [List.length_cons] at hc
 have e0:(f+0)%4=f:=yue
 rw [e0] at h0
 simp only [List.getElem_cons_zero] at h0
 refine (ycb b o f _ x y w hr yuf).mono ?_
 rintro e w' ⟨rfl,hch,hr'⟩
 refine ⟨by rw [h0.1,h0.2],hch,_,_,_,hr',?_⟩
 intro i hi
 have:=hq (i+1) yu0
 simp only [List.getElem_cons_succ] at this
 have e1:((f+1)%4+i)%4=(f+(i+1))%4:=yue
 have e2: ¬(f+(i+1))%4=f:=yue
 rw [e1,if_neg e2,if_neg e2]
 exact this
theorem ycu(b o:Nat)(p v:Int)(q:List (Int×Int))(w:World)(h:RingQ w b o q)(hl:q.length<4):
  Cl 275 #[.pointer (some ⟨b,o,none⟩), .agg #[.int .i64 p, .int .i64 v]] w λe w'=>e= .returned (.tuple #[.agg #[.int .i64 0, .int .i64 0], .bool false])/\Chg (z8b b o) w w'/\RingQ w' b o (q++[(p,v)]):=by
 obtain ⟨x,y,f,hr,hq⟩:=h
 refine (ydz b o f _ x y p v w hr hl).mono ?_
 rintro e w' ⟨rfl,hch,hr'⟩
 refine ⟨rfl,hch,_,_,_,by rw [List.length_append];exact hr',?_⟩
 intro i hi
 by_cases hiq:i<q.length
 ·have e2: ¬(f+i)%4=(f+q.length)%4:=by omega
  rw [if_neg e2,if_neg e2,List.getElem_append_left hiq]
  exact hq i hiq
 ·have hi':i=q.length:=by simp at hi;omega
  subst hi'
  simp
theorem ycv(b o:Nat)(p v:Int)(p0:Int×Int)(q:List (Int×Int))(w:World)(h:RingQ w b o (p0::q))(hl:q.length=3):
  Cl 275 #[.pointer (some ⟨b,o,none⟩), .agg #[.int .i64 p, .int .i64 v]] w λe w'=>e= .returned (.tuple #[.agg #[.int .i64 p0.1, .int .i64 p0.2], .bool true])/\Chg (z8b b o) w w'/\RingQ w' b o (q++[(p,v)]):=by
 obtain ⟨x,y,f,hr,hq⟩:=h
 have hf:=hr.first
 have h0:=hq 0 yuf
 have e0:(f+0)%4=f:=yue
 rw [e0] at h0
 simp only [List.getElem_cons_zero] at h0
 have hr4:RingAt w b o x y f 4:=by
  have:(p0::q).length=4:=by simp [hl]
  rw [this] at hr;exact hr
 refine (yd0 b o f x y p v w hr4).mono ?_
 rintro e w' ⟨rfl,hch,hr'⟩
 refine ⟨by rw [h0.1,h0.2],hch,_,_,_,by rw [List.length_append,hl];exact hr',?_⟩
 intro i hi
 by_cases hiq:i<q.length
 ·have:=hq (i+1) (by simpa using hiq)
  simp only [List.getElem_cons_succ] at this
  have e1:((f+1)%4+i)%4=(f+(i+1))%4:=yue
  have e2: ¬(f+(i+1))%4=f:=yue
  rw [e1,if_neg e2,if_neg e2,List.getElem_append_left hiq]
  exact this
 ·have hi':i=q.length:=by simp at hi;omega
  subst hi'
  have e1:((f+1)%4+q.length)%4=f:=yue
  rw [e1]
  simp
theorem yiz(b bm:Nat)(q:List (Int×Int))(a m:Int)(w:World)(h0:0<=a)(h1:a<256)(hbm:bm<w.heap.size)(hp:w.cell? ⟨b,0,none⟩=some (ptr bm))(hm:w.cell? ⟨bm,a.toNat,none⟩=some (.int .i64 m))(hr:RingQ w b 11 q):
  Cl 270 #[ptr b, .int .i64 a] w λe W'=>e= .returned (.int .i64 (z67 q.reverse a m))/\Below w.heap.size w W':=by
 obtain ⟨x,y,f,hr,hq⟩:=hr
 have:=yfc b bm f _ x y a m w h0 h1 hbm hp hm hr
 rw [z9k hq] at this
 exact this
theorem Chg.setRow{g:Nat}{old cs:Array Value}{e:TypeId}{fr:Nat×Nat}(hg:w.heap[g]?=some (.cells old e fr))(hs:cs.size=old.size):Chg (λk _=>k=g) w (w.setRow g cs):=by
 have hh:=setRow_heap w g old cs e fr hg
 refine ⟨rfl,rfl,rfl,by simp [World.setRow],?_,?_,?_,?_⟩
 ·intro k hk hn;exact setRow_other w g k cs (hn 0)
 ·intro k i hk hn;exact World.cell?_of_block (w:=w) (setRow_other w g k cs hn)
 ·intro k i hk
  by_cases e':k=g
  ·subst e';simp [World.frozen?,hh,hg]
  ·exact World.frozen?_of_block (w:=w) (setRow_other w g k cs e')
 ·intro k hk
  by_cases e':k=g
  ·subst e';simp [World.shape?,hh,hg,hs]
  ·exact Jw (setRow_other w g k cs e')
theorem zlx(w:World)(t ty e:TypeId)(i:TypeInfo)(z:Value)(bytes:Nat)(ht:P.underlying t=some (.slice e))(hi:P.info? e=some i)(hz:i.zero=some z)(hsize:i.size=1)(hby:i.bytes=bytes)(hzs:z.cells.size=1)
  (v:Value) (n:Nat) (xs:List Value) (hown:w.ownsRow 0 e 1 v n xs) (ad:Addr) (u:Value) (hu: ∀j u',[u][j]?=some u'->w.cell? (ad.add j)=some u') (hu1:u.oneCell'=true) (h63:n+1<=maxLen) (hbytes:(n+1)*bytes<=140737488355328):
  ∃g cap w',(Builtin.append_ #[t,t] ty #[v, .slice (some ad) 1 1]).run P w= .ok (.slice (some ⟨g,0,none⟩) (n+1) cap) w'/\
   w'.ownsRow 0 e 1 (.slice (some ⟨g,0,none⟩) (n+1) cap) (n+1) (xs++[u])/\Chg (λk _=>v.ownBlock=some k) w w'/\(v.ownBlock=some g\/g=w.heap.size):=by
 have h1: ∀u'∈[u],u'.oneCell'=true:=by simpa using hu1
 obtain ⟨v',w',hr,h2,_,_⟩:=run_append_own (P:=P) w 0 t ty e i z 1 bytes ht hi hz hsize hby hzs yuh v n xs hown ad 1 1 [u] yuf hu h1 h63 hbytes (Nat.zero_le _)
 subst hby
 have hlu:[u].length=1*i.size:=by simp [hsize]
 rcases hown.2 with ⟨rfl,rfl⟩|⟨g,cap,cur,rfl,hbg,hg,hnc,hcm,hcs,htake⟩
 ·have hx:=run_append_nil (P:=P) w t ty e i z ht hi hz ad 1 1 [u] hlu hu yuh yuh yue
  rw [hx] at hr
  injection hr with e1 e2
  subst e1;subst e2
  exact ⟨_,_,_,hx,h2,((Chg.refl _ w).drew).alloc _, .inr rfl⟩
 ·by_cases hroom:n+1<=cap
  ·have hx:=run_append_room (P:=P) w t ty e i ht hi g n cap cur hg ad 1 1 [u] hlu hu h1 hroom (by simp [hsize,hcs];omega)
   rw [hx] at hr
   injection hr with e1 e2
   subst e1;subst e2
   refine ⟨_,_,_,hx,h2,(Chg.setRow hg ?_).mono (λk i _ e=>by simp [Value.ownBlock,e]), .inl rfl⟩
   simp only [List.size_toArray,List.length_append,List.length_take,List.length_drop,Array.length_toList,hsize,List.length_cons,List.length_nil]
   omega
  ·have hlo:xs.length=n*i.size:=by rw [hown.1,hsize]
   have hx:=run_append_grow (P:=P) w t ty e i z ht hi hz ⟨g,0,none⟩ n cap xs hlo (hown.cells (g:=g) rfl) ad 1 1 [u] hlu hu yue (by unfold maxLen at h63;omega) (growslice_fits yue hbytes)
   rw [hx] at hr
   injection hr with e1 e2
   subst e1;subst e2
   exact ⟨_,_,_,hx,h2,((Chg.refl _ w).drew).alloc _, .inr rfl⟩
theorem Zk{rest:List Oper}{o:Oper}{a:Act}(hgd:o.guard=none)(s x:Operand)(t:TypeId)
  (ho:o.op= .call {callee:= .builtin .append,args:=#[s,x],argTypes:=#[t,t]})
  (e:TypeId) (i:TypeInfo) (z:Value) (bytes:Nat) (ht:P.underlying t=some (.slice e)) (hi:P.info? e=some i) (hz:i.zero=some z) (hsize:i.size=1) (hby:i.bytes=bytes) (hzs:z.cells.size=1)
  (v:Value) (n:Nat) (xs:List Value) (hs:a.eval s=v) (hown:w.ownsRow 0 e 1 v n xs) (ad:Addr) (u:Value) (hx:a.eval x= .slice (some ad) 1 1) (hu: ∀j u',[u][j]?=some u'->w.cell? (ad.add j)=some u') (hu1:u.oneCell'=true) (h63:n+1<=maxLen) (hbytes:(n+1)*bytes<=140737488355328)
  (h: ∀g cap w',w'.ownsRow 0 e 1 (.slice (some ⟨g,0,none⟩) (n+1) cap) (n+1) (xs++[u])->Chg (λk _=>v.ownBlock=some k) w w'->(v.ownBlock=some g\/g=w.heap.size)->wpList P ops Q rest (a.put o.dst (.slice (some ⟨g,0,none⟩) (n+1) cap)) w'):wpList P ops Q (o::rest) a w:=
 wpList_plain hgd λK hK=>by
  obtain ⟨g,cap,w',hr,h2,h3,h4⟩:=zlx (P:=P) w t o.type e i z bytes ht hi hz hsize hby hzs v n xs hown ad u hu hu1 h63 hbytes
  unfold Oper.wp execOp
  simp only [ho,resolve,invoke,builtin,Sem.run_bind,Sem.run_pure,Result.andThen_ok,List.map_toArray,List.map_cons,List.map_nil,hs,hx,hr]
  exact hK _ _ (h g cap w' h2 h3 h4)
def z68(b:Int):Int:=bits .and .u64 (IntKind.u64.wrap b) 63
theorem z81(b:Int):0<=z68 b:=by
 unfold z68
 rw [IntKind.wrap_u64]
 have h:=bits_and_u64_nat (b%18446744073709551616).toNat 63 yue yuh
 rw [show (((b%18446744073709551616).toNat:Nat):Int)=b%18446744073709551616 by omega] at h
 rw [show (63:Int)=((63:Nat):Int) from rfl,h]
 omega
def opV(op:Nat)(a b:Int):Option Int:=
 if op=0 then some (wrap64 (a+b)) else if op=1 then some (wrap64 (a- b)) else if op=2 then some (wrap64 (a*b))
 else if op=3 then (if b=0 then none else some (wrap64 (a.tdiv b))) else if op=4 then (if b=0 then none else some (a.tmod b))
 else if op=5 then some (bits .and .i64 a b) else if op=6 then some (bits .or .i64 a b) else if op=7 then some (bits .xor .i64 a b)
 else if op=8 then some (wrap64 (a*2^min (z68 b).toNat 64)) else if op=9 then some (a / 2^min (z68 b).toNat 64)
 else if op=10 then some (if a<b then 1 else 0) else some (if a=b then 1 else 0)
section
variable(a b:Int)(w:World)
theorem yhr:Cl 245 #[.int .i64 0, .int .i64 a, .int .i64 b] w λe w'=>e= .returned (.tuple #[.int .i64 (wrap64 (a+b)), .bool true])/\w'=w:=ysa
theorem yhs:Cl 245 #[.int .i64 1, .int .i64 a, .int .i64 b] w λe w'=>e= .returned (.tuple #[.int .i64 (wrap64 (a- b)), .bool true])/\w'=w:=ysa
theorem yht:Cl 245 #[.int .i64 2, .int .i64 a, .int .i64 b] w λe w'=>e= .returned (.tuple #[.int .i64 (wrap64 (a*b)), .bool true])/\w'=w:=ysa
theorem yd7(n:Int)(hn:n=3\/n=4):Cl 245 #[.int .i64 n, .int .i64 a, .int .i64 0] w λe w'=>e= .returned (.tuple #[.int .i64 0, .bool false])/\w'=w:=by
 rcases hn with rfl|rfl
 all_goals
  go_enter Tryz.func245,Tryz.ntmps245
  go_wp2
  go_ret2
  exact ⟨rfl,rfl⟩
theorem yhu(hb: ¬b=0):Cl 245 #[.int .i64 3, .int .i64 a, .int .i64 b] w λe w'=>e= .returned (.tuple #[.int .i64 (wrap64 (a.tdiv b)), .bool true])/\w'=w:=yto
theorem yhv(hb: ¬b=0):Cl 245 #[.int .i64 4, .int .i64 a, .int .i64 b] w λe w'=>e= .returned (.tuple #[.int .i64 (a.tmod b), .bool true])/\w'=w:=yto
theorem yhw:Cl 245 #[.int .i64 5, .int .i64 a, .int .i64 b] w λe w'=>e= .returned (.tuple #[.int .i64 (bits .and .i64 a b), .bool true])/\w'=w:=ysa
theorem yi0:Cl 245 #[.int .i64 6, .int .i64 a, .int .i64 b] w λe w'=>e= .returned (.tuple #[.int .i64 (bits .or .i64 a b), .bool true])/\w'=w:=ysa
theorem yhx:Cl 245 #[.int .i64 7, .int .i64 a, .int .i64 b] w λe w'=>e= .returned (.tuple #[.int .i64 (bits .xor .i64 a b), .bool true])/\w'=w:=ysa
theorem yhy:Cl 245 #[.int .i64 8, .int .i64 a, .int .i64 b] w λe w'=>e= .returned (.tuple #[.int .i64 (wrap64 (a*2^min (z68 b).toNat 64)), .bool true])/\w'=w:=ytt
theorem yhz:Cl 245 #[.int .i64 9, .int .i64 a, .int .i64 b] w λe w'=>e= .returned (.tuple #[.int .i64 (a / 2^min (z68 b).toNat 64), .bool true])/\w'=w:=ytt
theorem yi1:Cl 245 #[.int .i64 10, .int .i64 a, .int .i64 b] w λe w'=>e= .returned (.tuple #[.int .i64 (if a<b then 1 else 0), .bool true])/\w'=w:=by
 by_cases h:a<b
 ·rw [if_pos h]
  go_enter Tryz.func245,Tryz.ntmps245
  go_wp2
  go_ret2
  exact ⟨rfl,rfl⟩
 ·rw [if_neg h]
  go_enter Tryz.func245,Tryz.ntmps245
  go_wp2
  go_ret2
  exact ⟨rfl,rfl⟩
theorem yi2:Cl 245 #[.int .i64 11, .int .i64 a, .int .i64 b] w λe w'=>e= .returned (.tuple #[.int .i64 (if a=b then 1 else 0), .bool true])/\w'=w:=by
 by_cases h:a=b
 ·rw [if_pos h]
  have h':(a==b)=true:=by simpa using h
  go_enter Tryz.func245,Tryz.ntmps245
  go_wp2
  go_ret2
  exact ⟨rfl,rfl⟩
 ·rw [if_neg h]
  have h':(a==b)=false:=by simpa using h
  go_enter Tryz.func245,Tryz.ntmps245
  go_wp2
  go_ret2
  exact ⟨rfl,rfl⟩
theorem ycf(op:Nat)(h:op<12):Cl 245 #[.int .i64 op, .int .i64 a, .int .i64 b] w λe w'=>e= .returned (.tuple #[.int .i64 ((opV op a b).getD 0), .bool (opV op a b).isSome])/\w'=w:=by
 have hc:op=0\/op=1\/op=2\/op=3\/op=4\/op=5\/op=6\/op=7\/op=8\/op=9\/op=10\/op=11:=yue
 rcases hc with rfl|rfl|rfl|rfl|rfl|rfl|rfl|rfl|rfl|rfl|rfl|rfl
 ·exact yhr a b w
 ·exact yhs a b w
 ·exact yht a b w
 ·by_cases hb:b=0
  ·subst hb;exact yd7 a w 3 (.inl rfl)
  ·rw [show opV 3 a b=some (wrap64 (a.tdiv b)) from by simp [opV,hb]]
   exact yhu a b w hb
 ·by_cases hb:b=0
  ·subst hb;exact yd7 a w 4 (.inr rfl)
  ·rw [show opV 4 a b=some (a.tmod b) from by simp [opV,hb]]
   exact yhv a b w hb
 ·exact yhw a b w
 ·exact yi0 a b w
 ·exact yhx a b w
 ·exact yhy a b w
 ·exact yhz a b w
 ·exact yi1 a b w
 ·exact yi2 a b w
end
theorem Qa(i:Nat){oi:Oper}{v:Value}{a a':Act}
  (hi:ops[i]?=some oi:=by rfl) (hy:YieldsIf P ops S oi v a:=by exact .inl ⟨by rfl,by intro w hSw;(try dsimp only at hSw);go_simp;try (with_reducible rfl)⟩) (hS:S w:=by assumption)
  (ha:a.put oi.dst v=a':=by simp only [Act.put,List.setIfInBounds_toArray];rfl)
  (hs:Region.noSelect ops=true:=by kernel_rfl) (hf:Region.free md ops listed i=true:=by kernel_rfl) (hr:(Region.ready md ops listed).contains i=true:=by kernel_rfl) (hQ: ∀c a w,Q (.panic c) (a.put oi.dst v) w->Q (.panic c) a w:=by exact λ_ _ _ h=>h)
  (h:wpAnyH P md ops Q S fuel (listed.setIfInBounds i true) a' w):wpAnyH P md ops Q S (fuel+1) listed a w:=by
 subst ha
 exact wpAnyH_take hi hs hf hr hQ hy hS h
theorem z6u(rs:List Nat){a:Act}(h:AllReadyH P md ops Q S fuel listed a w rs)(hr:Region.ready md ops listed=rs:=by kernel_rfl)(hne:rs≠[]:=by simp):wpAnyH P md ops Q S (fuel+1) listed a w:=wpAnyH_ready hr hne h
section
variable{p:Prop}
theorem yrz(h:p:=by (try dsimp only);(first|go_keep|(refine ⟨(Qb (.inl n1)).trans ?_,(Qb (.inl n2)).trans ?_,(Qb (.inl n3)).trans ?_⟩<;>assumption))):p:=h
theorem yr3(h:p:=by (try dsimp only);(first|go_keep|exact (Qb (.inl ncb)).trans (by assumption))):p:=h
end
theorem zl6(w:World)(t ty e:TypeId)(i:TypeInfo)(z:Value)(sz bytes:Nat)(hpos:0<sz)(ht:P.underlying t=some (.slice e))(hi:P.info? e=some i)(hz:i.zero=some z)(hsize:i.size=sz)(hby:i.bytes=bytes)(hzs:z.cells.size=sz)
  (v:Value) (n:Nat) (xs:List Value) (hown:w.ownsRow 0 e sz v n xs) (ad:Addr) (us:List Value) (hus:us.length=sz) (hu: ∀j u',us[j]?=some u'->w.cell? (ad.add j)=some u') (h1: ∀u'∈us,u'.oneCell'=true) (h63:n+1<=maxLen) (hbytes:(n+1)*bytes<=140737488355328):
  ∃g cap w',(Builtin.append_ #[t,t] ty #[v, .slice (some ad) 1 1]).run P w= .ok (.slice (some ⟨g,0,none⟩) (n+1) cap) w'/\
   w'.ownsRow 0 e sz (.slice (some ⟨g,0,none⟩) (n+1) cap) (n+1) (xs++us)/\Chg (λk _=>v.ownBlock=some k) w w'/\(v.ownBlock=some g\/g=w.heap.size):=by
 obtain ⟨v',w',hr,h2,_,_⟩:=run_append_own (P:=P) w 0 t ty e i z sz bytes ht hi hz hsize hby hzs hpos v n xs hown ad 1 1 us yue hu h1 h63 hbytes (Nat.zero_le _)
 subst hby
 subst hsize
 have hlu:us.length=1*i.size:=yue
 rcases hown.2 with ⟨rfl,rfl⟩|⟨g,cap,cur,rfl,hbg,hg,hnc,hcm,hcs,htake⟩
 ·have hx:=run_append_nil (P:=P) w t ty e i z ht hi hz ad 1 1 us hlu hu yuh yuh yue
  rw [hx] at hr
  injection hr with e1 e2
  subst e1;subst e2
  exact ⟨_,_,_,hx,h2,((Chg.refl _ w).drew).alloc _, .inr rfl⟩
 ·by_cases hroom:n+1<=cap
  ·have hsq:(n+1)*i.size<=cap*i.size:=Nat.mul_le_mul_right _ hroom
   rw [Nat.add_mul] at hsq
   have hx:=run_append_room (P:=P) w t ty e i ht hi g n cap cur hg ad 1 1 us hlu hu h1 hroom (by rw [hcs];omega)
   rw [hx] at hr
   injection hr with e1 e2
   subst e1;subst e2
   refine ⟨_,_,_,hx,h2,(Chg.setRow hg ?_).mono (λk i _ e=>by simp [Value.ownBlock,e]), .inl rfl⟩
   simp only [List.size_toArray,List.length_append,List.length_take,List.length_drop,Array.length_toList]
   omega
  ·have hx:=run_append_grow (P:=P) w t ty e i z ht hi hz ⟨g,0,none⟩ n cap xs hown.1 (hown.cells (g:=g) rfl) ad 1 1 us hlu hu yue (by unfold maxLen at h63;omega) (growslice_fits yue hbytes)
   rw [hx] at hr
   injection hr with e1 e2
   subst e1;subst e2
   exact ⟨_,_,_,hx,h2,((Chg.refl _ w).drew).alloc _, .inr rfl⟩
theorem Je{o:Oper}{a:Act}{K:Act->World->Prop}{E:Prop}(hgd:o.guard=none)(s x:Operand)(t:TypeId)
  (ho:o.op= .call {callee:= .builtin .append,args:=#[s,x],argTypes:=#[t,t]})
  (e:TypeId) (i:TypeInfo) (z:Value) (sz bytes:Nat) (hpos:0<sz) (ht:P.underlying t=some (.slice e)) (hi:P.info? e=some i) (hz:i.zero=some z) (hsize:i.size=sz) (hby:i.bytes=bytes) (hzs:z.cells.size=sz)
  (v:Value) (n:Nat) (xs:List Value) (hs:a.eval s=v) (hown:w.ownsRow 0 e sz v n xs) (ad:Addr) (us:List Value) (hus:us.length=sz) (hx:a.eval x= .slice (some ad) 1 1) (hu: ∀j u',us[j]?=some u'->w.cell? (ad.add j)=some u') (hu1: ∀u'∈us,u'.oneCell'=true) (h63:n+1<=maxLen) (hbytes:(n+1)*bytes<=140737488355328)
  (h: ∀g cap w',w'.ownsRow 0 e sz (.slice (some ⟨g,0,none⟩) (n+1) cap) (n+1) (xs++us)->Chg (λk _=>v.ownBlock=some k) w w'->(v.ownBlock=some g\/g=w.heap.size)->K (a.put o.dst (.slice (some ⟨g,0,none⟩) (n+1) cap)) w'):
  if Region.wanted o (yielded ops a.tmps)=true then Oper.wp P o a w K Q else E:=by
 have hw:Region.wanted o (yielded ops a.tmps)=true:=by simp [Region.wanted,hgd]
 rw [if_pos hw]
 obtain ⟨g,cap,w',hr,h2,h3,h4⟩:=zl6 (P:=P) w t o.type e i z sz bytes hpos ht hi hz hsize hby hzs v n xs hown ad us hus hu hu1 h63 hbytes
 unfold Oper.wp execOp
 simp only [ho,resolve,invoke,builtin,Sem.run_bind,Sem.run_pure,Result.andThen_ok,List.map_toArray,List.map_cons,List.map_nil,hs,hx,hr]
 exact h g cap w' h2 h3 h4
end Go.Proofs.YtkenoofmkbghiaaGreatDoor
