import Derived.Test.YtkenoofmkbghiaaGreatDoorB28
import Derived.Deep.RegionHeld
set_option maxRecDepth 100000
set_option maxHeartbeats 4000000
namespace Go.Proofs.YtkenoofmkbghiaaGreatDoor
open Go.RowKit
variable{B c i j p:Nat}{W W' X Y w:World}{es:List En}{st:RS}{a:Act}{k:Bk}{l:List Bool}{s:ByteArray}
open Go.RowKit Go.Shelf
attribute [local go_sem] Oper.semAt_some
abbrev EnP(P:En->Prop):={e:En // P e}
section
variable{hs:List Hd}{ms:List HM}{W0:World}{P:En->Prop}
theorem zea(hP: ∀e,P e->enG hs 3 e)(n l n₀ N:Nat){rv:Value}(hA0:Ar hs ms W0)(hn₀:W0.heap.size<=n₀)(hrow:W0.ownsRow 0 153 1 rv es.length (es.map (enV (Qu ms))))(h14:es.length<=14)(hes:Hid (∀e∈es,P e))(J Jx:List (EnP P)->World->Prop)
  (hY:Hid (∀m pre (x:EnP P) W,J pre W->Below W0.heap.size W0 W->pre.length<N->YieldAt Fence.wide m Tryz.prog l #[enV (Qu ms) x.1] W λe W'=>(e= .returned (.bool true)/\J (pre++[x]) W'/\Below n₀ W W')\/(e= .returned (.bool false)/\Jx (pre++[x]) W')))
  (sub:En->List En)
  (RK:Hid (∀m pre W,J pre W->Below W0.heap.size W0 W->∀e∈es,pre.length+(sub e).length<=N->CallsIn Fence.wide m Tryz.prog 99 #[wiV ms e, .func (.yield l) #[] #[]] W λe' W'=>(e'= .returned (.bool true)/\(∃ys:List (EnP P),ys.map (·.1)=sub e/\J (pre++ys) W')/\Below n₀ W W')\/(e'= .returned (.bool false)/\ ∃q:List (EnP P),q.map (·.1)<+:sub e/\Jx (pre++q) W')))
  (pre:List (EnP P)) (W:World) (hJ:J pre W) (hW:Below W0.heap.size W0 W) (hN:pre.length+(es.flatMap λe=>e::sub e).length<=N):
  CallsIn Fence.wide n Tryz.prog 99 #[rv, .func (.yield l) #[] #[]] W λe W'=>(e= .returned (.bool true)/\(∃ys:List (EnP P),ys.map (·.1)=(es.flatMap λe=>e::sub e)/\J (pre++ys) W')/\Below n₀ W W')\/(e= .returned (.bool false)/\ ∃q:List (EnP P),q.map (·.1)<+:(es.flatMap λe=>e::sub e)/\Jx (pre++q) W'):=by
 obtain ⟨ra,rk,hrv⟩: ∃a k,rv= .slice a es.length k:=ysp
 subst hrv
 have HC:Hid (∀k (hk:k<es.length),∃g,ra=some ⟨g,0,none⟩/\es.length<=rk/\g<W0.heap.size/\W0.cell? ⟨g,k,none⟩=some (enV (Qu ms) es[k])):=yr5
 have HSN:Hid (∀k (hk:k<es.length),((es.take (k+1)).flatMap λe=>e::sub e)=((es.take k).flatMap λe=>e::sub e)++(es[k]::sub es[k])):=yst
 have HPF:Hid (∀k,∃r,(es.flatMap λe=>e::sub e)=((es.take k).flatMap λe=>e::sub e)++r):=yts
 have HA:=hid hA0
 clear hrow hA0
 refine callsIn_of_wp Tryz.func99 rfl trivial ?_ rfl
 simp only [Tryz.ntmps99,List.size_toArray,List.length_cons,List.length_nil,Nat.reduceAdd,Nat.reduceSub,Array.replicate_succ,Array.replicate_zero,List.push_toArray,List.append_toArray,List.nil_append,List.cons_append]
 have hw: ∀f,Fence.wide.fn f:=λ_=>trivial
 have hdd: ∀k:Nat,(Fence.wide.depth.isSome=true->1<=k):=λk h=>by cases h
 have HJ0:=hid hJ
 have HW0:=hid hW
 have HN:=hid hN
 clear hJ hW hN
 gi_wp2
 gi_loopw [9] (λi wr=>∃k:Nat,k<=es.length/\i= .int .i64 k/\Hid (∃ys:List (EnP P),ys.map (·.1)=((es.take k).flatMap λe=>e::sub e)/\J (pre++ys) wr)/\Hid (Below n₀ W wr))
  (λi _=>es.length- (intOf i).toNat)
 case atStart=>exact ⟨0,Nat.zero_le _,rfl,⟨[],by simp,by simpa using HJ0.out⟩,Below.refl _ _⟩
 case round=>
  obtain ⟨k,hk,rfl,hys,hB⟩:=hrel
  by_cases hlt:k<es.length
  ·have hlt':(k:Int)<(es.length:Int):=by omega
   obtain ⟨g,hra,hrk,hg,hcell⟩:=HC.out k hlt
   subst hra
   obtain ⟨ys,hy1,hJ1⟩:=hys.out
   have hWr:Below W0.heap.size W0 wr:=HW0.out.trans (hB.out.mono hn₀)
   have hcell':wr.cell? ⟨g,k,none⟩=some (enV (Qu ms) es[k]):=(hWr.cell (p:=⟨g,k,none⟩) hg).trans hcell
   have hmem:es[k]∈es:=List.getElem_mem hlt
   have hlen:ys.length=((es.take k).flatMap λe=>e::sub e).length:=by rw [<-hy1];simp
   obtain ⟨rest,hrest⟩:=HPF.out (k+1)
   have hsn:=HSN.out k hlt
   have hN1:pre.length+ys.length+1+(sub es[k]).length<=N:=yt3
   obtain ⟨X,hX⟩: ∃X:EnP P,X.1=es[k]:=⟨⟨es[k],hes.out _ hmem⟩,rfl⟩
   obtain ⟨fn,tmps,assign,body,hy,hR⟩:=hY.out (n- 1) (pre++ys) X wr hJ1 hWr yuj
   rw [hX] at hy
   have hR':=hR.mono (R':=λe W'=>(e= .returned (.bool true)/\Hid (J (pre++ys++[X]) W'/\Below n₀ wr W'))\/(e= .returned (.bool false)/\Hid (Jx (pre++ys++[X]) W'))) (λe W' h=>h.elim (λh=> .inl ⟨h.1,hid h.2⟩) (λh=> .inr ⟨h.1,hid h.2⟩))
   have KW:=hid (λw1 (h1:Below W0.heap.size W0 w1)=>(callsIn_wide (n:=n- 1)).2 (yka (HA.out.below h1) (hP _ (hes.out _ hmem))))
   have KR:=hid (λW3 (h1:J (pre++ys++[X]) W3) (h2:Below W0.heap.size W0 W3)=>RK.out (n- 1) (pre++ys++[X]) W3 h1 h2 es[k] hmem yuj)
   have HWr:=hid hWr
   have HS:Hid (∀zs:List (EnP P),zs.map (·.1)=sub es[k]->(ys++[X]++zs).map (·.1)=((es.take (k+1)).flatMap λe=>e::sub e)):=by
    intro zs hz
    rw [hsn,List.map_append,List.map_append,hy1,hz]
    simp [hX]
   have HP:Hid (∀q:List (EnP P),q.map (·.1)<+:sub es[k]->(ys++[X]++q).map (·.1)<+:(es.flatMap λe=>e::sub e)):=yti
   clear hcell hR hWr hJ1 hsn hrest hN1 hlen hy1 hys HJ0 HN
   generalize enV (Qu ms) es[k]=v at*
   generalize wiV ms es[k]=wv at*
   generalize sub es[k]=sk at*
   gi_wp2_with (first
    |((try refine ⟨hdd _,?_⟩);refine hR'.mono ?_;clear hR';rintro e W3 (⟨rfl,hJ3⟩|⟨rfl,hJx3⟩))
    |((try refine ⟨hdd _,?_⟩);gi_at_call 129;refine (KW.out _ (HWr.out.trans (hJ3.out.2.mono hn₀))).mono ?_;clear KW;rintro e w' ⟨rfl,rfl⟩)
    |((try refine ⟨hdd _,?_⟩);gi_at_call 99;refine (KR.out _ hJ3.out.1 (HWr.out.trans (hJ3.out.2.mono hn₀))).mono ?_;clear KR;rintro e W4 (⟨rfl,hq⟩|⟨rfl,hq⟩)))
   ·exact yss
   ·exact ytk
   ·exact ytv
  ·have hlt': ¬(k:Int)<(es.length:Int):=by omega
   have hke:k=es.length:=yue
   subst hke
   obtain ⟨ys,hy1,hJ1⟩:=hys.out
   rw [List.take_length] at hy1
   have HY:=hid hy1
   have HJ1:=hid hJ1
   clear hy1 hJ1 hys HJ0 HN
   gi_wp2
   go_ret
   exact .inl ⟨rfl,⟨ys,HY.out,HJ1.out⟩,hB.out⟩
def zkr(P:En->Prop)(ms:List HM)(W0:World)(n₀ N l:Nat)(J Jx:List (EnP P)->World->Prop):Prop:=
 ∀m pre (x:EnP P) W,J pre W->Below W0.heap.size W0 W->pre.length<N->YieldAt Fence.wide m Tryz.prog l #[enV (Qu ms) x.1] W λe W'=>(e= .returned (.bool true)/\J (pre++[x]) W'/\Below n₀ W W')\/(e= .returned (.bool false)/\Jx (pre++[x]) W')
theorem zh9(hP: ∀e,P e->enG hs 3 e)(n l n₀ N:Nat)(hA0:Ar hs ms W0)(hn₀:W0.heap.size<=n₀)(J Jx:List (EnP P)->World->Prop)(hY:Hid (zkr P ms W0 n₀ N l J Jx))(pre:List (EnP P))(W:World)(hJ:J pre W)(hW:Below W0.heap.size W0 W)(hN:pre.length<=N):
  CallsIn Fence.wide n Tryz.prog 99 #[.slice none 0 0, .func (.yield l) #[] #[]] W λe W'=>(e= .returned (.bool true)/\(∃ys:List (EnP P),ys.map (·.1)=[]/\J (pre++ys) W')/\Below n₀ W W')\/(e= .returned (.bool false)/\ ∃q:List (EnP P),q.map (·.1)<+:[]/\Jx (pre++q) W'):=
 zea hP n l n₀ N (es:=[]) hA0 hn₀ (zka W0) yuf (hid λe he=>by simp at he) J Jx hY (λ_=>[]) (hid λ_ _ _ _ _ e he=>by simp at he) pre W hJ hW (by simpa using hN)
theorem zmw(hP: ∀e,P e->enG hs 3 e)(hcl: ∀j x,P (.inr j)->hs[j]?=some x->∀e∈x.ents,P e)(l n₀ N:Nat)(hA0:Ar hs ms W0)(hn₀:W0.heap.size<=n₀)(J Jx:List (EnP P)->World->Prop)(hY:Hid (zkr P ms W0 n₀ N l J Jx)): ∀f,f<=3->∀(n:Nat) (rv:Value) (es:List En),W0.ownsRow 0 153 1 rv es.length (es.map (enV (Qu ms)))->es.length<=14->(∀e∈es,enG hs f e)->(∀e∈es,P e)->∀(pre:List (EnP P)) (W:World),J pre W->Below W0.heap.size W0 W->pre.length+(Jf hs f es).length<=N ->
  CallsIn Fence.wide n Tryz.prog 99 #[rv, .func (.yield l) #[] #[]] W λe W'=>(e= .returned (.bool true)/\(∃ys:List (EnP P),ys.map (·.1)=Jf hs f es/\J (pre++ys) W')/\Below n₀ W W')\/(e= .returned (.bool false)/\ ∃q:List (EnP P),q.map (·.1)<+:Jf hs f es/\Jx (pre++q) W')
 |0,_,n,rv,es,hrow,h14,hes,hpe,pre,W,hJ,hW,hN=>by
  have e0:(es.flatMap λe=>e::(λ_:En=>([]:List En)) e)=Jf hs 0 es:=by simp [Jf]
  rw [<-e0] at hN⊢
  refine zea hP n l n₀ N hA0 hn₀ hrow h14 (hid hpe) J Jx hY (λ_=>[]) (hid λm pre W hJ hW e he hl=>?_) pre W hJ hW hN
  obtain ⟨s,rfl,hh⟩:=hes e he
  exact zh9 hP m l n₀ N hA0 hn₀ J Jx hY pre W hJ hW (by simpa using hl)
 |f+1,hf,n,rv,es,hrow,h14,hes,hpe,pre,W,hJ,hW,hN=>by
  have e0:(es.flatMap λe=>e::(λe:En=>Jf hs f (Jb hs e)) e)=Jf hs (f+1) es:=rfl
  rw [<-e0] at hN⊢
  refine zea hP n l n₀ N hA0 hn₀ hrow h14 (hid hpe) J Jx hY (λe=>Jf hs f (Jb hs e)) (hid λm pre W hJ hW e he hl=>?_) pre W hJ hW hN
  rcases hes e he with ⟨s,rfl,hh⟩|⟨j,x,s,rfl,hj,hk,hh,ht,hl2,hsub⟩
  ·have e1:Jf hs f (Jb hs (.inl s))=[]:=zax f
   simp only [e1]
   exact zh9 hP m l n₀ N hA0 hn₀ J Jx hY pre W hJ hW yue
  ·obtain ⟨hl3,e1⟩:=hA0.at hj
   have hw:wiV ms (.inr j)=ms[j].rv:=by simp [wiV,List.getElem?_eq_getElem hl3]
   have e2:Jb hs (.inr j)=x.ents:=yvg
   simp only [e2] at hl⊢
   rw [hw]
   have hr:=(hA0.hd j hl3).row
   rw [e1] at hr
   exact zmw hP hcl l n₀ N hA0 hn₀ J Jx hY f yue m _ _ hr hl2 hsub (hcl j x (hpe _ he) hj) pre W hJ hW hl
theorem zw1(hP: ∀e,P e->enG hs 3 e)(hcl: ∀j x,P (.inr j)->hs[j]?=some x->∀e∈x.ents,P e)(n l n₀ Bt:Nat){a:Option Addr}(hA0:Ar hs ms W0)(hn₀:W0.heap.size<=n₀)(hrow:W0.ownsRow 0 153 1 (.slice a p c) es.length (es.map (enV (Qu ms))))(h14:es.length<=14)(hes: ∀e∈es,P e)(J Jx:List (EnP P)->World->Prop)
  (hY:Hid (zkr P ms W0 n₀ (Jf hs 3 es).length l J Jx)) (W:World) (hW:Below W0.heap.size W0 W) (hBt:W.cell? ⟨Bt,0,none⟩=some (.slice a p c)) (h0:J [] W):
  CallsIn Fence.wide n Tryz.prog 98 #[.func (.yield l) #[] #[], .pointer (some ⟨Bt,0,none⟩)] W λe W'=>(∃v,e= .returned v)/\((∃ys:List (EnP P),ys.map (·.1)=Jf hs 3 es/\J ys W')\/(∃pre:List (EnP P),pre.map (·.1)<+:Jf hs 3 es/\Jx pre W')):=by
 have hdd: ∀k:Nat,(Fence.wide.depth.isSome=true->1<=k):=λk h=>by cases h
 have hw: ∀f,Fence.wide.fn f:=λ_=>trivial
 have hp:=hid (zmw hP hcl l n₀ (Jf hs 3 es).length hA0 hn₀ J Jx hY 3 yue (n- 1) (.slice a p c) es hrow h14 (λe he=>hP e (hes e he)) hes [] W h0 hW yuf)
 clear hrow hes hA0 h0
 refine callsIn_of_wp Tryz.func98 rfl trivial ?_ rfl
 simp only [Tryz.ntmps98,List.size_toArray,List.length_cons,List.length_nil,Nat.reduceAdd,Nat.reduceSub,Array.replicate_succ,Array.replicate_zero,List.push_toArray,List.append_toArray,List.nil_append,List.cons_append]
 gi_wp2_with ((try refine ⟨hdd _,?_⟩);gi_at_call 99;refine hp.out.mono ?_;clear hp;rintro e W1 (⟨rfl,hJ1⟩|⟨rfl,hx⟩))
 ·exact ytu
 ·exact yt9
theorem zoy(hP: ∀e,P e->enG hs 3 e)(hcl: ∀j x,P (.inr j)->hs[j]?=some x->∀e∈x.ents,P e)(n Bt:Nat){a:Option Addr}(w W2:World)(hA:Ar hs ms w)(hrow:w.ownsRow 0 153 1 (.slice a p c) es.length (es.map (enV (Qu ms))))(h14:es.length<=14)(hes: ∀e∈es,P e)(hb:Below w.heap.size w W2)(hBt:W2.cell? ⟨Bt,0,none⟩=some (.slice a p c)):
  SeqStopsK Fence.wide n Tryz.prog 98 #[.pointer (some ⟨Bt,0,none⟩)] (λx:EnP P=>#[enV (Qu ms) x.1]) (Below w.heap.size) (λys=>ys.map (·.1)=Jf hs 3 es) (λpre=>pre.map (·.1)<+:Jf hs 3 es) (Jf hs 3 es).length W2:=λl J Jx W hW _ _ hY h0=>
 zw1 hP hcl n l w.heap.size Bt hA (Nat.le_refl _) hrow h14 hes J Jx (hid λm pre x W' hJ _ hl=>zh0 m (hY pre x W' hJ hl)) W (hb.trans (hW.mono hb.size)) ((hW.cell (p:=⟨Bt,0,none⟩) (blt hBt)).trans hBt) h0
end
open Go.RowKit Go.Shelf
theorem zia{b:Nat}(e:Y.heap[b]?=X.heap[b]?)(o:Nat):Y.cell? ⟨b,o,none⟩=X.cell? ⟨b,o,none⟩:=by
 unfold World.cell?
 simp only [e]
section
variable{X Y:World}{b:Nat}{k:Bk}
theorem NewBk.keep(h:NewBk X b k)(hc: ∀o,Y.cell? ⟨b,o,none⟩=X.cell? ⟨b,o,none⟩)(hf: ∀o,Y.frozen? ⟨b,o,none⟩=X.frozen? ⟨b,o,none⟩)(hs:Y.shape? b=X.shape? b):NewBk Y b k where
 sh:=hs.trans h.sh
 cs:=⟨λi v hv=>(hc _).trans (h.cs.g i v hv),λi v hv=>(hc _).trans (h.cs.p i v hv),λi v hv=>(hc _).trans (h.cs.ch i v hv),(hc _).trans h.cs.gv,(hc _).trans h.cs.ag,h.cs.n1,h.cs.n2,h.cs.n3⟩
 un:=(hc _).trans h.un
 free:=λj=>(hf j).trans (h.free j)
 u:=h.u
theorem NewBk.heap(h:NewBk X b k)(e:Y.heap[b]?=X.heap[b]?):NewBk Y b k:=
 h.keep (zia e) (λo=>by unfold World.frozen?;simp only [e]) (by unfold World.shape?;simp only [e])
theorem NewBk.lt(h:NewBk X b k):b<X.heap.size:=Qd h.sh
theorem NewBk.below(h:NewBk X b k)(hb:Below X.heap.size X Y):NewBk Y b k:=h.heap (hb.block b h.lt)
theorem NewBk.chg(h:NewBk X b k)(hi:i<4):NewBk (X.setCell ⟨b,12+i,none⟩ (.bool true)) b {k with chgs:=k.chgs.set i true} where
 sh:=(Ui _ _ _ _).trans h.sh
 cs:={
  g:=λj v hv=>by
   have hj:j<k.gets.length:=(List.getElem?_eq_some_iff.1 hv).1
   have:=h.cs.n1
   exact (Qb (.inr yue)).trans (h.cs.g j v hv)
  p:=λj v hv=>by
   have hj:j<k.puts.length:=(List.getElem?_eq_some_iff.1 hv).1
   have:=h.cs.n2
   exact (Qb (.inr yue)).trans (h.cs.p j v hv)
  ch:=λj v hv=>by
   have n3:=h.cs.n3
   by_cases e:j=i
   ·subst e
    have hv':(k.chgs.set j true)[j]?=some v:=hv
    rw [List.getElem?_set_self yue] at hv'
    cases hv'
    exact Qg (h.cs.ch j _ (List.getElem?_eq_getElem yue)) rfl
   ·have hv':(k.chgs.set i true)[j]?=some v:=hv
    rw [List.getElem?_set_ne (λq=>e q.symm)] at hv'
    exact (Qb (.inr yue)).trans (h.cs.ch j v hv')
  gv:=(Qb (.inr yue)).trans h.cs.gv
  ag:=(Qb (.inr yue)).trans h.cs.ag
  n1:=h.cs.n1,n2:=h.cs.n2,n3:=by show (k.chgs.set i true).length=4;rw [List.length_set];exact h.cs.n3}
 un:=(Qb (.inr yue)).trans h.un
 free:=λj=>(World.frozen?_setCell _ _ _ _).trans (h.free j)
 u:=h.u
theorem NewBk.give(h:NewBk X b k):NewBk (X.setCell ⟨b,16,none⟩ (.bool true)) b {k with gives:=true} where
 sh:=(Ui _ _ _ _).trans h.sh
 cs:={
  g:=λj v hv=>by
   have hj:j<k.gets.length:=(List.getElem?_eq_some_iff.1 hv).1
   have:=h.cs.n1
   exact (Qb (.inr yue)).trans (h.cs.g j v hv)
  p:=λj v hv=>by
   have hj:j<k.puts.length:=(List.getElem?_eq_some_iff.1 hv).1
   have:=h.cs.n2
   exact (Qb (.inr yue)).trans (h.cs.p j v hv)
  ch:=λj v hv=>by
   have hj:j<k.chgs.length:=(List.getElem?_eq_some_iff.1 hv).1
   have:=h.cs.n3
   exact (Qb (.inr yue)).trans (h.cs.ch j v hv)
  gv:=Qg h.cs.gv rfl
  ag:=(Qb (.inr yue)).trans h.cs.ag
  n1:=h.cs.n1,n2:=h.cs.n2,n3:=h.cs.n3}
 un:=(Qb (.inr yue)).trans h.un
 free:=λj=>(World.frozen?_setCell _ _ _ _).trans (h.free j)
 u:=h.u
theorem NewBk.mg(h:NewBk X b k)(hl:l.length=6)(hm:MarksAt Y b 0 l)(hc:Chg (λk j=>k=b/\0<=j/\j<0+6) X Y):NewBk Y b {k with gets:=l}:=by
 have lb:=h.lt
 have kc: ∀o,6<=o->Y.cell? ⟨b,o,none⟩=X.cell? ⟨b,o,none⟩:=λo ho=>hc.cell b o lb (λe=>by omega)
 exact {
  sh:=(hc.shape b lb).trans h.sh
  cs:=⟨λi v hv=>by have q:=hm i v hv;rw [Nat.zero_add] at q;exact q,λi v hv=>(kc _ yue).trans (h.cs.p i v hv),λi v hv=>(kc _ yue).trans (h.cs.ch i v hv),(kc _ yue).trans h.cs.gv,(kc _ yue).trans h.cs.ag,hl,h.cs.n2,h.cs.n3⟩
  un:=(kc _ yue).trans h.un
  free:=λj=>(hc.frozen b j lb).trans (h.free j)
  u:=h.u}
theorem NewBk.mp(h:NewBk X b k)(hl:l.length=6)(hm:MarksAt Y b 6 l)(hc:Chg (λk j=>k=b/\6<=j/\j<6+6) X Y):NewBk Y b {k with puts:=l}:=by
 have lb:=h.lt
 have kc: ∀o,¬(6<=o/\o<12)->Y.cell? ⟨b,o,none⟩=X.cell? ⟨b,o,none⟩:=λo ho=>hc.cell b o lb (λe=>by omega)
 exact {
  sh:=(hc.shape b lb).trans h.sh
  cs:=⟨λi v hv=>by
    have hj:i<k.gets.length:=(List.getElem?_eq_some_iff.1 hv).1
    have:=h.cs.n1
    exact (kc _ yue).trans (h.cs.g i v hv),hm,λi v hv=>(kc _ yue).trans (h.cs.ch i v hv),(kc _ yue).trans h.cs.gv,(kc _ yue).trans h.cs.ag,h.cs.n1,hl,h.cs.n3⟩
  un:=(kc _ yue).trans h.un
  free:=λj=>(hc.frozen b j lb).trans (h.free j)
  u:=h.u}
theorem NewBk.marksG(h:NewBk X b k):MarksAt X b 0 k.gets:=λi v hv=>by rw [Nat.zero_add];exact h.cs.g i v hv
theorem NewBk.marksP(h:NewBk X b k):MarksAt X b 6 k.puts:=λi v hv=>h.cs.p i v hv
end
theorem zmx(l:List Bool)(f n:Nat):zvh l ((f:Int),(n:Int))=Sw l f n:=rfl
theorem zst{M:Nat->Nat->Prop}(hc:Chg M X Y)(hM: ∀k i,M k i->k<B):KeepsFrom B X Y:=
 ⟨hc.size,λk o hB hk _=>(hc.block k (Array.getElem?_eq_some_iff.1 hk).1 (λi e=>by have:=hM k i e;omega)).trans hk⟩
section
variable{W w:World}{x:Cx}{K:List (Nat×Nat×Value)}{c:Nat}{s:Ck}{hs:List Hd}{ms:List HM}
theorem zks(x:Cx)(h:x.loc.length<=4)(u:ByteArray):x.locI u<4:=by
 unfold Cx.locI
 cases hf:x.loc.findIdx? λy=>decide (y=u) with
 |none=>simp
 |some k=>
  have:=(List.findIdx?_eq_some_iff_findIdx_eq.1 hf).1
  simp
  omega
theorem zib{x:Cx}{b:Bool}{st:St}(h:x.leafOk b st):Qf st=false:=by
 rcases st with ⟨to,a⟩|⟨to,o,a,c⟩|⟨to,f,a⟩|⟨f,a,c⟩|a|⟨⟩|a|n
 ·rfl
 ·rfl
 ·rfl
 ·rfl
 ·rfl
 ·exact h.elim
 ·exact h.elim
 ·exact h.elim
theorem zw2(hs:List Hd)(x:Cx): ∀(f:Nat) (b:Bool) (e:En),enW hs x f b e->enG hs f e
 |0,b, .inl st,h=>⟨st,rfl,zib h⟩
 |0,_, .inr _,h=>h.elim
 |f+1,b, .inl st,h=> .inl ⟨st,rfl,zib h⟩
 |f+1,b, .inr j,h=>by
  obtain ⟨es,h14,h⟩:=h
  rcases h with ⟨hj,_,he⟩|⟨a,hj,_,he⟩|⟨n,hj,hn,he⟩
  ·exact .inr ⟨j,_,_,rfl,hj,rfl,rfl,⟨by decide,by decide⟩,h14,λe he'=>zw2 hs x f true e (he e he')⟩
  ·exact .inr ⟨j,_,_,rfl,hj,rfl,rfl,⟨(by decide:(1:Int)<=1),(by decide:(1:Int)<=4)⟩,h14,λe he'=>zw2 hs x f b e (he e he')⟩
  ·exact .inr ⟨j,_,_,rfl,hj,rfl,rfl,hn,h14,λe he'=>zw2 hs x f b e (he e he')⟩
def zy4(hs:List Hd)(x:Cx)(e:En):Prop:=enG hs 3 e/\ ∃g,enW hs x g true e
theorem zw3{y:Hd}(h:zy4 hs x (.inr j))(hj:hs[j]?=some y): ∀e∈y.ents,zy4 hs x e:=by
 obtain ⟨h1,g,h2⟩:=h
 intro e he
 constructor
 ·rcases h1 with ⟨s,h,_⟩|⟨j',y',s,h,hj',_,_,_,_,hsub⟩
  ·cases h
  ·cases h
   rw [hj] at hj'
   cases hj'
   exact Gt 2 e (hsub e he)
 ·cases g with
  |zero=>exact h2.elim
  |succ g=>
   obtain ⟨es',_,h0⟩:=h2
   rcases h0 with ⟨_,hf,_⟩|⟨a,hj',_,he'⟩|⟨n,hj',_,he'⟩
   ·cases hf
   ·rw [hj] at hj'
    cases hj'
    exact ⟨g,he' e he⟩
   ·rw [hj] at hj'
    cases hj'
    exact ⟨g,he' e he⟩
end
section
variable{P:Program}{ops:Array Oper}{Q:Exit->Act->World->Prop}{l n:Nat}
theorem zoz{o:Oper}{next:Act->World->Prop}{r:Result Next}(h:o.upon P a next Q r):o.uponIn (Fence.wide.inRound l) n P a next Q r:=by
 cases r with
 |ok nx w'=>
  cases nx with
  |value v=>exact h
  |skip=>exact h
  |defer d=>exact h
  |enter f args=>exact ⟨(λe=>by cases e),CallsIn.inRound l ((callsIn_wide (n:=n- 1)).2 h)⟩
  |row row args=>exact ⟨(λe=>by cases e),λc cs _=>let ⟨v,w'',q,s⟩:=h c cs;⟨v,w'',q,stepsIn_wide.2 s⟩⟩
  |_=>exact h.elim
 |halt x w'=>
  cases x with
  |panic v=>exact h
  |_=>exact h.elim
theorem zo0(hd: ∀o∈ops.toList,∀c,o.op≠ .defer c)(hq: ¬LetsOut Q){K:Act->World->Prop}(h:wpOp P ops Q i K a w):wpOpIn (Fence.wide.inRound l) n P ops Q i K a w:=by
 unfold wpOp at h
 unfold wpOpIn
 cases ho:ops[i]? with
 |none=>rw [ho] at h;exact h
 |some o=>
  rw [ho] at h
  simp only at h⊢
  have hm:o∈ops.toList:=by
   have:=Array.mem_of_getElem? ho
   simpa using this
  split at h
  ·rename_i hw
   rw [if_pos hw]
   rcases h with h|⟨_,h⟩
   ·refine ⟨λ_ _=>trivial,?_⟩
    rw [show (Fence.wide.inRound l).round=some l from rfl,Oper.semAt_some l _ _ (hd o hm)]
    exact zoz h
   ·exact absurd h hq
  ·rename_i hw
   rw [if_neg hw]
   exact ⟨λ_ _=>trivial,h⟩
theorem zeb(hd: ∀o∈ops.toList,∀c,o.op≠ .defer c)(hq: ¬LetsOut Q){md:Region.Mode}: ∀(fuel:Nat) (listed:Array Bool) (a:Act) (w:World),wpAny P md ops Q fuel listed a w->wpAnyIn (Fence.wide.inRound l) n P md ops Q fuel listed a w
 |0,_,_,_,h=>h
 |fuel+1,_,_,_,h=>⟨h.1,λi hi=>wpOpIn_mono (λa' w' h'=>zeb hd hq fuel _ a' w' h') (zo0 hd hq (h.2 i hi))⟩
theorem Xv{S:World->Prop}{id:Nat}(hm:P.follows .mixedOrders=true)(hd: ∀o∈ops.toList,∀c,o.op≠ .defer c)(hq: ¬LetsOut Q)(hS:S w.drew)
  (h:S w.drew->wpAnyH P .any ops Q S ops.size (Array.replicate ops.size false) a w.drew):(Code.region id ops true).wpIn (Fence.wide.inRound l) n P Q a w:=
 wpIn_region_any hm (zeb hd hq _ _ _ _ (wpAny_of_held _ _ _ _ (h hS)))
end
open Go.RowKit Go.Shelf
attribute [local go_sem] Oper.semAt_some Ih Ep Ii Ij Gk Ua Zz Ub Uc Yf Gm Yg Xr Il Gn Im Ud Gp Gq Gr Gs Yh Xs Xt Yo Uv Yl Yv Yw Zm Ss Uw Eb Ec Ux Ee Xl Uk Ul Yx
section
variable{W w:World}{x:Cx}{K:List (Nat×Nat×Value)}{c:Nat}{s:Ck}{hs:List Hd}{ms:List HM}
abbrev nbO:Obj:= .cells #[.bool false, .bool false, .bool false, .bool false, .bool false, .bool false, .bool false, .bool false, .bool false, .bool false, .bool false, .bool false, .bool false, .bool false, .bool false, .bool false, .bool false, .int .i64 0, .slice none 0 0] 286
theorem z5t: ∀(i:Nat),i<17->(#[.bool false, .bool false, .bool false, .bool false, .bool false, .bool false, .bool false, .bool false, .bool false, .bool false, .bool false, .bool false, .bool false, .bool false, .bool false, .bool false, .bool false, .int .i64 0, .slice none 0 0]:Array Value)[i]?=some (.bool false)
 |0,_=>rfl
 |1,_=>rfl
 |2,_=>rfl
 |3,_=>rfl
 |4,_=>rfl
 |5,_=>rfl
 |6,_=>rfl
 |7,_=>rfl
 |8,_=>rfl
 |9,_=>rfl
 |10,_=>rfl
 |11,_=>rfl
 |12,_=>rfl
 |13,_=>rfl
 |14,_=>rfl
 |15,_=>rfl
 |16,_=>rfl
 |n+17,h=>by omega
theorem zmy(w:World)(o:Obj):(w.alloc o).heap[w.heap.size]?=some o:=yvv
theorem zkt(X:World): ∀i,i<17->(X.alloc nbO).cell? ⟨X.heap.size,i,none⟩=some (.bool false):=λi hi=>(World.cell?_alloc_new _ _ _ i).trans (z5t i hi)
theorem z0x(X:World):NewBk (X.alloc nbO) X.heap.size bk0 where
 sh:=by unfold World.shape?;rw [zmy];rfl
 cs:={
  g:=λi v hv=>by
   have hv':(List.replicate 6 false)[i]?=some v:=hv
   rw [List.getElem?_replicate] at hv'
   split at hv'
   ·simp at hv'
    subst hv'
    exact zkt X i yue
   ·simp at hv'
  p:=λi v hv=>by
   have hv':(List.replicate 6 false)[i]?=some v:=hv
   rw [List.getElem?_replicate] at hv'
   split at hv'
   ·simp at hv'
    subst hv'
    exact zkt X (6+i) yue
   ·simp at hv'
  ch:=λi v hv=>by
   have hv':(List.replicate 4 false)[i]?=some v:=hv
   rw [List.getElem?_replicate] at hv'
   split at hv'
   ·simp at hv'
    subst hv'
    exact zkt X (12+i) yue
   ·simp at hv'
  gv:=World.cell?_alloc_new _ _ _ 16
  ag:=World.cell?_alloc_new _ _ _ 17
  n1:=rfl,n2:=rfl,n3:=rfl}
 un:=World.cell?_alloc_new _ _ _ 18
 free:=λj=>by unfold World.frozen?;rw [zmy];simp
 u:=rfl
abbrev NbI(w:World)(c:Nat)(k:Bk)(Z:World):Prop:=(NewBk Z (w.heap.size+1) k/\(Boxed Z w.heap.size 105 (ptr c)/\Boxed Z (w.heap.size+1+1) 115 (.pointer (some ⟨w.heap.size+1,0,none⟩))))/\Below w.heap.size w Z
theorem NbI.step{Z:World}{k':Bk}(h:NbI w c k W')(bY:Below W'.heap.size W' Y)(hc:Chg (λq _=>q=w.heap.size+1) Y Z)(hn:NewBk Z (w.heap.size+1) k')(hB:w.heap.size+4<=B):KeepsFrom B W' Z/\Below w.heap.size W' Z/\NbI w c k' Z:=by
 have hall:Chg (λq _=>q=w.heap.size+1) W' Z:=(Chg.of_below bY).trans hc
 have hbel:Below w.heap.size W' Z:=hall.below h.2.size (λk i e=>by omega)
 exact ⟨zst hall (λk i e=>by omega),hbel,⟨hn,(hall.block _ h.1.2.1.lt (λ_ e=>by omega)).trans h.1.2.1,(hall.block _ h.1.2.2.lt (λ_ e=>by omega)).trans h.1.2.2⟩,h.2.trans hbel⟩
theorem NbI.chg(h:NbI w c k W')(bY:Below W'.heap.size W' Y)(hi:i<4)(hB:w.heap.size+4<=B):KeepsFrom B W' (Y.drew.setCell ⟨w.heap.size+1,12+i,none⟩ (.bool true))/\Below w.heap.size W' (Y.drew.setCell ⟨w.heap.size+1,12+i,none⟩ (.bool true))/\NbI w c {k with chgs:=k.chgs.set i true} (Y.drew.setCell ⟨w.heap.size+1,12+i,none⟩ (.bool true)):=by
 have bd:Below W'.heap.size W' Y.drew:=bY.trans ⟨rfl,rfl,rfl,Nat.le_refl _,λ_ _=>rfl⟩
 exact h.step bd ((Chg.refl (λq _=>q=w.heap.size+1) Y.drew).setCell (b:=w.heap.size+1) (o:=12+i) (λ_=>rfl) _) ((h.1.1.below bd).chg hi) hB
theorem NbI.give(h:NbI w c k W')(bY:Below W'.heap.size W' Y)(hB:w.heap.size+4<=B):KeepsFrom B W' (Y.setCell ⟨w.heap.size+1,16,none⟩ (.bool true))/\Below w.heap.size W' (Y.setCell ⟨w.heap.size+1,16,none⟩ (.bool true))/\NbI w c {k with gives:=true} (Y.setCell ⟨w.heap.size+1,16,none⟩ (.bool true)):=
 h.step bY ((Chg.refl (λq _=>q=w.heap.size+1) Y).setCell (b:=w.heap.size+1) (o:=16) (λ_=>rfl) _) (h.1.1.below bY).give hB
theorem z3r(n:Nat)(hn:6<=n)(hA:Ar hs ms W)(h:Cw W x K w c s)(hl:j<ms.length)(hj:hs[j]?=some ⟨.st .atomic,es⟩)(h14:es.length<=14){f0:Nat}(hf0:f0<=2)(hes: ∀e∈es,enW hs x f0 true e):
  CallsIn Fence.wide n Tryz.prog 135 #[ptr c,ptr ms[j].b] w λe w'=>∃b,e= .returned (ptr b)/\w.heap.size<=b/\NewBk w' b ((Jf hs 3 es).foldl x.seen bk0)/\Below w.heap.size w w':=by
 have hAw:Ar hs ms w:=hA.below h.low
 have hd:=hAw.hd j hl
 have hhd:ms[j].h=⟨.st .atomic,es⟩:=by
  obtain ⟨_,e⟩:=hAw.at hj
  exact e
 have hrow:=hd.row
 rw [hhd] at hrow
 have hrc:=hd.rc
 obtain ⟨ya,yc,hyr⟩: ∃a c,ms[j].rv= .slice a es.length c:=by
  rcases hrow.2 with ⟨q1,q2⟩|⟨g',cap',cur,q1,_⟩
  ·exact ⟨none,0,by rw [q1];simp at q2;simp [q2]⟩
  ·exact ⟨_,_,q1⟩
 rw [hyr] at hrow hrc
 have hG3: ∀e∈es,zy4 hs x e:=λe he=>⟨z0t yue (zw2 hs x f0 true e (hes e he)),f0,hes e he⟩
 have hw: ∀f,Fence.wide.fn f:=λ_=>trivial
 have h1n:1<=n:=yue
 have HC:=hid h
 have HROW:=hid hrow
 generalize ms[j].b=mb at*
 have lmb:mb<w.heap.size:=blt hrc
 clear h hd hrow
 have hc3:(((w.alloc (.cells #[ptr c] 105)).alloc (.cells #[.bool false, .bool false, .bool false, .bool false, .bool false, .bool false, .bool false, .bool false, .bool false, .bool false, .bool false, .bool false, .bool false, .bool false, .bool false, .bool false, .bool false, .int .i64 0, .slice none 0 0] 286)).alloc (.cells #[.pointer (some ⟨w.heap.size+1,0,none⟩)] 115)).cell? ⟨mb,0,none⟩=some (.slice ya es.length yc):=by
  rw [World.cell?_alloc_past _ _ _ yuj,World.cell?_alloc_past _ _ _ yuj,World.cell?_alloc_past _ _ _ lmb]
  exact hrc
 refine callsIn_of_wp_marks Tryz.func135 rfl trivial ?_ rfl
 simp only [Tryz.ntmps135,List.size_toArray,List.length_cons,List.length_nil,Nat.reduceAdd,Nat.reduceSub,Array.replicate_succ,Array.replicate_zero,List.push_toArray,List.append_toArray,List.nil_append,List.cons_append]
 gi_wp2_with fail
 refine ((callsIn_wide (n:=n- 1)).2 (zse ya _ yc _)).mono ?_
 rintro e w' ⟨rfl,rfl⟩
 gi_wp2
 obtain ⟨W1,hW1⟩: ∃W1,((w.alloc (.cells #[ptr c] 105)).alloc (.cells #[.bool false, .bool false, .bool false, .bool false, .bool false, .bool false, .bool false, .bool false, .bool false, .bool false, .bool false, .bool false, .bool false, .bool false, .bool false, .bool false, .bool false, .int .i64 0, .slice none 0 0] 286)).alloc (.cells #[.pointer (some ⟨w.heap.size+1,0,none⟩)] 115)=W1:=⟨_,rfl⟩
 have hs1:W1.heap.size=w.heap.size+1+1+1:=by rw [<-hW1];simp
 have hb1:Below w.heap.size w W1:=by rw [<-hW1];exact (((Below.refl _ w).alloc (Nat.le_refl _) _).alloc yuf _).alloc yuj _
 have hnb1:NewBk W1 (w.heap.size+1) bk0:=by
  rw [<-hW1]
  exact (show NewBk ((w.alloc (.cells #[ptr c] 105)).alloc nbO) (w.heap.size+1) bk0 by have:=z0x (w.alloc (.cells #[ptr c] 105));simpa using this).below ((Below.refl _ _).alloc (Nat.le_refl _) _)
 have hbc1:Boxed W1 w.heap.size 105 (ptr c):=by
  rw [<-hW1]
  exact ((Boxed.new w _ _).alloc _).alloc _
 have hbb1:Boxed W1 (w.heap.size+1+1) 115 (.pointer (some ⟨w.heap.size+1,0,none⟩)):=by
  rw [<-hW1]
  have e3:((w.alloc (.cells #[ptr c] 105)).alloc nbO).heap.size=w.heap.size+1+1:=yuf
  rw [<-e3]
  exact Boxed.new _ _ _
 rw [hW1]
 clear hW1 hc3
 obtain ⟨W2,hW2⟩: ∃W2,W1.alloc (.cells #[.slice ya es.length yc] 106)=W2:=⟨_,rfl⟩
 have hB2:Below W1.heap.size W1 W2:=yv8
 have hBt:W2.cell? ⟨w.heap.size+1+1+1,0,none⟩=some (.slice ya es.length yc):=by rw [<-hW2,<-hs1];exact World.cell?_alloc_new _ _ _ 0
 have hsz2:w.heap.size+4<=W2.heap.size:=by rw [<-hW2];simp;omega
 rw [hW2]
 clear hW2
 have low2:Below w.heap.size w W2:=hb1.trans (hB2.mono hb1.size)
 have hnb2:=hnb1.below hB2
 have hbc2:Boxed W2 w.heap.size 105 (ptr c):=(hB2.block w.heap.size yue).trans hbc1
 have hbb2:Boxed W2 (w.heap.size+1+1) 115 (.pointer (some ⟨w.heap.size+1,0,none⟩)):=(hB2.block _ yue).trans hbb1
 refine wpIn_rangeFunc_ownH rfl h1n (gf:=98) (lb:=#[.pointer (some ⟨w.heap.size+1+1+1,0,none⟩)]) rfl trivial (enters_of Tryz.func98 yug rfl)
  (zoy (P:=zy4 hs x) (λe h=>h.1) (λj y h hj=>zw3 h hj) (n- 1) (w.heap.size+1+1+1) w W2 hAw HROW.out h14 hG3 low2 hBt) belowK_t (belowK_b (w:=W2) yue) (Below.refl _ _) (λ_=>rfl)
  (λpre W'=>(NewBk W' (w.heap.size+1) ((pre.map (·.1)).foldl x.seen bk0)/\(Boxed W' w.heap.size 105 (ptr c)/\Boxed W' (w.heap.size+1+1) 115 (.pointer (some ⟨w.heap.size+1,0,none⟩))))/\Below w.heap.size w W')
  (λc' pre W'=>False)
  (OwnFrom.and (OwnFrom.and (λpre X Y row hs hg hr=>?own) (OwnFrom.and (Own.from (boxed_own _ _ _) _) (Own.from (boxed_own _ _ _) _))) (ownFrom_below (Nat.le_refl _) yue))
  (λc' _ _ _ _ hs _ _=>hs)
  ⟨⟨hnb2,hbc2,hbb2⟩,low2⟩
  (λy a' _=>a'={tmps:=#[ptr c,ptr mb, .pointer (some ⟨w.heap.size,0,none⟩),undef, .pointer none, .pointer (some ⟨w.heap.size+1+1,0,none⟩),enV (Qu ms) y.1,undef,undef,undef,undef,undef, .agg #[.bool false, .bool false, .bool false, .bool false, .bool false, .bool false, .bool false, .bool false, .bool false, .bool false, .bool false, .bool false, .bool false, .bool false, .bool false, .bool false, .bool false, .int .i64 0, .slice none 0 0], .pointer (some ⟨w.heap.size+1,0,none⟩),ptr mb, .pointer (some ⟨mb,0,none⟩), .pointer (some ⟨mb,0,none⟩), .pointer (some ⟨mb,0,none⟩), .slice ya es.length yc, .func (.func 98) #[] #[.pointer (some ⟨w.heap.size+1+1+1,0,none⟩)],enV (Qu ms) y.1,undef,undef,undef,undef,undef,undef,undef,undef,undef,undef,undef,undef,undef,undef,undef,undef,undef,undef,undef,undef,undef,undef,undef,undef,undef,undef,undef,undef,undef,undef,undef,undef,undef,undef,undef,undef,undef,undef,undef,undef,undef,undef,undef,undef,undef,undef,undef,undef,undef,undef,undef,undef,undef,undef,undef,undef,undef,undef,undef,undef,undef,undef,undef,undef,undef,undef,undef,undef,undef,undef,undef,undef,undef,undef,undef,undef,undef],defers:=[]})
  (λy a' _ X Y row hs _ _=>hs)
  ?assign ?body ?done ?stop
 case own=>
  have hlt:=hs.lt
  exact hs.heap (hg.block _ hlt (λe=>by have:=(hr _ e.symm).1;omega))
 case assign=>
  rintro l pre y W' K' hI hK
  gi_wp2
  exact hK _ _ (KeepsFrom.refl _ _) (Below.refl _ _) hI rfl
 case stop=>
  rintro D' c' pre W' hD hSp hF
  exact hF.elim
 case done=>
  rintro D' ys W' hD hS ⟨⟨hnb,hbc,hbb⟩,hlow⟩ hK
  have cb:=hbb.cell
  gi_wp2
  refine Iu w [D'] W' yuf (λD hD=>by
   simp at hD
   subst hD
   exact ⟨by omega,hK⟩) (λW'' hW'' hk=>?_)
  rw [hS] at hnb
  refine ⟨.pointer (some ⟨w.heap.size+1,0,none⟩),by simp [results,Tryz.f135,go_sem],w.heap.size+1,rfl,by omega,hnb.heap (hk _ yuj),hlow.trans hW''⟩
 case body=>
  rintro l pre ⟨e,he⟩ a' W' hl' _ ⟨⟨hnb,hbc,hbb⟩,hlow⟩ rfl hlt
  have he0:=he
  have hfold:((pre++[(⟨e,he⟩:EnP (zy4 hs x))]).map (·.1)).foldl x.seen bk0=x.seen ((pre.map (·.1)).foldl x.seen bk0) e:=yuf
  obtain ⟨hG,g,hW⟩:=he0
  have hC:Cw W x K W' c s:=HC.out.below hlow
  generalize ((pre.map (·.1)).foldl x.seen bk0)=bk at*
  cases e with
  |inr j2=>
   have hsn:x.seen bk (.inr j2)=bk:=rfl
   rw [hsn] at hfold
   rcases hG with ⟨s2,h,_⟩|⟨j',y',s2,h,hj',hky,hh,_,_,_⟩
   ·cases h
   ·cases h
    obtain ⟨hl5,e1,e2⟩:=Eg (hAw.below hlow) hj'
    rw [e2,hky]
    generalize ms[j2].b=jb at*
    rcases s2 with ⟨to,a⟩|⟨to,k,a,c⟩|⟨to,f,a⟩|⟨f,a,c⟩|a|⟨⟩|a|nn
    ·simp [Qf] at hh
    ·simp [Qf] at hh
    ·simp [Qf] at hh
    ·simp [Qf] at hh
    ·simp [Qf] at hh
    ·simp only [hkT]
     gi_wp2
     exact ⟨KeepsFrom.refl _ _,Below.refl _ _,⟨hfold▸hnb,hbc,hbb⟩,hlow⟩
    ·simp only [hkT]
     gi_wp2
     exact ⟨KeepsFrom.refl _ _,Below.refl _ _,⟨hfold▸hnb,hbc,hbb⟩,hlow⟩
    ·simp only [hkT]
     gi_wp2
     exact ⟨KeepsFrom.refl _ _,Below.refl _ _,⟨hfold▸hnb,hbc,hbb⟩,hlow⟩
  |inl st=>
   have hlf:x.leafOk true st:=by cases g<;>exact hW
   have hv:enV (Qu ms) (.inl st)=stV st:=rfl
   rw [hv]
   clear hv hW hG
   have cb:=hbb.cell
   have cc:=hbc.cell
   rcases st with ⟨to,a⟩|⟨to,o,a,d⟩|⟨to,f,a⟩|⟨f,a,d⟩|a|⟨⟩|a|nn
   ·simp only [stV]
    gi_wp2
    obtain ⟨Y,hY⟩: ∃Y,W'.alloc (.cells #[.string to, .string a.name, .int .i64 a.num] 222)=Y:=⟨_,rfl⟩
    have bY:Below W'.heap.size W' Y:=yvm
    have y0:Y.cell? ⟨W'.heap.size,0,none⟩=some (.string to):=yvn
    rw [hY]
    clear hY
    have hto:=hlf.1
    have hCY:=hC.below bY
    have y1:=(bY.cell (p:=⟨w.heap.size+1+1,0,none⟩) hbb.lt).trans cb
    have y2:=(bY.cell (p:=⟨w.heap.size,0,none⟩) hbc.lt).trans cc
    have y3:=hCY.c2
    have y4:=hCY.drew.lookL hto
    have hi:=zks x hC.base.ln to
    have nbY:=hnb.below bY
    have n4:=nbY.cs.n3
    obtain ⟨v5,y5⟩: ∃v,Y.cell? ⟨w.heap.size+1,12+x.locI to,none⟩=some (.bool v):=⟨_,nbY.cs.ch (x.locI to) _ (List.getElem?_eq_getElem yue)⟩
    have y6:=nbY.free (12+x.locI to)
    have hNb:=NbI.chg (B:=W2.heap.size) ⟨⟨hnb,hbc,hbb⟩,hlow⟩ bY hi yue
    have hCZ:=HC.out.below hNb.2.2.2
    have hlb:=hnb.lt
    have HS1:Hid ((λw'=>w'.cell? ⟨w.heap.size+1+1,0,none⟩=some (.pointer (some ⟨w.heap.size+1,0,none⟩))/\w'.cell? ⟨w.heap.size,0,none⟩=some (ptr c)/\w'.cell? ⟨c,2,none⟩=some (.map (some x.lb))/\w'.cell? ⟨W'.heap.size,0,none⟩=some (.string to)/\(Instr.lookup 109 (.map (some x.lb)) (.string to) false).run Tryz.prog w'= .ok (.int .i64 (x.locI to:Nat)) w') (Y.drew.setCell ⟨w.heap.size+1,12+x.locI to,none⟩ (.bool true))):=hid ⟨hNb.2.2.1.2.2.cell,hNb.2.2.1.2.1.cell,hCZ.c2,(Qb (.inl yue)).trans y0,hCZ.lookL hto⟩
    have HR:=hid hNb
    clear hnb nbY hCY hC hNb hCZ
    generalize hli:x.locI to=li at*
    have i0:(0:Int)<=(li:Int):=yue
    have i4:(li:Int)<4:=yue
    refine Xv (S:=(λw'=>w'.cell? ⟨w.heap.size+1+1,0,none⟩=some (.pointer (some ⟨w.heap.size+1,0,none⟩))/\w'.cell? ⟨w.heap.size,0,none⟩=some (ptr c)/\w'.cell? ⟨c,2,none⟩=some (.map (some x.lb))/\w'.cell? ⟨W'.heap.size,0,none⟩=some (.string to)/\(Instr.lookup 109 (.map (some x.lb)) (.string to) false).run Tryz.prog w'= .ok (.int .i64 (li:Nat)) w')) yug yuf yvh ⟨y1,y2,y3,y0,y4⟩ (λhHeld=>?_)
    refine Qa 0 (h:=Qa 1 (h:=Qa 2 (h:=Qa 3 (h:=Qa 4 (h:=Qa 5 (h:=Qa 6 (h:=Qa 7 (h:=Qa 8 (h:=Qa 9 (h:=Qa 10 (h:=?_)))))))))))
    refine wpAnyH_ready (rs:=[11]) yug yuf ?_
    refine .cons rfl (λKQ hKQ=>?_) ?_
    ·go_simp
     refine hKQ.out _ _ ?_ (λhHeld2=>?_)
     ·exact HS1.out
     clear hKQ KQ
     refine wpAnyH_done yug ?_ _
     have hq:NbI w c (((pre++[(⟨.inl (.inl (to,a)),he⟩:EnP (zy4 hs x))]).map (·.1)).foldl x.seen bk0) (Y.drew.setCell ⟨w.heap.size+1,12+li,none⟩ (.bool true)):=ywb
     exact ⟨HR.out.1,HR.out.2.1,hq⟩
    exact .nil
   ·simp only [stV]
    gi_wp2
    obtain ⟨Y,hY⟩: ∃Y,W'.alloc (.cells #[.string to, .int .i64 o, .string a.name, .int .i64 a.num, .string d.name, .int .i64 d.num] 226)=Y:=⟨_,rfl⟩
    have bY:Below W'.heap.size W' Y:=yvm
    have y0:Y.cell? ⟨W'.heap.size,0,none⟩=some (.string to):=yvn
    rw [hY]
    clear hY
    have hto:=hlf.1
    have hCY:=hC.below bY
    have y1:=(bY.cell (p:=⟨w.heap.size+1+1,0,none⟩) hbb.lt).trans cb
    have y2:=(bY.cell (p:=⟨w.heap.size,0,none⟩) hbc.lt).trans cc
    have y3:=hCY.c2
    have y4:=hCY.drew.lookL hto
    have hi:=zks x hC.base.ln to
    have nbY:=hnb.below bY
    have n4:=nbY.cs.n3
    obtain ⟨v5,y5⟩: ∃v,Y.cell? ⟨w.heap.size+1,12+x.locI to,none⟩=some (.bool v):=⟨_,nbY.cs.ch (x.locI to) _ (List.getElem?_eq_getElem yue)⟩
    have y6:=nbY.free (12+x.locI to)
    have hNb:=NbI.chg (B:=W2.heap.size) ⟨⟨hnb,hbc,hbb⟩,hlow⟩ bY hi yue
    have hCZ:=HC.out.below hNb.2.2.2
    have hlb:=hnb.lt
    have HS1:Hid ((λw'=>w'.cell? ⟨w.heap.size+1+1,0,none⟩=some (.pointer (some ⟨w.heap.size+1,0,none⟩))/\w'.cell? ⟨w.heap.size,0,none⟩=some (ptr c)/\w'.cell? ⟨c,2,none⟩=some (.map (some x.lb))/\w'.cell? ⟨W'.heap.size,0,none⟩=some (.string to)/\(Instr.lookup 109 (.map (some x.lb)) (.string to) false).run Tryz.prog w'= .ok (.int .i64 (x.locI to:Nat)) w') (Y.drew.setCell ⟨w.heap.size+1,12+x.locI to,none⟩ (.bool true))):=hid ⟨hNb.2.2.1.2.2.cell,hNb.2.2.1.2.1.cell,hCZ.c2,(Qb (.inl yue)).trans y0,hCZ.lookL hto⟩
    have HR:=hid hNb
    clear hnb nbY hCY hC hNb hCZ
    generalize hli:x.locI to=li at*
    have i0:(0:Int)<=(li:Int):=yue
    have i4:(li:Int)<4:=yue
    refine Xv (S:=(λw'=>w'.cell? ⟨w.heap.size+1+1,0,none⟩=some (.pointer (some ⟨w.heap.size+1,0,none⟩))/\w'.cell? ⟨w.heap.size,0,none⟩=some (ptr c)/\w'.cell? ⟨c,2,none⟩=some (.map (some x.lb))/\w'.cell? ⟨W'.heap.size,0,none⟩=some (.string to)/\(Instr.lookup 109 (.map (some x.lb)) (.string to) false).run Tryz.prog w'= .ok (.int .i64 (li:Nat)) w')) yug yuf yvh ⟨y1,y2,y3,y0,y4⟩ (λhHeld=>?_)
    refine Qa 0 (h:=Qa 1 (h:=Qa 2 (h:=Qa 3 (h:=Qa 4 (h:=Qa 5 (h:=Qa 6 (h:=Qa 7 (h:=Qa 8 (h:=Qa 9 (h:=Qa 10 (h:=?_)))))))))))
    refine wpAnyH_ready (rs:=[11]) yug yuf ?_
    refine .cons rfl (λKQ hKQ=>?_) ?_
    ·go_simp
     refine hKQ.out _ _ ?_ (λhHeld2=>?_)
     ·exact HS1.out
     clear hKQ KQ
     refine wpAnyH_done yug ?_ _
     have hq:NbI w c (((pre++[(⟨.inl (.inr (.inl (to,o,a,d))),he⟩:EnP (zy4 hs x))]).map (·.1)).foldl x.seen bk0) (Y.drew.setCell ⟨w.heap.size+1,12+li,none⟩ (.bool true)):=ywb
     exact ⟨HR.out.1,HR.out.2.1,hq⟩
    exact .nil
   ·simp only [stV]
    gi_wp2
    obtain ⟨Y,hY⟩: ∃Y,W'.alloc (.cells #[.string to, .string f, .string a.name, .int .i64 a.num] 201)=Y:=⟨_,rfl⟩
    have bY:Below W'.heap.size W' Y:=yvm
    have y0:Y.cell? ⟨W'.heap.size,0,none⟩=some (.string to):=yvn
    have z0':Y.cell? ⟨W'.heap.size,1,none⟩=some (.string f):=by rw [<-hY];exact World.cell?_alloc_new _ _ _ 1
    rw [hY]
    clear hY
    obtain ⟨_,hto,⟨hfz,vf,vn,hvar,hv6,hvn⟩,_⟩:=hlf
    have hCY:=hC.below bY
    have y1:=(bY.cell (p:=⟨w.heap.size+1+1,0,none⟩) hbb.lt).trans cb
    have y2:=(bY.cell (p:=⟨w.heap.size,0,none⟩) hbc.lt).trans cc
    have y3:=hCY.c2
    have y4:=hCY.drew.lookL hto
    have hi:=zks x hC.base.ln to
    have nbY:=hnb.below bY
    have n4:=nbY.cs.n3
    obtain ⟨v5,y5⟩: ∃v,Y.cell? ⟨w.heap.size+1,12+x.locI to,none⟩=some (.bool v):=⟨_,nbY.cs.ch (x.locI to) _ (List.getElem?_eq_getElem yue)⟩
    have y6:=nbY.free (12+x.locI to)
    have hNb:=NbI.chg (B:=W2.heap.size) ⟨⟨hnb,hbc,hbb⟩,hlow⟩ bY hi yue
    have hCZ:=HC.out.below hNb.2.2.2
    have hlb:=hnb.lt
    have HS1:Hid ((λw'=>w'.cell? ⟨w.heap.size+1+1,0,none⟩=some (.pointer (some ⟨w.heap.size+1,0,none⟩))/\w'.cell? ⟨w.heap.size,0,none⟩=some (ptr c)/\w'.cell? ⟨c,2,none⟩=some (.map (some x.lb))/\w'.cell? ⟨W'.heap.size,0,none⟩=some (.string to)/\(Instr.lookup 109 (.map (some x.lb)) (.string to) false).run Tryz.prog w'= .ok (.int .i64 (x.locI to:Nat)) w') (Y.drew.setCell ⟨w.heap.size+1,12+x.locI to,none⟩ (.bool true))):=hid ⟨hNb.2.2.1.2.2.cell,hNb.2.2.1.2.1.cell,hCZ.c2,(Qb (.inl yue)).trans y0,hCZ.lookL hto⟩
    have HR:=hid hNb
    clear hnb nbY hCY hC hNb hCZ
    generalize hli:x.locI to=li at*
    have i0:(0:Int)<=(li:Int):=yue
    have i4:(li:Int)<4:=yue
    refine Xv (S:=(λw'=>w'.cell? ⟨w.heap.size+1+1,0,none⟩=some (.pointer (some ⟨w.heap.size+1,0,none⟩))/\w'.cell? ⟨w.heap.size,0,none⟩=some (ptr c)/\w'.cell? ⟨c,2,none⟩=some (.map (some x.lb))/\w'.cell? ⟨W'.heap.size,0,none⟩=some (.string to)/\(Instr.lookup 109 (.map (some x.lb)) (.string to) false).run Tryz.prog w'= .ok (.int .i64 (li:Nat)) w')) yug yuf yvh ⟨y1,y2,y3,y0,y4⟩ (λhHeld=>?_)
    refine Qa 0 (h:=Qa 1 (h:=Qa 2 (h:=Qa 3 (h:=Qa 4 (h:=Qa 5 (h:=Qa 6 (h:=Qa 7 (h:=Qa 8 (h:=Qa 9 (h:=Qa 10 (h:=?_)))))))))))
    refine wpAnyH_ready (rs:=[11]) yug yuf ?_
    refine .cons rfl (λKQ hKQ=>?_) ?_
    ·go_simp
     refine hKQ.out _ _ ?_ (λhHeld2=>?_)
     ·exact HS1.out
     clear hKQ KQ
     refine wpAnyH_done yug ?_ _
     gi_wp2
     obtain ⟨Z,hZ⟩: ∃Z,(Y.setCell ⟨w.heap.size+1,12+li,none⟩ (.bool true)).drew=Z:=⟨_,rfl⟩
     have hNb2:=HR.out
     have z0:Z.cell? ⟨W'.heap.size,1,none⟩=some (.string f):=by rw [<-hZ];show (Y.setCell ⟨w.heap.size+1,12+li,none⟩ (.bool true)).cell? _=_;exact (Qb (.inl yue)).trans z0'
     rw [show Y.drew.setCell ⟨w.heap.size+1,12+li,none⟩ (.bool true)=(Y.setCell ⟨w.heap.size+1,12+li,none⟩ (.bool true)).drew from rfl,hZ] at hNb2
     rw [hZ]
     clear hZ HR HS1 y0 y1 y2 y3 y4 y5 y6 hHeld hHeld2
     have hCZ:=HC.out.below hNb2.2.2.2
     have z1:=hNb2.2.2.1.2.2.cell
     have z2:=hNb2.2.2.1.2.1.cell
     have z3:=hCZ.c1
     have z4:=hCZ.drew.lookS hfz
     rw [hvar] at z4
     have lz:=hNb2.2.2.1.1.lt
     have lt0:W'.heap.size<Z.heap.size:=blt z0
     have HM:Hid (MarksAt Z.drew (w.heap.size+1) 0 bk.gets/\bk.gets.length=6/\ ∀j,Z.drew.frozen? ⟨w.heap.size+1,j,none⟩=false):=hid ⟨hNb2.2.2.1.1.marksG,hNb2.2.2.1.1.cs.n1,hNb2.2.2.1.1.free⟩
     have HF:Hid (∀w1,MarksAt w1 (w.heap.size+1) 0 (Sw bk.gets vf vn)->Chg (λk j=>k=w.heap.size+1/\0<=j/\j<0+6) Z.drew w1->KeepsFrom W2.heap.size W' w1/\Below w.heap.size W' w1/\NbI w c (x.seen bk (.inl (.inr (.inr (.inl (to,f,a)))))) w1):=hid λw1 hmk hcm=>by
      have bd:Below Z.heap.size Z Z.drew:=⟨rfl,rfl,rfl,Nat.le_refl _,λ_ _=>rfl⟩
      have hk:=NbI.step (B:=W2.heap.size) hNb2.2.2 bd (hcm.mono λ_ _ _ e=>e.1) ((hNb2.2.2.1.1.below bd).mg (l:=Sw bk.gets vf vn) ((za2 _ _ _).trans hNb2.2.2.1.1.cs.n1) hmk hcm) yue
      have hsn:x.seen bk (.inl (.inr (.inr (.inl (to,f,a)))))={{bk with chgs:=bk.chgs.set li true} with gets:=Sw bk.gets vf vn}:=by simp only [Cx.seen,hli,hvar,zmx]
      rw [hsn]
      exact ⟨hNb2.1.trans hk.1,hNb2.2.1.trans hk.2.1,hk.2.2⟩
     have HS2:Hid (∀w1,Chg (λk j=>k=w.heap.size+1/\0<=j/\j<0+6) Z.drew w1->w1.cell? ⟨w.heap.size+1+1,0,none⟩=some (.pointer (some ⟨w.heap.size+1,0,none⟩))/\w1.cell? ⟨w.heap.size,0,none⟩=some (ptr c)/\w1.cell? ⟨c,1,none⟩=some (.map (some x.sb))/\w1.cell? ⟨W'.heap.size,1,none⟩=some (.string f)/\(Instr.lookup 88 (.map (some x.sb)) (.string f) false).run Tryz.prog w1= .ok (.agg #[.int .i64 (vf:Nat), .int .i64 (vn:Nat)]) w1):=hid λw1 hcm=>by
      have hbw:Below w.heap.size w w1:=hNb2.2.2.2.trans ((⟨rfl,rfl,rfl,Nat.le_refl _,λ_ _=>rfl⟩:Below w.heap.size Z Z.drew).trans (hcm.below (show w.heap.size<=Z.drew.heap.size from hNb2.2.2.2.size) (λk i e=>by omega)))
      have hC1:=HC.out.below hbw
      have hl1:=hC1.lookS hfz
      rw [hvar] at hl1
      exact ⟨(hcm.cell _ _ (show _<Z.drew.heap.size from hNb2.2.2.1.2.2.lt) (λe=>by omega)).trans z1,(hcm.cell _ _ (show _<Z.drew.heap.size from hNb2.2.2.1.2.1.lt) (λe=>by omega)).trans z2,hC1.c1,(hcm.cell _ _ (show _<Z.drew.heap.size from lt0) (λe=>by omega)).trans z0,hl1⟩
     clear hNb2 hCZ
     refine Xv (S:=(λw'=>w'.cell? ⟨w.heap.size+1+1,0,none⟩=some (.pointer (some ⟨w.heap.size+1,0,none⟩))/\w'.cell? ⟨w.heap.size,0,none⟩=some (ptr c)/\w'.cell? ⟨c,1,none⟩=some (.map (some x.sb))/\w'.cell? ⟨W'.heap.size,1,none⟩=some (.string f)/\(Instr.lookup 88 (.map (some x.sb)) (.string f) false).run Tryz.prog w'= .ok (.agg #[.int .i64 (vf:Nat), .int .i64 (vn:Nat)]) w')) yug yuf yvh ⟨z1,z2,z3,z0,z4⟩ (λhHeld=>?_)
     refine Qa 0 (h:=Qa 1 (h:=Qa 2 (h:=Qa 3 (h:=Qa 4 (h:=Qa 5 (h:=Qa 6 (h:=Qa 7 (h:=Qa 8 (h:=Qa 9 (h:=Qa 10 (h:=?_)))))))))))
     refine wpAnyH_ready (rs:=[11]) yug yuf ?_
     refine .cons rfl (λKQ hKQ=>?_) ?_
     ·(go_simp;go_at_call 153;refine (zy3 (o:=0) (f:=vf) (n:=vn) HM.out.1 HM.out.2.1 HM.out.2.2 hvn).mono ?_;rintro e w1 ⟨rfl,hmk,hcm⟩)
      refine hKQ.out _ _ ?_ (λhHeld2=>?_)
      ·exact HS2.out _ hcm
      clear hKQ KQ
      refine wpAnyH_done yug ?_ _
      have q:=HF.out _ hmk hcm
      rw [<-hfold] at q
      exact q
     exact .nil
    exact .nil
   ·simp only [stV]
    gi_wp2
    obtain ⟨Y,hY⟩: ∃Y,W'.alloc (.cells #[.string f, .string a.name, .int .i64 a.num, .string d.name, .int .i64 d.num] 203)=Y:=⟨_,rfl⟩
    have bY:Below W'.heap.size W' Y:=yvm
    have y0:Y.cell? ⟨W'.heap.size,0,none⟩=some (.string f):=yvn
    rw [hY]
    clear hY
    obtain ⟨_,⟨hfz,vf,vn,hvar,hv6,hvn⟩,_⟩:=hlf
    have hCZ:=hC.below bY
    have z0:=y0
    have z1:=(bY.cell (p:=⟨w.heap.size+1+1,0,none⟩) hbb.lt).trans cb
    have z2:=(bY.cell (p:=⟨w.heap.size,0,none⟩) hbc.lt).trans cc
    have z3:=hCZ.c1
    have z4:=hCZ.drew.lookS hfz
    rw [hvar] at z4
    have hI0:NbI w c bk W':=⟨⟨hnb,hbc,hbb⟩,hlow⟩
    have nbY:=hnb.below bY
    have hlb:=hnb.lt
    have lt0:W'.heap.size<Y.heap.size:=blt y0
    have HM:Hid (MarksAt Y.drew (w.heap.size+1) 6 bk.puts/\bk.puts.length=6/\ ∀j,Y.drew.frozen? ⟨w.heap.size+1,j,none⟩=false):=hid ⟨nbY.marksP,nbY.cs.n2,nbY.free⟩
    have bd:Below W'.heap.size W' Y.drew:=bY.trans ⟨rfl,rfl,rfl,Nat.le_refl _,λ_ _=>rfl⟩
    have HF:Hid (∀w1,MarksAt w1 (w.heap.size+1) 6 (Sw bk.puts vf vn)->Chg (λk j=>k=w.heap.size+1/\6<=j/\j<6+6) Y.drew w1->KeepsFrom W2.heap.size W' w1/\Below w.heap.size W' w1/\NbI w c (x.seen bk (.inl (.inr (.inr (.inr (.inl (f,a,d))))))) w1):=hid λw1 hmk hcm=>by
     have hk:=NbI.step (B:=W2.heap.size) hI0 bd (hcm.mono λ_ _ _ e=>e.1) ((hnb.below bd).mp (l:=Sw bk.puts vf vn) ((za2 _ _ _).trans hnb.cs.n2) hmk hcm) yue
     have hsn:x.seen bk (.inl (.inr (.inr (.inr (.inl (f,a,d))))))={bk with puts:=Sw bk.puts vf vn}:=by simp only [Cx.seen,hvar,zmx]
     rw [hsn]
     exact hk
    have HS2:Hid (∀w1,Chg (λk j=>k=w.heap.size+1/\6<=j/\j<6+6) Y.drew w1->w1.cell? ⟨w.heap.size+1+1,0,none⟩=some (.pointer (some ⟨w.heap.size+1,0,none⟩))/\w1.cell? ⟨w.heap.size,0,none⟩=some (ptr c)/\w1.cell? ⟨c,1,none⟩=some (.map (some x.sb))/\w1.cell? ⟨W'.heap.size,0,none⟩=some (.string f)/\(Instr.lookup 88 (.map (some x.sb)) (.string f) false).run Tryz.prog w1= .ok (.agg #[.int .i64 (vf:Nat), .int .i64 (vn:Nat)]) w1):=hid λw1 hcm=>by
     have hbw:Below w.heap.size w w1:=hlow.trans ((bd.mono hlow.size).trans (hcm.below (show w.heap.size<=Y.drew.heap.size from Nat.le_trans hlow.size bY.size) (λk i e=>by omega)))
     have hC1:=HC.out.below hbw
     have hl1:=hC1.lookS hfz
     rw [hvar] at hl1
     exact ⟨(hcm.cell _ _ (show _<Y.drew.heap.size from Nat.lt_of_lt_of_le hbb.lt bY.size) (λe=>by omega)).trans z1,(hcm.cell _ _ (show _<Y.drew.heap.size from Nat.lt_of_lt_of_le hbc.lt bY.size) (λe=>by omega)).trans z2,hC1.c1,(hcm.cell _ _ (show _<Y.drew.heap.size from lt0) (λe=>by omega)).trans z0,hl1⟩
    clear hnb nbY hCZ hC hI0 bd
    refine Xv (S:=(λw'=>w'.cell? ⟨w.heap.size+1+1,0,none⟩=some (.pointer (some ⟨w.heap.size+1,0,none⟩))/\w'.cell? ⟨w.heap.size,0,none⟩=some (ptr c)/\w'.cell? ⟨c,1,none⟩=some (.map (some x.sb))/\w'.cell? ⟨W'.heap.size,0,none⟩=some (.string f)/\(Instr.lookup 88 (.map (some x.sb)) (.string f) false).run Tryz.prog w'= .ok (.agg #[.int .i64 (vf:Nat), .int .i64 (vn:Nat)]) w')) yug yuf yvh ⟨z1,z2,z3,z0,z4⟩ (λhHeld=>?_)
    refine Qa 0 (h:=Qa 1 (h:=Qa 2 (h:=Qa 3 (h:=Qa 4 (h:=Qa 5 (h:=Qa 6 (h:=Qa 7 (h:=Qa 8 (h:=Qa 9 (h:=Qa 10 (h:=?_)))))))))))
    refine wpAnyH_ready (rs:=[11]) yug yuf ?_
    refine .cons rfl (λKQ hKQ=>?_) ?_
    ·(go_simp;go_at_call 153;refine (zy3 (o:=6) (f:=vf) (n:=vn) HM.out.1 HM.out.2.1 HM.out.2.2 hvn).mono ?_;rintro e w1 ⟨rfl,hmk,hcm⟩)
     refine hKQ.out _ _ ?_ (λhHeld2=>?_)
     ·exact HS2.out _ hcm
     clear hKQ KQ
     refine wpAnyH_done yug ?_ _
     have q:=HF.out _ hmk hcm
     rw [<-hfold] at q
     exact q
    exact .nil
   ·simp only [stV]
    have hlb:=hnb.lt
    have bY:Below W'.heap.size W' (W'.alloc (.cells #[.string a.name, .int .i64 a.num] 205)):=(Below.refl _ W').alloc (Nat.le_refl _) _
    have nbY:=hnb.below bY
    have o1:=(bY.cell (p:=⟨w.heap.size+1+1,0,none⟩) hbb.lt).trans cb
    have o2:=nbY.cs.gv
    have o3:=nbY.free 16
    have hN0:=NbI.give (B:=W2.heap.size) ⟨⟨hnb,hbc,hbb⟩,hlow⟩ (Below.refl _ W') yue
    have b2:Below (W'.setCell ⟨w.heap.size+1,16,none⟩ (.bool true)).heap.size (W'.setCell ⟨w.heap.size+1,16,none⟩ (.bool true)) ((W'.setCell ⟨w.heap.size+1,16,none⟩ (.bool true)).alloc (.cells #[.string a.name, .int .i64 a.num] 205)):=(Below.refl _ _).alloc (Nat.le_refl _) _
    have hN1:=NbI.step (B:=W2.heap.size) hN0.2.2 b2 (Chg.refl _ _) (hN0.2.2.1.1.below b2) yue
    have hNb:=And.intro (hN0.1.trans hN1.1) (And.intro (hN0.2.1.trans hN1.2.1) hN1.2.2)
    have hq:NbI w c (((pre++[(⟨.inl (.inr (.inr (.inr (.inr (.inl a))))),he⟩:EnP (zy4 hs x))]).map (·.1)).foldl x.seen bk0) ((W'.setCell ⟨w.heap.size+1,16,none⟩ (.bool true)).alloc (.cells #[.string a.name, .int .i64 a.num] 205)):=by rw [hfold];exact hNb.2.2
    have HR:=hid (And.intro hNb.1 (And.intro hNb.2.1 hq))
    clear hnb nbY hNb hq hC bY hN0 hN1 b2
    gi_wp2
    exact ⟨HR.out.1,HR.out.2.1,HR.out.2.2⟩
   ·exact hlf.elim
   ·exact hlf.elim
   ·exact hlf.elim
theorem z3s(hA:Ar hs ms W):z3g W x c hs ms:=λ_ _ _ _ _ hl h hj h14 ⟨_,hf,he⟩=>(callsIn_wide (n:=6)).1 (z3r 6 (Nat.le_refl _) hA h hl hj h14 hf he)
end
theorem zmz(st:RS)(i sb lb:Nat):(st.ents (st.thr i)).foldl (λs e=>cEn st.hs (zmu st i sb lb) 3 e s) Ck.none'=za1 st i:=zkq st.hs _ _ 3 (zy2 st.hs _ _ _ _ _ _ _ 3) _ _
theorem zo1(st:RS)(i:Nat):Ek st i=⟨#[116,104,114,101,97,100,10]⟩++(za1 st i).endC.text:=rfl
theorem z3t{W0:World}{br:Nat}(h:Has W0 W br st)(hT:TabAt W)(hg:Jl s= .ok st)(hm:zay st=false):
  Cl 29 #[ptr br] W λe w'=>∃v,e= .returned v/\(v= .string (Yi st)/\Below W.heap.size W w'):=by
 obtain ⟨E,lab,sb,bs,tv,ov,ms,hE,hM⟩:=h.m
 obtain ⟨ta,tk,htv⟩:=hM.threadS
 subst htv
 have hn3:st.threads.length<=3:=by
  unfold zay at hm
  simp only [Bool.or_eq_false_iff,decide_eq_false_iff_not] at hm
  omega
 have hF:=λi hi=>z3p hM h.ok i hi
 have hAr: ∀wr,Below W.heap.size W wr->Ar st.hs ms wr:=λwr hb=>hM.ar.below hb
 have hW:=λi (hi:i<st.threads.length)=>zms hg h.ok hm (zmu st i sb (mAt ms st i).mb) rfl (st.thr i) (hF i hi).mem
 have hgb: ∀i,i<st.threads.length->(za1 st i).g<=4200:=by
  intro i hi
  obtain ⟨h1,h2,h3⟩:=hW i hi
  rw [<-zmz st i sb (mAt ms st i).mb]
  have:=(zgr (step:=λe s=>cEn st.hs (zmu st i sb (mAt ms st i).mb) 3 e s) (inv:=λs=>s.blk=none) (cost:=λe=>300*wE st.hs 3 e) (st.ents (st.thr i)) Ck.none' (λe he s hs=>⟨(Xh st.hs _ 3 false e (h2 e he) s (λ_=>hs)).trans hs,zrx st.hs _ 3 false e (h2 e he) s (λ_=>hs)⟩) rfl).2
  rw [Is] at this
  have e0:Ck.none'.g=0:=rfl
  omega
 refine z3j (W:=W) (n:=st.threads.length) (ta:=ta) (tk:=tk) (tb:=λi=>(mAt ms st i).b) (lb:=λi=>(mAt ms st i).mb) (rv:=λi=>(mAt ms st i).rv) (tx:=λi=>(za1 st i).endC.text)
  hn3 hM.c0 hM.c1 (hid λi hi=>?ht) (λi wr=>Below W.heap.size W wr/\Lib.IsBuilderF 103 5 W.heap.size W.heap.size (Lib.byteCells (za0 st i)) wr/\(za0 st i).length<=i*20000000100)
  (λi c w=>∃wr,(Below W.heap.size W wr/\Lib.IsBuilderF 103 5 W.heap.size W.heap.size (Lib.byteCells (za0 st i)) wr/\(za0 st i).length<=i*20000000100)/\Cw wr.drew (zmu st i sb (mAt ms st i).mb) [] w c (za1 st i))
  (λi c w=>∃wr,(Below W.heap.size W wr/\Lib.IsBuilderF 103 5 W.heap.size W.heap.size (Lib.byteCells (za0 st i)) wr/\(za0 st i).length<=i*20000000100)/\Cw wr.drew (zmu st i sb (mAt ms st i).mb) [] w c (za1 st i).endC/\(za1 st i).T.length<=4200)
  (λi c w=>∃wr,(Below W.heap.size W wr/\Lib.IsBuilderF 103 5 W.heap.size W.heap.size (Lib.byteCells (za0 st i)) wr/\(za0 st i).length<=i*20000000100)/\Cw wr.drew (zmu st i sb (mAt ms st i).mb) [] w c (za1 st i).endC/\(za1 st i).T.length<=4200)
  (λv w'=>v= .string (Yi st)/\Below W.heap.size W w') (hid λi c w hi hP=>?htx) (hid λi wr hJ=>hJ.1) (hid ⟨?h0a,?h0b,by simp [za0]⟩) (hid λi wr hi hJ=>?k1) (hid λi c w hi hP=>?k2) (hid λi c w hi hP=>?k3) (hid λi c w hi hP=>?k4) (hid λw hJ=>?k5)
 case ht=>
  have q:=hF i hi
  obtain ⟨g,cp,e1,e2⟩:=q.row
  exact ⟨g,by simpa using congrArg (λv=>match v with|Value.slice a _ _=>a|_=>none) e1,e2,q.c0,q.c1⟩
 case htx=>
  obtain ⟨wr,_,⟨m,hc⟩,h3⟩:=hP
  have h1:=hgb i hi
  have h2:=zsr (za1 st i)
  have:=zmv hc.ok yue
  omega
 case h0a=>exact (Below.refl _ W).alloc (Nat.le_refl _) _
 case h0b=>exact Lib.IsBuilderF.of (Lib.fresh_isBuilder _ _ W)
 case k1=>
  obtain ⟨hb,hB,hlen⟩:=hJ
  have hbd:Below W.heap.size W wr.drew:=hb.trans ⟨rfl,rfl,rfl,Nat.le_refl _,λ_ _=>rfl⟩
  have q:=hF i hi
  obtain ⟨h1,h2,h3⟩:=hW i hi
  have hbase:zj0 wr.drew (zmu st i sb (mAt ms st i).mb):={
   mS:=hM.mS.keep (M:=λ_ _=>False) (Chg.of_below hbd) (λ_ e=>e)
   mL:=q.mp.keep (M:=λ_ _=>False) (Chg.of_below hbd) (λ_ e=>e)
   tab:=hT.below hbd
   th:=by show i<=3;omega
   ln:=q.ln}
  have hrow:wr.drew.ownsRow 0 153 1 (mAt ms st i).rv (st.ents (st.thr i)).length ((st.ents (st.thr i)).map (enV (Qu ms))):=Qc q.own (Chg.of_below (M:=λ_ _=>False) hbd) (λ_ _ _ e=>e)
  have hEw:Env wr.drew:=h.env.below hbd
  have hAw:=hAr _ hbd
  refine (zmn (ids:=Qu ms) hrow h1 (λe s=>cEn st.hs (zmu st i sb (mAt ms st i).mb) 3 e s) (λs=>s.blk=none/\s.loops=0) (λe=>300*wE st.hs 3 e) (λe he K w s hcw hin hG=>z4h hEw hAw (z3s hAw) 3 (Nat.le_refl _) false e (h2 e he) K w s hcw ⟨λ_=>hin.1,λhh=>by cases hh⟩ (by rw [hin.2];omega) hG)
   (λe he s hin=>⟨⟨(Xh st.hs _ 3 false e (h2 e he) s (λ_=>hin.1)).trans hin.1,((Fq st.hs _ 3 e).lo s).trans hin.2⟩,zrx st.hs _ 3 false e (h2 e he) s (λ_=>hin.1)⟩) (z0n hbase) ⟨rfl,rfl⟩ (by
    rw [Is]
    have e0:Ck.none'.g=0:=rfl
    omega)).mono ?_
  rintro r w' ⟨hr,hw⟩
  rw [zmz] at hw
  exact ⟨hr,wr,⟨hb,hB,hlen⟩,hw⟩
 case k2=>
  obtain ⟨wr,hJ,hc⟩:=hP
  have h1:=hgb i hi
  have h3:(za1 st i).T.length<=(za1 st i).g:=let ⟨_,hc⟩:=hc;hc.ok.t
  refine (z5n hc yue).mono ?_
  rintro r w' ⟨hr,hw⟩
  exact ⟨hr,wr,hJ,hw,by omega⟩
 case k3=>
  obtain ⟨wr,hJ,hc,h3⟩:=hP
  have h1:=hgb i hi
  have h2:=zsr (za1 st i)
  refine (z3h hc (zss _) yue).mono ?_
  rintro r w' ⟨hr,hw⟩
  exact ⟨hr,wr,hJ,hw,h3⟩
 case k4=>
  obtain ⟨wr,⟨hb,hB,hlen⟩,⟨m,hcd⟩,h3⟩:=hP
  have hlow:Below wr.heap.size wr w:=(⟨rfl,rfl,rfl,Nat.le_refl _,λ_ _=>rfl⟩:Below wr.heap.size wr wr.drew).trans hcd.low
  have h1:=hgb i hi
  have h2:=zsr (za1 st i)
  have hsz:=zmv hcd.ok yue
  have hsz2:(Ek st i).size<=20000000010:=by
   rw [zo1,ByteArray.size_append]
   have:(ByteArray.mk #[116,104,114,101,97,100,10]).size=7:=rfl
   omega
  have hW1:W.heap.size<=w.heap.size:=Nat.le_trans hb.size hlow.size
  refine (z0o (u:=Ek st i) (zsq hB hlow) (by
   have:i*20000000100<=3*20000000100:=Nat.mul_le_mul_right _ yue
   omega) hW1).mono ?_
  rintro r w' ⟨hr,hw,hbw⟩
  refine ⟨⟨_,hr⟩,(hb.trans (hlow.mono hb.size)).trans hbw,hw,?_⟩
  show (za0 st i++(Ek st i).data.toList).length<=_
  have e3:(Ek st i).data.toList.length=(Ek st i).size:=Array.length_toList
  rw [List.length_append,e3]
  omega
 case k5=>
  obtain ⟨hb,hB,hlen⟩:=hJ
  refine (zwl hB hb.size).mono ?_
  rintro r w' ⟨hr,hw⟩
  exact ⟨_,hr,rfl,hb.trans hw⟩
theorem z0y(hE:Env W)(s:ByteArray)(hg:zaz s= .ok st){R:ByteArray->World->Prop}(KC:Hid (∀w br,Has W w br st->Cl 29 #[ptr br] w λe w'=>∃t,e= .returned (.string t)/\R t w')):
  Cl 20 #[.string s] W λe w'=>∃t,e= .returned (.tuple #[.string t, .nilIface])/\R t w':=by
 have K:=zmt hE s
 rw [hg] at K
 have HK:=hid K
 clear K hE
 go_enter Tryz.func20,Tryz.ntmps20
 go_wp2_with fail
 refine HK.out.mono ?_
 rintro e w1 ⟨br,rfl,h1⟩
 have D:=hid (KC.out w1 br h1)
 clear h1 HK KC
 go_wp2_with fail
 refine D.out.mono ?_
 rintro e w2 ⟨t,rfl,q⟩
 have H2:=hid q
 clear q D
 go_wp2
 go_ret2
 exact ⟨t,rfl,H2.out⟩
theorem zku(hg:zaz s= .ok st):Jl s= .ok st/\zay st=false:=by
 unfold zaz at hg
 cases hl:Jl s with
 |error e=>simp [hl] at hg
 |ok st2=>
  rw [hl] at hg
  simp only at hg
  split at hg
  ·simp at hg
  ·split at hg
   ·simp at hg
   ·rename_i hm
    have:st2=st:=by simpa using hg
    subst this
    exact ⟨rfl,by simpa using hm⟩
theorem zw5(hE:Env W)(hT:TabAt W)(s:ByteArray)(hg:zaz s= .ok st):
  Cl 14 #[.string s] W λe w'=>e= .returned (.tuple #[.string (Yi st), .int .i64 0, .int .i64 0])/\Below W.heap.size W w':=by
 obtain ⟨hl,hm⟩:=zku hg
 have K:=hid (z0y hE s hg (R:=λt w'=>t=Yi st/\Below W.heap.size W w') (hid λw br hb=>by
  refine (z3t hb (hT.below hb.low) hl hm).mono ?_
  rintro e w' ⟨v,he,hv,hw⟩
  exact ⟨Yi st,by rw [he,hv],rfl,hb.low.trans (hw.mono hb.low.size)⟩))
 clear hE hT
 go_enter Tryz.func14,Tryz.ntmps14
 go_wp2_with fail
 refine K.out.mono ?_
 rintro e W1 ⟨t,rfl,rfl,b1⟩
 have B1:=hid b1
 clear b1 K
 generalize hpt:Yi st=t at*
 go_wp2_with fail
 refine (zu7 W1).mono ?_
 rintro e W2 ⟨rfl,b2⟩
 have B2:=hid b2
 clear b2
 go_wp2
 go_ret3
 subst hpt
 exact ⟨rfl,B1.out.trans (B2.out.mono B1.out.size)⟩
end Go.Proofs.YtkenoofmkbghiaaGreatDoor
