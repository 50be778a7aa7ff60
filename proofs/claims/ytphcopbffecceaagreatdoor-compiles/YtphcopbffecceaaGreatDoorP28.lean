import Derived.Test.YtphcopbffecceaaGreatDoorP27
set_option maxRecDepth 100000
set_option maxHeartbeats 2000000
namespace Go.Proofs.YtphcopbffecceaaGreatDoor
open Go.RowKit
variable{u v:Value}{c1 c2 c3 fuel g1 g2 g3 j k n:Nat}{l:Nat×Nat}{s:Slot}{t:TypeId}{xs:List Value}{listed:Array Bool}{a:Act}{w:World}
section
variable{D:Nat->Prop}{lab:Nat->Nat×Nat}{w:World}{m:DM}{d:DR}
def DPost(D:Nat->Prop)(w:World)(m:DM)(r:Except Int DR)(e:Ending)(w':World):Prop:=Chg (λb _=>D b) w w'/\match r with
 | .ok d'=>e= .returned (.int .i64 0)/\ ∃lab' m',m'.br=m.br/\m'.bp=m.bp/\DMach D lab' w' m' d'
 | .error er=>e= .returned (.int .i64 er)
theorem DMach.end_is(h:DMach D lab w m d)(hD: ∀k,w.heap.size<=k->D k)(hne:d.opn≠[]->∃N,d.thr.getLast?=some N/\N.length<=1000/\ ∀a∈d.opn,∃k,N[a]?=some k/\(k.1=40\/k.1=108\/k.1=122))(b1:d.opn.length<=4)(b2:d.thr.length<=2000):
  Cl 24 #[ptr m.br] w (DPost D w m (zb9 d)):=by
 rcases List.eq_nil_or_concat d.opn with e|⟨os,a,e⟩
 ·have h5:=h.c5
  obtain ⟨p,c,hv⟩: ∃p c,m.ov= .slice p 0 c:=by
   have hr:=h.orow
   rw [e] at hr
   rcases hr.2 with ⟨e1,_⟩|⟨g,cap,cur,e1,_⟩
   ·exact ⟨_,_,e1⟩
   ·exact ⟨_,_,e1⟩
  rw [hv] at h5
  refine (z3y h5).mono ?_
  rintro e' w' ⟨rfl,rfl⟩
  have:zb9 d= .error 3:=by unfold zb9;rw [e];rfl
  rw [this]
  exact ⟨Chg.refl _ _,rfl⟩
 ·rw [List.concat_eq_append] at e
  obtain ⟨N,hN,hl,hk⟩:=hne ybl
  obtain ⟨k,hka,hkk⟩:=hk a ybl
  have hos:os.length<=3:=by rw [e] at b1;simp at b1;omega
  have hd:zb9 d= .ok {d with opn:=os,thr:=d.thr.dropLast++[N++zo9 (some k)]}:=by
   unfold zb9
   have e1:d.opn.getLast?=some a:=ybl
   have e2:d.opn.dropLast=os:=ybl
   rw [e1,hN,e2]
   dsimp only
   rw [hka]
  rw [hd]
  rcases hkk with q|q|q
  ·have hc:zo9 (some k)=[(41,0)]:=by unfold zo9;dsimp only;rw [if_pos q]
   rw [hc]
   refine (h.end_at hD e hN hka q hos b2 hl).mono ?_
   rintro e' w' ⟨rfl,h1,h2⟩
   exact ⟨h1,rfl,h2⟩
  ·have hc:zo9 (some k)=[(98,0)]:=by unfold zo9;dsimp only;rw [if_neg yai,if_pos q]
   rw [hc]
   refine (h.end_lp hD e hN hka q hos b2 hl).mono ?_
   rintro e' w' ⟨rfl,h1,h2⟩
   exact ⟨h1,rfl,h2⟩
  ·have hc:zo9 (some k)=[]:=by unfold zo9;dsimp only;rw [if_neg yai,if_neg yai]
   rw [hc,List.append_nil]
   refine (h.end_if hD e hN hka q hos b2 hl).mono ?_
   rintro e' w' ⟨rfl,h1,h2⟩
   exact ⟨h1,rfl,h2⟩
end
def FM(D:Nat->Prop)(lab:Nat->Nat×Nat)(m:DM)(L:List (Nat×Nat))(C P:List Nat)(k j:Nat):Prop:=D k->lab k∈L\/(k=m.br/\j∈C)\/(k=m.bp/\j∈P)
section
variable{D:Nat->Prop}{lab:Nat->Nat×Nat}{w w':World}{m:DM}{d:DR}{L:List (Nat×Nat)}{C P:List Nat}
theorem DMach.fm(h:DMach D lab w m d)(hk:lab k=l/\D k)(hl:l∉L)(h0:l≠(0,0))(h1:l≠(0,1)): ∀j,¬FM D lab m L C P k j:=λj e=>by
 rcases e hk.2 with e|e|e
 ·rw [hk.1] at e;exact hl e
 ·exact h0 (hk.1.symm.trans (e.1▸h.lb.1))
 ·exact h1 (hk.1.symm.trans (e.1▸h.lp.1))
theorem DMach.fmb(h:DMach D lab w m d)(h0:(0,0)∉L)(hj:j∉C): ¬FM D lab m L C P m.br j:=λe=>by
 rcases e h.lb.2 with e|e|e
 ·rw [h.lb.1] at e;exact h0 e
 ·exact hj e.2
 ·have:=h.lb.1
  rw [e.1,h.lp.1] at this
  cases this
theorem DMach.fmp(h:DMach D lab w m d)(h0:(0,1)∉L)(hj:j∉P): ¬FM D lab m L C P m.bp j:=λe=>by
 rcases e h.lp.2 with e|e|e
 ·rw [h.lp.1] at e;exact h0 e
 ·have:=h.lp.1
  rw [e.1,h.lb.1] at this
  cases this
 ·exact hj e.2
theorem DMach.kb(h:DMach D lab w m d)(hall:Chg (FM D lab m L C P) w w')(e:w.cell? ⟨m.br,j,none⟩=some v)(h0:(0,0)∉L:=by simp)(hj:j∉C:=by simp):w'.cell? ⟨m.br,j,none⟩=some v:=(hall.cell _ _ (Qd h.sh) (h.fmb h0 hj)).trans e
theorem DMach.kp(h:DMach D lab w m d)(hall:Chg (FM D lab m L C P) w w')(e:w.cell? ⟨m.bp,j,none⟩=some v)(h0:(0,1)∉L:=by simp)(hj:j∉P:=by simp):w'.cell? ⟨m.bp,j,none⟩=some v:=(hall.cell _ _ (Qd h.psh) (h.fmp h0 hj)).trans e
theorem DMach.kr(h:DMach D lab w m d)(hall:Chg (FM D lab m L C P) w w')(hr:w.ownsRow 0 t k v n xs)(hl: ∀g,v.ownBlock=some g->lab g=l/\D g)(hL:l∉L:=by simp)(h0:l≠(0,0):=by simp)(h1:l≠(0,1):=by simp):w'.ownsRow 0 t k v n xs:=Qc hr hall λq hq=>h.fm (hl q hq) hL h0 h1
theorem z6t{lab':Nat->Nat×Nat}(hold: ∀k,k<w.heap.size->lab' k=lab k)(hr:w.ownsRow 0 t k v n xs)(hl: ∀g,v.ownBlock=some g->lab g=l/\D g): ∀g,v.ownBlock=some g->lab' g=l/\D g:=λq hq=>⟨(hold q (hr.lt q hq).2).trans (hl q hq).1,(hl q hq).2⟩
theorem DMach.shareF(h:DMach D lab w m d)(hD: ∀k,w.heap.size<=k->D k)(h0:d.thr=[]){x:ByteArray}{n:Int}
  (r1:w'.ownsRow 0 9 1 (.slice (some ⟨g1,0,none⟩) (d.shared.length+1) c1) (d.shared.length+1) ((d.shared.map λp=> .string p.1)++[.string x]))
  (r2:w'.ownsRow 0 3 1 (.slice (some ⟨g2,0,none⟩) (d.shared.length+1) c2) (d.shared.length+1) ((d.shared.map λp=> .int .i64 p.2.1)++[.int .i64 d.cells]))
  (r3:w'.ownsRow 0 3 1 (.slice (some ⟨g3,0,none⟩) (d.shared.length+1) c3) (d.shared.length+1) ((d.shared.map λp=> .int .i64 p.2.2)++[.int .i64 n]))
  (k1:w'.cell? ⟨m.br,1,none⟩=some (.slice (some ⟨g1,0,none⟩) (d.shared.length+1) c1)) (k2:w'.cell? ⟨m.br,2,none⟩=some (.slice (some ⟨g2,0,none⟩) (d.shared.length+1) c2)) (k3:w'.cell? ⟨m.br,3,none⟩=some (.slice (some ⟨g3,0,none⟩) (d.shared.length+1) c3)) (k4:w'.cell? ⟨m.bp,1,none⟩=some (.int .i64 (d.cells+n)))
  (hg1:m.sv.ownBlock=some g1\/w.heap.size<=g1) (hg2:m.fv.ownBlock=some g2\/w.heap.size<=g2) (hg3:m.zv.ownBlock=some g3\/w.heap.size<=g3) (n12:g2≠g1) (n13:g3≠g1) (n23:g3≠g2)
  (hall:Chg (FM D lab m [(0,2),(0,3),(0,4)] [1,2,3] [1]) w w'):
  ∃lab',DMach D lab' w' {m with sv:=(.slice (some ⟨g1,0,none⟩) (d.shared.length+1) c1),fv:=(.slice (some ⟨g2,0,none⟩) (d.shared.length+1) c2),zv:=(.slice (some ⟨g3,0,none⟩) (d.shared.length+1) c3)} {d with shared:=d.shared++[(x,d.cells,n)],cells:=d.cells+n}:=by
 have lb:=Qd h.sh
 have lp:=Qd h.psh
 have ht0:m.ts=[]:=by have:=h.thr;rw [h0] at this;simpa using this
 have hold: ∀k,k<w.heap.size->(λk=>if k=g1 then (0,2) else if k=g2 then (0,3) else if k=g3 then (0,4) else lab k) k=lab k:=by
  intro k hk
  dsimp only
  by_cases eg1:k=g1
  ·rw [if_pos eg1]
   rcases hg1 with q|q
   ·rw [eg1];exact (h.ls g1 q).1.symm
   ·omega
  rw [if_neg eg1]
  by_cases eg2:k=g2
  ·rw [if_pos eg2]
   rcases hg2 with q|q
   ·rw [eg2];exact (h.lf g2 q).1.symm
   ·omega
  rw [if_neg eg2]
  by_cases eg3:k=g3
  ·rw [if_pos eg3]
   rcases hg3 with q|q
   ·rw [eg3];exact (h.lz g3 q).1.symm
   ·omega
  rw [if_neg eg3]
 have Dg1:D g1:=by
  rcases hg1 with q|q
  ·exact (h.ls g1 q).2
  ·exact hD g1 q
 have Dg2:D g2:=by
  rcases hg2 with q|q
  ·exact (h.lf g2 q).2
  ·exact hD g2 q
 have Dg3:D g3:=by
  rcases hg3 with q|q
  ·exact (h.lz g3 q).2
  ·exact hD g3 q
 refine ⟨λk=>if k=g1 then (0,2) else if k=g2 then (0,3) else if k=g3 then (0,4) else lab k,{
  sh:=(hall.shape _ lb).trans h.sh
  psh:=(hall.shape _ lp).trans h.psh
  free:=λj=>(hall.frozen _ _ lb).trans (h.free j)
  pfree:=λj=>(hall.frozen _ _ lp).trans (h.pfree j)
  c0:=h.kb hall h.c0
  c1:=k1
  c2:=k2
  c3:=k3
  c4:=h.kb hall h.c4
  c5:=h.kb hall h.c5
  c6:=h.kb hall h.c6
  c7:=h.kb hall h.c7
  p0:=h.kp hall h.p0
  p1:=k4
  p2:=h.kp hall h.p2
  p3:=h.kp hall h.p3
  srow:=by simpa using r1
  frow:=by simpa using r2
  zrow:=by simpa using r3
  lrow:=h.kr hall h.lrow h.ll
  orow:=h.kr hall h.orow h.lo
  trow:=h.kr hall h.trow h.lt
  crow:=by
   have h1:=Qc h.crow hall λq hq=>h.fm (h.lc q hq) yaj yaj yaj
   rw [ht0] at h1⊢
   exact h1
  prow:=h.kr hall h.prow h.lq
  thr:=h.thr
  th:=λi t ht=>by rw [ht0] at ht;simp at ht
  lb:=⟨(hold _ lb).trans h.lb.1,h.lb.2⟩
  lp:=⟨(hold _ lp).trans h.lp.1,h.lp.2⟩
  ls:=λq hq=>by
   simp [Value.ownBlock] at hq
   subst hq
   exact ⟨if_pos rfl,Dg1⟩
  lf:=λq hq=>by
   simp [Value.ownBlock] at hq
   subst hq
   exact ⟨(if_neg n12).trans (if_pos rfl),Dg2⟩
  lz:=λq hq=>by
   simp [Value.ownBlock] at hq
   subst hq
   exact ⟨(if_neg n13).trans ((if_neg n23).trans (if_pos rfl)),Dg3⟩
  ll:=z6t hold h.lrow h.ll
  lo:=z6t hold h.orow h.lo
  lt:=z6t hold h.trow h.lt
  lc:=z6t hold h.crow h.lc
  lq:=z6t hold h.prow h.lq
  ln:=λi t ht q hq=>⟨(hold q ((h.th i t ht).row.lt q hq).2).trans (h.ln i t ht q hq).1,(h.ln i t ht q hq).2⟩
  lk:=λi t ht=>⟨(hold _ (Qd (h.th i t ht).ksh)).trans (h.lk i t ht).1,(h.lk i t ht).2⟩
 }⟩
theorem DMach.threadF(h:DMach D lab w m d)(hD: ∀k,w.heap.size<=k->D k){kb:Nat}
  (r1:w'.ownsRow 0 59 1 (.slice (some ⟨g1,0,none⟩) (d.thr.length+1) c1) (d.thr.length+1) (m.ts.map DT.nv++[.slice none 0 0]))
  (r2:w'.ownsRow 0 40 1 (.slice (some ⟨g2,0,none⟩) (d.thr.length+1) c2) (d.thr.length+1) ((m.ts.map λt=> .slice (some ⟨t.kb,0,none⟩) d.cells.toNat d.cells.toNat)++[.slice (some ⟨kb,0,none⟩) d.cells.toNat d.cells.toNat]))
  (r3:w'.ownsRow 0 4 1 (.slice (some ⟨g3,0,none⟩) (d.thr.length+1) c3) (d.thr.length+1) (m.ps.map .bool++[.bool false]))
  (k4:w'.cell? ⟨m.br,4,none⟩=some (.slice none 0 0)) (k6:w'.cell? ⟨m.br,6,none⟩=some (.int .i64 0)) (q0:w'.cell? ⟨m.bp,0,none⟩=some (.slice (some ⟨g1,0,none⟩) (d.thr.length+1) c1)) (q2:w'.cell? ⟨m.bp,2,none⟩=some (.slice (some ⟨g2,0,none⟩) (d.thr.length+1) c2)) (q3:w'.cell? ⟨m.bp,3,none⟩=some (.slice (some ⟨g3,0,none⟩) (d.thr.length+1) c3))
  (ks:w'.shape? kb=some (4,d.cells.toNat)) (kf: ∀j,w'.frozen? ⟨kb,j,none⟩=false)
  (hg1:m.tv.ownBlock=some g1\/w.heap.size<=g1) (hg2:m.cv.ownBlock=some g2\/w.heap.size<=g2) (hg3:m.pv.ownBlock=some g3\/w.heap.size<=g3) (hkb:w.heap.size<=kb) (n12:g2≠g1) (n13:g3≠g1) (n23:g3≠g2) (n1:kb≠g1) (n2:kb≠g2) (n3:kb≠g3)
  (hall:Chg (FM D lab m [(0,7),(0,8),(0,9)] [4,6] [0,2,3]) w w'):
  ∃lab',DMach D lab' w' {m with tv:=(.slice (some ⟨g1,0,none⟩) (d.thr.length+1) c1),cv:=(.slice (some ⟨g2,0,none⟩) (d.thr.length+1) c2),pv:=(.slice (some ⟨g3,0,none⟩) (d.thr.length+1) c3),lv:= .slice none 0 0,ps:=m.ps++[false],ts:=m.ts++[⟨.slice none 0 0,kb,[],[]⟩]} {d with thr:=d.thr++[[]],locals:=[],stmts:=0}:=by
 have lb:=Qd h.sh
 have lp:=Qd h.psh
 have hlen:=Sl h
 have hnew: ∀(i:Nat) (q:DT),(m.ts++[(⟨.slice none 0 0,kb,[],[]⟩:DT)])[i]?=some q->(i<d.thr.length/\m.ts[i]?=some q)\/(i=d.thr.length/\q=⟨.slice none 0 0,kb,[],[]⟩):=by
  intro i q hi
  rw [<-hlen]
  by_cases c:i<m.ts.length
  ·rw [List.getElem?_append_left c] at hi
   exact .inl ⟨c,hi⟩
  ·have:i=m.ts.length:=by
    have:=(List.getElem?_eq_some_iff.1 hi).1
    rw [List.length_append,List.length_singleton] at this
    omega
   subst this
   exact .inr ⟨rfl,by simpa using hi.symm⟩
 have hold: ∀k,k<w.heap.size->(λk=>if k=g1 then (0,7) else if k=g2 then (0,8) else if k=g3 then (0,9) else if k=kb then (d.thr.length+1,1) else lab k) k=lab k:=by
  intro k hk
  dsimp only
  by_cases eg1:k=g1
  ·rw [if_pos eg1]
   rcases hg1 with q|q
   ·rw [eg1];exact (h.lt g1 q).1.symm
   ·omega
  rw [if_neg eg1]
  by_cases eg2:k=g2
  ·rw [if_pos eg2]
   rcases hg2 with q|q
   ·rw [eg2];exact (h.lc g2 q).1.symm
   ·omega
  rw [if_neg eg2]
  by_cases eg3:k=g3
  ·rw [if_pos eg3]
   rcases hg3 with q|q
   ·rw [eg3];exact (h.lq g3 q).1.symm
   ·omega
  rw [if_neg eg3]
  by_cases ekb:k=kb
  ·rw [if_pos ekb]
   omega
  rw [if_neg ekb]
 have Dg1:D g1:=by
  rcases hg1 with q|q
  ·exact (h.lt g1 q).2
  ·exact hD g1 q
 have Dg2:D g2:=by
  rcases hg2 with q|q
  ·exact (h.lc g2 q).2
  ·exact hD g2 q
 have Dg3:D g3:=by
  rcases hg3 with q|q
  ·exact (h.lq g3 q).2
  ·exact hD g3 q
 have Dkb:D kb:=hD kb hkb
 refine ⟨λk=>if k=g1 then (0,7) else if k=g2 then (0,8) else if k=g3 then (0,9) else if k=kb then (d.thr.length+1,1) else lab k,{
  sh:=(hall.shape _ lb).trans h.sh
  psh:=(hall.shape _ lp).trans h.psh
  free:=λj=>(hall.frozen _ _ lb).trans (h.free j)
  pfree:=λj=>(hall.frozen _ _ lp).trans (h.pfree j)
  c0:=h.kb hall h.c0
  c1:=h.kb hall h.c1
  c2:=h.kb hall h.c2
  c3:=h.kb hall h.c3
  c4:=k4
  c5:=h.kb hall h.c5
  c6:=k6
  c7:=h.kb hall h.c7
  p0:=q0
  p1:=h.kp hall h.p1
  p2:=q2
  p3:=q3
  srow:=h.kr hall h.srow h.ls
  frow:=h.kr hall h.frow h.lf
  zrow:=h.kr hall h.zrow h.lz
  lrow:=⟨rfl, .inl ⟨rfl,rfl⟩⟩
  orow:=h.kr hall h.orow h.lo
  trow:=by simpa using r1
  crow:=by simpa using r2
  prow:=by simpa using r3
  thr:=by
   show (m.ts++[_]).map DT.N=d.thr++[[]]
   rw [List.map_append,h.thr]
   rfl
  th:=λi t ht=>by
   rcases hnew i t ht with ⟨_,ht'⟩|⟨_,rfl⟩
   ·exact (h.th i t ht').keep hall λq hq=>h.fm (h.ln i t ht' q hq) yaj yaj yaj
   ·exact ⟨⟨rfl, .inl ⟨rfl,rfl⟩⟩,⟨rfl,λi k e=>by simp at e,λi k e=>by simp at e,λi e=>by simp at e⟩,ks,kf⟩
  lb:=⟨(hold _ lb).trans h.lb.1,h.lb.2⟩
  lp:=⟨(hold _ lp).trans h.lp.1,h.lp.2⟩
  ls:=z6t hold h.srow h.ls
  lf:=z6t hold h.frow h.lf
  lz:=z6t hold h.zrow h.lz
  ll:=λq hq=>by simp [Value.ownBlock] at hq
  lo:=z6t hold h.orow h.lo
  lt:=λq hq=>by
   simp [Value.ownBlock] at hq
   subst hq
   exact ⟨if_pos rfl,Dg1⟩
  lc:=λq hq=>by
   simp [Value.ownBlock] at hq
   subst hq
   exact ⟨(if_neg n12).trans (if_pos rfl),Dg2⟩
  lq:=λq hq=>by
   simp [Value.ownBlock] at hq
   subst hq
   exact ⟨(if_neg n13).trans ((if_neg n23).trans (if_pos rfl)),Dg3⟩
  ln:=λi t ht q hq=>by
   rcases hnew i t ht with ⟨_,ht'⟩|⟨_,rfl⟩
   ·exact ⟨(hold q ((h.th i t ht').row.lt q hq).2).trans (h.ln i t ht' q hq).1,(h.ln i t ht' q hq).2⟩
   ·simp [Value.ownBlock] at hq
  lk:=λi t ht=>by
   rcases hnew i t ht with ⟨_,ht'⟩|⟨rfl,rfl⟩
   ·exact ⟨(hold _ (Qd (h.th i t ht').ksh)).trans (h.lk i t ht').1,(h.lk i t ht').2⟩
   ·exact ⟨(if_neg n1).trans ((if_neg n2).trans ((if_neg n3).trans (if_pos rfl))),Dkb⟩
 }⟩
theorem DMach.openF(h:DMach D lab w m d)(hD: ∀k,w.heap.size<=k->D k){a:Nat}
  (r1:w'.ownsRow 0 3 1 (.slice (some ⟨g1,0,none⟩) (d.opn.length+1) c1) (d.opn.length+1) ((d.opn.map λ(k:Nat)=> .int .i64 (k:Int))++[.int .i64 (a:Int)]))
  (k5:w'.cell? ⟨m.br,5,none⟩=some (.slice (some ⟨g1,0,none⟩) (d.opn.length+1) c1)) (hg1:m.ov.ownBlock=some g1\/w.heap.size<=g1)
  (hall:Chg (FM D lab m [(0,6)] [5] []) w w'):
  ∃lab',DMach D lab' w' {m with ov:=(.slice (some ⟨g1,0,none⟩) (d.opn.length+1) c1)} {d with opn:=d.opn++[a]}:=by
 have lb:=Qd h.sh
 have lp:=Qd h.psh
 have hold: ∀k,k<w.heap.size->(λk=>if k=g1 then (0,6) else lab k) k=lab k:=by
  intro k hk
  dsimp only
  by_cases eg1:k=g1
  ·rw [if_pos eg1]
   rcases hg1 with q|q
   ·rw [eg1];exact (h.lo g1 q).1.symm
   ·omega
  rw [if_neg eg1]
 have Dg1:D g1:=by
  rcases hg1 with q|q
  ·exact (h.lo g1 q).2
  ·exact hD g1 q
 refine ⟨λk=>if k=g1 then (0,6) else lab k,{
  sh:=(hall.shape _ lb).trans h.sh
  psh:=(hall.shape _ lp).trans h.psh
  free:=λj=>(hall.frozen _ _ lb).trans (h.free j)
  pfree:=λj=>(hall.frozen _ _ lp).trans (h.pfree j)
  c0:=h.kb hall h.c0
  c1:=h.kb hall h.c1
  c2:=h.kb hall h.c2
  c3:=h.kb hall h.c3
  c4:=h.kb hall h.c4
  c5:=k5
  c6:=h.kb hall h.c6
  c7:=h.kb hall h.c7
  p0:=h.kp hall h.p0
  p1:=h.kp hall h.p1
  p2:=h.kp hall h.p2
  p3:=h.kp hall h.p3
  srow:=h.kr hall h.srow h.ls
  frow:=h.kr hall h.frow h.lf
  zrow:=h.kr hall h.zrow h.lz
  lrow:=h.kr hall h.lrow h.ll
  orow:=by simpa using r1
  trow:=h.kr hall h.trow h.lt
  crow:=h.kr hall h.crow h.lc
  prow:=h.kr hall h.prow h.lq
  thr:=h.thr
  th:=λi t ht=>(h.th i t ht).keep hall λq hq=>h.fm (h.ln i t ht q hq) yaj yaj yaj
  lb:=⟨(hold _ lb).trans h.lb.1,h.lb.2⟩
  lp:=⟨(hold _ lp).trans h.lp.1,h.lp.2⟩
  ls:=z6t hold h.srow h.ls
  lf:=z6t hold h.frow h.lf
  lz:=z6t hold h.zrow h.lz
  ll:=z6t hold h.lrow h.ll
  lo:=λq hq=>by
   simp [Value.ownBlock] at hq
   subst hq
   exact ⟨if_pos rfl,Dg1⟩
  lt:=z6t hold h.trow h.lt
  lc:=z6t hold h.crow h.lc
  lq:=z6t hold h.prow h.lq
  ln:=λi t ht q hq=>⟨(hold q ((h.th i t ht).row.lt q hq).2).trans (h.ln i t ht q hq).1,(h.ln i t ht q hq).2⟩
  lk:=λi t ht=>⟨(hold _ (Qd (h.th i t ht).ksh)).trans (h.lk i t ht).1,(h.lk i t ht).2⟩
 }⟩
theorem DMach.stmtF(h:DMach D lab w m d){s:Nat}(k6:w'.cell? ⟨m.br,6,none⟩=some (.int .i64 s))(hall:Chg (FM D lab m [] [6] []) w w'):DMach D lab w' m {d with stmts:=s}:=by
 have lb:=Qd h.sh
 have lp:=Qd h.psh
 exact {
  sh:=(hall.shape _ lb).trans h.sh
  psh:=(hall.shape _ lp).trans h.psh
  free:=λj=>(hall.frozen _ _ lb).trans (h.free j)
  pfree:=λj=>(hall.frozen _ _ lp).trans (h.pfree j)
  c0:=h.kb hall h.c0
  c1:=h.kb hall h.c1
  c2:=h.kb hall h.c2
  c3:=h.kb hall h.c3
  c4:=h.kb hall h.c4
  c5:=h.kb hall h.c5
  c6:=k6
  c7:=h.kb hall h.c7
  p0:=h.kp hall h.p0
  p1:=h.kp hall h.p1
  p2:=h.kp hall h.p2
  p3:=h.kp hall h.p3
  srow:=h.kr hall h.srow h.ls
  frow:=h.kr hall h.frow h.lf
  zrow:=h.kr hall h.zrow h.lz
  lrow:=h.kr hall h.lrow h.ll
  orow:=h.kr hall h.orow h.lo
  trow:=h.kr hall h.trow h.lt
  crow:=h.kr hall h.crow h.lc
  prow:=h.kr hall h.prow h.lq
  thr:=h.thr
  th:=λi t ht=>(h.th i t ht).keep hall λq hq=>h.fm (h.ln i t ht q hq) yaj yaj yaj
  lb:=h.lb
  lp:=h.lp
  ls:=h.ls
  lf:=h.lf
  lz:=h.lz
  ll:=h.ll
  lo:=h.lo
  lt:=h.lt
  lc:=h.lc
  lq:=h.lq
  ln:=h.ln
  lk:=h.lk
 }
theorem DMach.putF(h:DMach D lab w m d){qs:List Bool}(r:w'.ownsRow 0 4 1 m.pv d.thr.length (qs.map .bool))(hall:Chg (FM D lab m [(0,9)] [] []) w w'):DMach D lab w' {m with ps:=qs} d:=by
 have lb:=Qd h.sh
 have lp:=Qd h.psh
 exact {
  sh:=(hall.shape _ lb).trans h.sh
  psh:=(hall.shape _ lp).trans h.psh
  free:=λj=>(hall.frozen _ _ lb).trans (h.free j)
  pfree:=λj=>(hall.frozen _ _ lp).trans (h.pfree j)
  c0:=h.kb hall h.c0
  c1:=h.kb hall h.c1
  c2:=h.kb hall h.c2
  c3:=h.kb hall h.c3
  c4:=h.kb hall h.c4
  c5:=h.kb hall h.c5
  c6:=h.kb hall h.c6
  c7:=h.kb hall h.c7
  p0:=h.kp hall h.p0
  p1:=h.kp hall h.p1
  p2:=h.kp hall h.p2
  p3:=h.kp hall h.p3
  srow:=h.kr hall h.srow h.ls
  frow:=h.kr hall h.frow h.lf
  zrow:=h.kr hall h.zrow h.lz
  lrow:=h.kr hall h.lrow h.ll
  orow:=h.kr hall h.orow h.lo
  trow:=h.kr hall h.trow h.lt
  crow:=h.kr hall h.crow h.lc
  prow:=r
  thr:=h.thr
  th:=λi t ht=>(h.th i t ht).keep hall λq hq=>h.fm (h.ln i t ht q hq) yaj yaj yaj
  lb:=h.lb
  lp:=h.lp
  ls:=h.ls
  lf:=h.lf
  lz:=h.lz
  ll:=h.ll
  lo:=h.lo
  lt:=h.lt
  lc:=h.lc
  lq:=h.lq
  ln:=h.ln
  lk:=h.lk
 }
theorem DMach.touchF(h:DMach D lab w m d){i:Nat}(hall:Chg (FM D lab m [(i+1,1)] [] []) w w'):DMach D lab w' m d:=by
 have lb:=Qd h.sh
 have lp:=Qd h.psh
 exact {
  sh:=(hall.shape _ lb).trans h.sh
  psh:=(hall.shape _ lp).trans h.psh
  free:=λj=>(hall.frozen _ _ lb).trans (h.free j)
  pfree:=λj=>(hall.frozen _ _ lp).trans (h.pfree j)
  c0:=h.kb hall h.c0
  c1:=h.kb hall h.c1
  c2:=h.kb hall h.c2
  c3:=h.kb hall h.c3
  c4:=h.kb hall h.c4
  c5:=h.kb hall h.c5
  c6:=h.kb hall h.c6
  c7:=h.kb hall h.c7
  p0:=h.kp hall h.p0
  p1:=h.kp hall h.p1
  p2:=h.kp hall h.p2
  p3:=h.kp hall h.p3
  srow:=h.kr hall h.srow h.ls
  frow:=h.kr hall h.frow h.lf
  zrow:=h.kr hall h.zrow h.lz
  lrow:=h.kr hall h.lrow h.ll
  orow:=h.kr hall h.orow h.lo
  trow:=h.kr hall h.trow h.lt
  crow:=h.kr hall h.crow h.lc
  prow:=h.kr hall h.prow h.lq
  thr:=h.thr
  th:=λi t ht=>(h.th i t ht).keep hall λq hq=>h.fm (h.ln i t ht q hq) yaj yaj yaj
  lb:=h.lb
  lp:=h.lp
  ls:=h.ls
  lf:=h.lf
  lz:=h.lz
  ll:=h.ll
  lo:=h.lo
  lt:=h.lt
  lc:=h.lc
  lq:=h.lq
  ln:=h.ln
  lk:=h.lk
 }
end
section
variable{P:Program}{ops:Array Oper}{Q:Exit->Act->World->Prop}{md:Region.Mode}{S:World->Prop}
theorem tk(i:Nat){oi:Oper}(hi:ops[i]?=some oi)(hy:YieldsIf P ops S oi v a)(hS:S w)(h:wpAnyH P md ops Q S fuel (listed.setIfInBounds i true) (a.put oi.dst v) w)
  (hs:Region.noSelect ops=true:=by kernel_rfl) (hf:Region.free md ops listed i=true:=by kernel_rfl) (hr:(Region.ready md ops listed).contains i=true:=by kernel_rfl) (hQ: ∀c a w,Q (.panic c) (a.put oi.dst v) w->Q (.panic c) a w:=by exact λ_ _ _ h=>h):wpAnyH P md ops Q S (fuel+1) listed a w:=wpAnyH_take hi hs hf hr hQ hy hS h
theorem tr(rs:List Nat)(h:AllReadyH P md ops Q S fuel listed a w rs)(hr:Region.ready md ops listed=rs:=by kernel_rfl)(hne:rs≠[]:=by simp):wpAnyH P md ops Q S (fuel+1) listed a w:=wpAnyH_ready hr hne h
end
structure Slot where
 id:Nat
 b:Nat
 o:Nat
 t:TypeId
 v:Value
 n:Nat
 xs:List Value
 v0:Value
structure SlotsAt(M:Nat->Nat->Prop)(w wr:World)(K:List (Nat×Nat×Value))(F:List (Nat×Nat))(S:List Slot):Prop where
 chg:Chg M w wr
 uniq: ∀s∈S,∀q∈S,s.id=q.id->s=q
 cell: ∀s∈S,wr.cell? ⟨s.b,s.o,none⟩=some s.v
 free: ∀s∈S,wr.frozen? ⟨s.b,s.o,none⟩=false
 row: ∀s∈S,wr.ownsRow 0 s.t 1 s.v s.n s.xs
 keep: ∀q∈K,wr.cell? ⟨q.1,q.2.1,none⟩=some q.2.2
 fr: ∀q∈F,q.1<wr.heap.size/\wr.frozen? ⟨q.1,q.2,none⟩=false
 dis: ∀s∈S,∀q∈S,s.id≠q.id->(s.b≠q.b\/s.o≠q.o)/\ ∀g,s.v.ownBlock=some g->q.v.ownBlock≠some g
 nb: ∀s∈S,∀g,s.v.ownBlock=some g->(∀q∈S,g≠q.b)/\ ∀q∈K,g≠q.1
 nk: ∀s∈S,∀q∈K,s.b≠q.1\/s.o≠q.2.1
 old: ∀s∈S,∀g,s.v.ownBlock=some g->g<w.heap.size->∀j,M g j
 slot: ∀s∈S,s.b<w.heap.size->M s.b s.o
 org: ∀s∈S,∀g,s.v.ownBlock=some g->s.v0.ownBlock=some g\/w.heap.size<=g
section
variable{M:Nat->Nat->Prop}{w wr X w3:World}{K K':List (Nat×Nat×Value)}{F:List (Nat×Nat)}{S:List Slot}
def Slot.more(s:Slot)(g c:Nat)(u:Value):Slot:={s with v:= .slice (some ⟨g,0,none⟩) (s.n+1) c,n:=s.n+1,xs:=s.xs++[u]}
def zfy(S:List Slot)(s:Slot):List Slot:=S.map λq=>if q.id=s.id then s else q
theorem zpg{s':Slot}(_hid:s'.id=s.id): ∀q∈zfy S s',q=s'\/(q∈S/\q.id≠s'.id):=by
 intro q hq
 unfold zfy at hq
 rw [List.mem_map] at hq
 obtain ⟨p,hp,e⟩:=hq
 by_cases c:p.id=s'.id
 ·rw [if_pos c] at e;exact .inl e.symm
 ·rw [if_neg c] at e;subst e;exact .inr ⟨hp,c⟩
theorem SlotsAt.push(h:SlotsAt M w wr K F S)(hs:s∈S){g c:Nat}(hX:Below wr.heap.size wr X)(ho:w3.ownsRow 0 s.t 1 (.slice (some ⟨g,0,none⟩) (s.n+1) c) (s.n+1) (s.xs++[u]))
  (hch:Chg (λb _=>s.v.ownBlock=some b) X w3) (hg:s.v.ownBlock=some g\/g=X.heap.size):
  SlotsAt M w (w3.setCell ⟨s.b,s.o,none⟩ (.slice (some ⟨g,0,none⟩) (s.n+1) c)) K F (zfy S (s.more g c u)):=by
 have hXc:Chg (λb _=>s.v.ownBlock=some b) wr X:=Chg.of_below hX
 have hc:Chg (λb _=>s.v.ownBlock=some b) wr w3:=hXc.trans hch
 have ls: ∀q∈S,q.b<wr.heap.size:=λq hq=>blt (h.cell q hq)
 have lk: ∀q∈K,q.1<wr.heap.size:=λq hq=>blt (h.keep q hq)
 have hset:Chg (λk j=>k=s.b/\j=s.o) w3 (w3.setCell ⟨s.b,s.o,none⟩ (.slice (some ⟨g,0,none⟩) (s.n+1) c)):=(Chg.refl _ w3).setCell (λ_=>⟨rfl,rfl⟩) _
 have hgn:(∀q∈S,g≠q.b)/\ ∀q∈K,g≠q.1:=by
  rcases hg with e|e
  ·exact h.nb s hs g e
  ·have:=hX.size
   exact ⟨λq hq=>by have:=ls q hq;omega,λq hq=>by have:=lk q hq;omega⟩
 have hall:Chg (λk j=>s.v.ownBlock=some k\/(k=s.b/\j=s.o)) wr (w3.setCell ⟨s.b,s.o,none⟩ (.slice (some ⟨g,0,none⟩) (s.n+1) c)):=(hc.mono λ_ _ _ e=> .inl e).trans (hset.mono λ_ _ _ e=> .inr e)
 have mem:=zpg (S:=S) (s:=s) (s':=s.more g c u) rfl
 have hsb: ¬s.v.ownBlock=some s.b:=λe=>(h.nb s hs _ e).1 s hs rfl
 have hgo: ∀q∈S,q.id≠s.id->q.v.ownBlock≠some g:=λq hq hne e=>by
  rcases hg with e'|e'
  ·exact (h.dis s hs q hq (λe=>hne e.symm)).2 g e' e
  ·have:=((h.row q hq).lt g e).2
   have:=hX.size
   omega
 have hrow: ∀q∈S,q.id≠s.id->(w3.setCell ⟨s.b,s.o,none⟩ (.slice (some ⟨g,0,none⟩) (s.n+1) c)).ownsRow 0 q.t 1 q.v q.n q.xs:=λq hq hne=>
  Qc (h.row q hq) hall λb hb j e=>by
   rcases e with e|e
   ·exact (h.dis q hq s hs hne).2 b hb e
   ·exact (h.nb q hq b hb).1 s hs e.1
 refine {
  chg:=h.chg.then hall (λk j hk e=>?_)
  uniq:=?_
  cell:=λq hq=>?_
  free:=λq hq=>?_
  row:=λq hq=>?_
  keep:=λq hq=>?_
  fr:=λq hq=>⟨Nat.lt_of_lt_of_le (h.fr q hq).1 hall.size,(hall.frozen _ _ (h.fr q hq).1).trans (h.fr q hq).2⟩
  dis:=?_
  nb:=λq hq b hb=>?_
  nk:=λq hq p hp=>?_
  old:=λq hq b hb hlt j=>?_
  slot:=λq hq hlt=>?_
  org:=λq hq b hb=>?_}
 ·rcases e with e|e
  ·exact h.old s hs k e hk j
  ·rw [e.1,e.2];exact h.slot s hs (e.1▸hk)
 ·intro q hq p hp e
  rcases mem q hq with rfl|⟨hq,nq⟩<;>rcases mem p hp with rfl|⟨hp,np⟩
  ·rfl
  ·exact absurd e.symm np
  ·exact absurd e nq
  ·exact h.uniq q hq p hp e
 ·rcases mem q hq with rfl|⟨hq,nq⟩
  ·exact Qg ((hc.cell _ _ (ls s hs) hsb).trans (h.cell s hs)) rfl
  ·refine (hall.cell _ _ (ls q hq) ?_).trans (h.cell q hq)
   rintro (e|e)
   ·exact (h.nb s hs _ e).1 q hq rfl
   ·rcases (h.dis q hq s hs nq).1 with a|a
    ·exact a e.1
    ·exact a e.2
 ·rcases mem q hq with rfl|⟨hq,nq⟩
  ·exact (hall.frozen _ _ (ls s hs)).trans (h.free s hs)
  ·exact (hall.frozen _ _ (ls q hq)).trans (h.free q hq)
 ·rcases mem q hq with rfl|⟨hq,nq⟩
  ·exact Qc ho hset (λb hb j e=>hgn.1 s hs ((show g=b by simpa [Slot.more,Value.ownBlock] using hb).trans e.1))
  ·exact hrow q hq nq
 ·refine (hall.cell _ _ (lk q hq) ?_).trans (h.keep q hq)
  rintro (e|e)
  ·exact (h.nb s hs _ e).2 q hq rfl
  ·rcases h.nk s hs q hq with a|a
   ·exact a e.1.symm
   ·exact a e.2.symm
 ·intro q hq p hp hne
  rcases mem q hq with rfl|⟨hq,nq⟩<;>rcases mem p hp with rfl|⟨hp,np⟩
  ·exact absurd rfl hne
  ·refine ⟨(h.dis s hs p hp (λe=>np e.symm)).1,λb hb=>?_⟩
   simp [Slot.more,Value.ownBlock] at hb
   subst hb
   exact hgo p hp np
  ·refine ⟨(h.dis q hq s hs nq).1,λb hb e=>?_⟩
   simp [Slot.more,Value.ownBlock] at e
   subst e
   exact hgo q hq nq hb
  ·exact h.dis q hq p hp hne
 ·have:(∀p∈S,b≠p.b)/\ ∀p∈K,b≠p.1:=by
   rcases mem q hq with rfl|⟨hq,nq⟩
   ·simp [Slot.more,Value.ownBlock] at hb
    subst hb
    exact hgn
   ·exact h.nb q hq b hb
  refine ⟨λp hp=>?_,this.2⟩
  rcases mem p hp with rfl|⟨hp,np⟩
  ·exact this.1 s hs
  ·exact this.1 p hp
 ·rcases mem q hq with rfl|⟨hq,nq⟩
  ·exact h.nk s hs p hp
  ·exact h.nk q hq p hp
 ·rcases mem q hq with rfl|⟨hq,nq⟩
  ·simp [Slot.more,Value.ownBlock] at hb
   subst hb
   rcases hg with e|e
   ·exact h.old s hs g e hlt j
   ·have:=hX.size
    have:=h.chg.size
    omega
  ·exact h.old q hq b hb hlt j
 ·rcases mem q hq with rfl|⟨hq,nq⟩
  ·exact h.slot s hs hlt
  ·exact h.slot q hq hlt
 ·rcases mem q hq with rfl|⟨hq,nq⟩
  ·simp [Slot.more,Value.ownBlock] at hb
   subst hb
   rcases hg with e|e
   ·exact h.org s hs g e
   ·have:=hX.size
    have:=h.chg.size
    exact .inr yai
  ·exact h.org q hq b hb
theorem SlotsAt.mid(h:SlotsAt M w wr K F S)(hs:s∈S)(hX:Below wr.heap.size wr X)(hch:Chg (λb _=>s.v.ownBlock=some b) X w3):
  (∀q∈S,w3.cell? ⟨q.b,q.o,none⟩=some q.v/\w3.frozen? ⟨q.b,q.o,none⟩=false)/\ ∀q∈K,w3.cell? ⟨q.1,q.2.1,none⟩=some q.2.2:=by
 have hXc:Chg (λb _=>s.v.ownBlock=some b) wr X:=Chg.of_below hX
 have hc:Chg (λb _=>s.v.ownBlock=some b) wr w3:=hXc.trans hch
 have ls: ∀q∈S,q.b<wr.heap.size:=λq hq=>blt (h.cell q hq)
 refine ⟨λq hq=>⟨(hc.cell _ _ (ls q hq) λe=>(h.nb s hs _ e).1 q hq rfl).trans (h.cell q hq),(hc.frozen _ _ (ls q hq)).trans (h.free q hq)⟩,λq hq=>(hc.cell _ _ (blt (h.keep q hq)) λe=>(h.nb s hs _ e).2 q hq rfl).trans (h.keep q hq)⟩
section
variable{s0 s1 s2:Slot}{g c:Nat}{u:Value}
theorem SlotsAt.push0(h:SlotsAt M w wr K F [s0,s1,s2])(e0:s0.id=0)(e1:s1.id=1)(e2:s2.id=2)(hX:Below wr.heap.size wr X)(ho:w3.ownsRow 0 s0.t 1 (.slice (some ⟨g,0,none⟩) (s0.n+1) c) (s0.n+1) (s0.xs++[u]))
  (hch:Chg (λb _=>s0.v.ownBlock=some b) X w3) (hg:s0.v.ownBlock=some g\/g=X.heap.size):SlotsAt M w (w3.setCell ⟨s0.b,s0.o,none⟩ (.slice (some ⟨g,0,none⟩) (s0.n+1) c)) K F [s0.more g c u,s1,s2]:=by
 have:=h.push (s:=s0) yaj hX ho hch hg
 simpa [zfy,Slot.more,e0,e1,e2] using this
theorem SlotsAt.push1(h:SlotsAt M w wr K F [s0,s1,s2])(e0:s0.id=0)(e1:s1.id=1)(e2:s2.id=2)(hX:Below wr.heap.size wr X)(ho:w3.ownsRow 0 s1.t 1 (.slice (some ⟨g,0,none⟩) (s1.n+1) c) (s1.n+1) (s1.xs++[u]))
  (hch:Chg (λb _=>s1.v.ownBlock=some b) X w3) (hg:s1.v.ownBlock=some g\/g=X.heap.size):SlotsAt M w (w3.setCell ⟨s1.b,s1.o,none⟩ (.slice (some ⟨g,0,none⟩) (s1.n+1) c)) K F [s0,s1.more g c u,s2]:=by
 have:=h.push (s:=s1) yaj hX ho hch hg
 simpa [zfy,Slot.more,e0,e1,e2] using this
theorem SlotsAt.push2(h:SlotsAt M w wr K F [s0,s1,s2])(e0:s0.id=0)(e1:s1.id=1)(e2:s2.id=2)(hX:Below wr.heap.size wr X)(ho:w3.ownsRow 0 s2.t 1 (.slice (some ⟨g,0,none⟩) (s2.n+1) c) (s2.n+1) (s2.xs++[u]))
  (hch:Chg (λb _=>s2.v.ownBlock=some b) X w3) (hg:s2.v.ownBlock=some g\/g=X.heap.size):SlotsAt M w (w3.setCell ⟨s2.b,s2.o,none⟩ (.slice (some ⟨g,0,none⟩) (s2.n+1) c)) K F [s0,s1,s2.more g c u]:=by
 have:=h.push (s:=s2) yaj hX ho hch hg
 simpa [zfy,Slot.more,e0,e1,e2] using this
end
theorem SlotsAt.below(h:SlotsAt M w wr K F S)(hX:Below wr.heap.size wr X):SlotsAt M w X K F S:=by
 have hc:Chg (λ_ _=>False) wr X:=Chg.of_below hX
 have ls: ∀q∈S,q.b<wr.heap.size:=λq hq=>blt (h.cell q hq)
 exact {h with
  chg:=h.chg.then hc (λ_ _ _ e=>e.elim)
  cell:=λq hq=>(hc.cell _ _ (ls q hq) id).trans (h.cell q hq)
  free:=λq hq=>(hc.frozen _ _ (ls q hq)).trans (h.free q hq)
  row:=λq hq=>Qc (h.row q hq) hc λ_ _ _ e=>e
  keep:=λq hq=>(hc.cell _ _ (blt (h.keep q hq)) id).trans (h.keep q hq)
  fr:=λq hq=>⟨Nat.lt_of_lt_of_le (h.fr q hq).1 hc.size,(hc.frozen _ _ (h.fr q hq).1).trans (h.fr q hq).2⟩}
theorem SlotsAt.set(h:SlotsAt M w wr K F S){b o:Nat}{v0:Value}(hv:wr.cell? ⟨b,o,none⟩=some v0)(hb: ∀s∈S,(s.b≠b\/s.o≠o)/\ ∀g,s.v.ownBlock=some g->g≠b)(hM:b<w.heap.size->M b o)(hK: ∀q∈K',(q∈K/\(q.1≠b\/q.2.1≠o))\/q=(b,o,v)):
  SlotsAt M w (wr.setCell ⟨b,o,none⟩ v) K' F S:=by
 have hset:Chg (λk j=>k=b/\j=o) wr (wr.setCell ⟨b,o,none⟩ v):=(Chg.refl _ wr).setCell (λ_=>⟨rfl,rfl⟩) _
 have ls: ∀q∈S,q.b<wr.heap.size:=λq hq=>blt (h.cell q hq)
 exact {h with
  chg:=h.chg.then hset (λk j hk e=>by rw [e.1,e.2];exact hM (e.1▸hk))
  cell:=λq hq=>by
   refine (hset.cell _ _ (ls q hq) ?_).trans (h.cell q hq)
   rintro ⟨e1,e2⟩
   exact ((hb q hq).1).elim (λa=>a e1) (λa=>a e2)
  free:=λq hq=>(hset.frozen _ _ (ls q hq)).trans (h.free q hq)
  row:=λq hq=>Qc (h.row q hq) hset λg hg j e=>(hb q hq).2 g hg e.1
  keep:=λq hq=>by
   rcases hK q hq with ⟨hq,a⟩|rfl
   ·refine (hset.cell _ _ (blt (h.keep q hq)) ?_).trans (h.keep q hq)
    rintro ⟨e1,e2⟩
    exact a.elim (λa=>a e1) (λa=>a e2)
   ·exact Qg hv rfl
  fr:=λq hq=>⟨Nat.lt_of_lt_of_le (h.fr q hq).1 hset.size,(hset.frozen _ _ (h.fr q hq).1).trans (h.fr q hq).2⟩
  nb:=λq hq g hg=>⟨(h.nb q hq g hg).1,λp hp=>by
   rcases hK p hp with ⟨hp,_⟩|rfl
   ·exact (h.nb q hq g hg).2 p hp
   ·exact (hb q hq).2 g hg⟩
  nk:=λq hq p hp=>by
   rcases hK p hp with ⟨hp,_⟩|rfl
   ·exact h.nk q hq p hp
   ·exact (hb q hq).1}
end
structure XV where
 k:Nat
 v:Int
 op:ByteArray
 al:Bool
 av:Int
 bl:Bool
 bv:Int
 tl:Bool
 tv:Int
 fi:Int
 si:Int
 to:Int
 n:Int
 dp:Int
def XV.cells(X:XV):List Value:=[.int .u8 X.k, .int .i64 X.v, .string X.op, .bool X.al, .int .i64 X.av, .bool X.bl, .int .i64 X.bv, .bool X.tl, .int .i64 X.tv, .int .i64 X.fi, .int .i64 X.si, .int .i64 X.to, .int .i64 X.n, .int .i64 X.dp]
structure XAt(w:World)(bx:Nat)(X:XV):Prop where
 c: ∀j u,X.cells[j]?=some u->w.cell? ⟨bx,j,none⟩=some u
 f: ∀j,w.frozen? ⟨bx,j,none⟩=false
section
variable{D D':Nat->Prop}{lab:Nat->Nat×Nat}{w w':World}{m:DM}{d:DR}{bx:Nat}{X X':XV}{M:Nat->Nat->Prop}
theorem XAt.lt(h:XAt w bx X):bx<w.heap.size:=blt (h.c 0 _ rfl)
theorem XAt.keep(h:XAt w bx X)(hc:Chg M w w')(hM: ∀j,¬M bx j):XAt w' bx X:=
 ⟨λj u hj=>(hc.cell _ _ h.lt (hM j)).trans (h.c j u hj),λj=>(hc.frozen _ _ h.lt).trans (h.f j)⟩
theorem XAt.below(h:XAt w bx X)(hb:Below w.heap.size w w'):XAt w' bx X:=h.keep (M:=λ_ _=>False) (Chg.of_below hb) (λ_ e=>e)
theorem XAt.set(h:XAt w bx X)(hj:j<14)(hX:X'.cells=X.cells.set j u):XAt (w.setCell ⟨bx,j,none⟩ u) bx X' where
 c:=λi v hi=>by
  rw [hX] at hi
  by_cases e:i=j
  ·subst e
   rw [List.getElem?_set_self (by unfold XV.cells;simpa using hj)] at hi
   cases hi
   exact Qg (h.c i _ (List.getElem?_eq_getElem (by unfold XV.cells;simpa using hj))) rfl
  ·rw [List.getElem?_set_ne (λq=>e q.symm)] at hi
   exact (Qb (.inr e)).trans (h.c i v hi)
 f:=λi=>((Chg.refl (λk i=>k=bx/\i=j) w).setCell (λ_=>⟨rfl,rfl⟩) u).frozen _ _ h.lt|>.trans (h.f i)
theorem XAt.all(h:XAt w bx X):w.cell? ⟨bx,0,none⟩=some (.int .u8 X.k)/\w.cell? ⟨bx,1,none⟩=some (.int .i64 X.v)/\w.cell? ⟨bx,2,none⟩=some (.string X.op)/\w.cell? ⟨bx,3,none⟩=some (.bool X.al)/\w.cell? ⟨bx,4,none⟩=some (.int .i64 X.av)/\w.cell? ⟨bx,5,none⟩=some (.bool X.bl)/\w.cell? ⟨bx,6,none⟩=some (.int .i64 X.bv)/\w.cell? ⟨bx,7,none⟩=some (.bool X.tl)/\w.cell? ⟨bx,8,none⟩=some (.int .i64 X.tv)/\w.cell? ⟨bx,9,none⟩=some (.int .i64 X.fi)/\w.cell? ⟨bx,10,none⟩=some (.int .i64 X.si)/\w.cell? ⟨bx,11,none⟩=some (.int .i64 X.to)/\w.cell? ⟨bx,12,none⟩=some (.int .i64 X.n)/\w.cell? ⟨bx,13,none⟩=some (.int .i64 X.dp):=
 ⟨h.c 0 _ rfl,h.c 1 _ rfl,h.c 2 _ rfl,h.c 3 _ rfl,h.c 4 _ rfl,h.c 5 _ rfl,h.c 6 _ rfl,h.c 7 _ rfl,h.c 8 _ rfl,h.c 9 _ rfl,h.c 10 _ rfl,h.c 11 _ rfl,h.c 12 _ rfl,h.c 13 _ rfl⟩
theorem DMach.restrict(h:DMach D lab w m d)(hk: ∀k,k<w.heap.size->D k->D' k):DMach D' lab w m d:=
 {h with
  lb:=⟨h.lb.1,hk _ (Qd h.sh) h.lb.2⟩
  lp:=⟨h.lp.1,hk _ (Qd h.psh) h.lp.2⟩
  ls:=λq hq=>⟨(h.ls q hq).1,hk q (h.srow.lt q hq).2 (h.ls q hq).2⟩
  lf:=λq hq=>⟨(h.lf q hq).1,hk q (h.frow.lt q hq).2 (h.lf q hq).2⟩
  lz:=λq hq=>⟨(h.lz q hq).1,hk q (h.zrow.lt q hq).2 (h.lz q hq).2⟩
  ll:=λq hq=>⟨(h.ll q hq).1,hk q (h.lrow.lt q hq).2 (h.ll q hq).2⟩
  lo:=λq hq=>⟨(h.lo q hq).1,hk q (h.orow.lt q hq).2 (h.lo q hq).2⟩
  lt:=λq hq=>⟨(h.lt q hq).1,hk q (h.trow.lt q hq).2 (h.lt q hq).2⟩
  lc:=λq hq=>⟨(h.lc q hq).1,hk q (h.crow.lt q hq).2 (h.lc q hq).2⟩
  lq:=λq hq=>⟨(h.lq q hq).1,hk q (h.prow.lt q hq).2 (h.lq q hq).2⟩
  ln:=λi t ht q hq=>⟨(h.ln i t ht q hq).1,hk q ((h.th i t ht).row.lt q hq).2 (h.ln i t ht q hq).2⟩
  lk:=λi t ht=>⟨(h.lk i t ht).1,hk _ (Qd (h.th i t ht).ksh) (h.lk i t ht).2⟩}
end
section
variable{w:World}{br bx bw:Nat}{u:ByteArray}{X:XV}
theorem z1g{sv wsv:Value}{k:Int}(c1:w.cell? ⟨br,1,none⟩=some sv)(hk:k<0)(KS:Hid (Cl 22 #[sv, .string u] w λe w2=>e= .returned (.int .i64 k)/\w2=w)):
  Cl 44 #[ptr br,ptr bx, .string u,wsv] w λe w'=>e= .returned (.bool false)/\w'=w:=by
 have hlt:br<w.heap.size:=blt c1
 go_enter Tryz.func44,Tryz.ntmps44
 go_wp2_with fail
 refine KS.out.mono ?_
 rintro e w1 ⟨rfl,rfl⟩
 go_wp2
 go_ret
 exact ⟨rfl,rfl⟩
end
def z5v(w:World)(bx:Nat)(X:XV)(fi si:Int):Prop:=∃tl tv,XAt w bx {X with fi:=fi,si:=si,tl:=tl,tv:=tv}
def ziv(bx kb fn:Nat)(k j:Nat):Prop:=(k=bx/\7<=j/\j<=10)\/(k=kb/\j=fn)
section
variable{w:World}{br bp bx bw gf gz gc kb kk n cf cz T ct cc cl fn L cap:Nat}{u y:ByteArray}{X:XV}{sv v0:Value}{pt:Option Addr}{si:Int}{tl ok:Bool}{tv:Int}
theorem z1h(hx:XAt w bx X)(c0:w.cell? ⟨br,0,none⟩=some (ptr bp))(c1:w.cell? ⟨br,1,none⟩=some sv)(c2:w.cell? ⟨br,2,none⟩=some (.slice (some ⟨gf,0,none⟩) n cf))(c3:w.cell? ⟨br,3,none⟩=some (.slice (some ⟨gz,0,none⟩) n cz))(hkn:kk<n)(_hn:n<1000000)
  (qf:w.cell? ⟨gf,kk,none⟩=some (.int .i64 (fn:Int))) (qz:w.cell? ⟨gz,kk,none⟩=some (.int .i64 si)) (p0:w.cell? ⟨bp,0,none⟩=some (.slice pt (T+1) ct)) (p2:w.cell? ⟨bp,2,none⟩=some (.slice (some ⟨gc,0,none⟩) (T+1) cc)) (qc:w.cell? ⟨gc,T,none⟩=some (.slice (some ⟨kb,0,none⟩) cl cl)) (hT:T<=2000) (hfn:fn<cl) (_hcl:cl<100000000) (kc:w.cell? ⟨kb,fn,none⟩=some v0) (kf:w.frozen? ⟨kb,fn,none⟩=false)
  (n1:bx≠br) (n2:bx≠bp) (n3:bx≠gz) (n4:bx≠gc) (n5:bx≠kb) (n6:kb≠br) (n7:kb≠bp) (n8:kb≠gc)
  (hL:(L=3/\ok=true)\/(L=5/\bw≠bx/\bw≠kb/\w.cell? ⟨bw,4,none⟩=some (.string y)))
  (KS:Hid (Cl 22 #[sv, .string u] w λe w2=>e= .returned (.int .i64 (kk:Int))/\w2=w))
  (KA:Hid (L=5->∀w',Chg (ziv bx kb fn) w w'->Cl 42 #[ptr br, .string y] w' λe w2=>e= .returned (.tuple #[.agg #[.bool tl, .int .i64 tv], .bool ok])/\Below w'.heap.size w' w2)):
  Cl 44 #[ptr br,ptr bx, .string u, .slice (some ⟨bw,0,none⟩) L cap] w λe w'=>e= .returned (.bool ok)/\Chg (ziv bx kb fn) w w'/\z5v w' bx X fn si:=by
 have x9:=hx.c 9 _ rfl
 have f9:=hx.f 9
 have x10:=hx.c 10 _ rfl
 have f10:=hx.f 10
 have l0:br<w.heap.size:=blt c0
 have l1:bp<w.heap.size:=blt p0
 have l2:bx<w.heap.size:=hx.lt
 have l3:kb<w.heap.size:=blt kc
 have e2:wrap64 (((T+1:Nat):Int)- 1)=(T:Int):=yao
 have hk0: ¬(kk:Int)<0:=yai
 have hT0:(0:Int)<=(T:Int):=yai
 have hT1:(T:Int)<(T:Int)+1:=yai
 have hf0:(0:Int)<=(fn:Int):=yai
 have hfl:(fn:Int)<(cl:Int):=yai
 have hkl:(kk:Int)<(n:Int):=yai
 have hc1:Chg (ziv bx kb fn) w ((w.setCell ⟨bx,9,none⟩ (.int .i64 (fn:Int))).setCell ⟨bx,10,none⟩ (.int .i64 si)):=((Chg.refl _ w).setCell (λ_=> .inl ⟨rfl,by omega,by omega⟩) _).setCell (λ_=> .inl ⟨rfl,by omega,by omega⟩) _
 have hx1:XAt ((w.setCell ⟨bx,9,none⟩ (.int .i64 (fn:Int))).setCell ⟨bx,10,none⟩ (.int .i64 si)) bx {X with fi:=fn,si:=si}:=(hx.set (X':={X with fi:=fn}) (j:=9) yai rfl).set (j:=10) yai rfl
 have nm: ∀k j,k≠bx->k≠kb->¬ziv bx kb fn k j:=λk j h1 h2 e=>e.elim (λe=>h1 e.1) (λe=>h2 e.1)
 have HP:Hid (∀W,Chg (ziv bx kb fn) w W->(W.cell? ⟨br,0,none⟩=some (ptr bp)/\W.cell? ⟨bp,2,none⟩=some (.slice (some ⟨gc,0,none⟩) (T+1) cc)/\W.cell? ⟨gc,T,none⟩=some (.slice (some ⟨kb,0,none⟩) cl cl))):=hid λW hc=>
  ⟨(hc.cell _ _ l0 (nm _ _ n1.symm n6.symm)).trans c0,(hc.cell _ _ l1 (nm _ _ n2.symm n7.symm)).trans p2,(hc.cell _ _ (blt qc) (nm _ _ n4.symm n8.symm)).trans qc⟩
 have kc1:((w.setCell ⟨bx,9,none⟩ (.int .i64 (fn:Int))).setCell ⟨bx,10,none⟩ (.int .i64 si)).cell? ⟨kb,fn,none⟩=some v0:=(Qb (.inl n5.symm)).trans ((Qb (.inl n5.symm)).trans kc)
 have kf1:((w.setCell ⟨bx,9,none⟩ (.int .i64 (fn:Int))).setCell ⟨bx,10,none⟩ (.int .i64 si)).frozen? ⟨kb,fn,none⟩=false:=(hc1.frozen _ _ l3).trans kf
 have HW:Hid (L=5->∀W,Chg (ziv bx kb fn) w W->W.cell? ⟨bw,4,none⟩=some (.string y)):=hid λe W hc=>by
  rcases hL with ⟨q,_⟩|⟨_,a,b,q⟩
  ·omega
  ·exact (hc.cell _ _ (blt q) (nm _ _ a b)).trans q
 have HC1:=hid hc1
 have HX1:=hid hx1
 have HK1:=hid kc1
 have HF1:=hid kf1
 have HL:Hid ((L=3/\ok=true)\/L=5):=hid (hL.imp id (λe=>e.1))
 have HN:=hid n5
 clear hL nm hc1 hx1 hx kc1 kf1 kc kf n5
 go_enter Tryz.func44,Tryz.ntmps44
 go_wp2_with fail
 refine KS.out.mono ?_
 rintro e w1 ⟨rfl,hw⟩
 subst w1
 go_wp2_with fail
 generalize hW:World.setCell (w.setCell ⟨bx,9,none⟩ (.int .i64 (fn:Int))) ⟨bx,10,none⟩ (.int .i64 si)=W at HC1 HX1 HK1 HF1⊢
 obtain ⟨r0,r1,r2⟩:=HP.out W HC1.out
 have r3:=HX1.out.c 9 _ rfl
 have r4:=HK1.out
 have r5:=HF1.out
 have l0:br<W.heap.size:=blt r0
 have l3:kb<W.heap.size:=blt r4
 dsimp only at r3
 have HC2:Hid (Chg (ziv bx kb fn) w (W.setCell ⟨kb,fn,none⟩ (.bool true)).drew):=hid ((HC1.out.setCell (λ_=> .inr ⟨rfl,rfl⟩) _).drew)
 have HX2:Hid (XAt (W.setCell ⟨kb,fn,none⟩ (.bool true)).drew bx {X with fi:=fn,si:=si}):=hid ((HX1.out.keep ((Chg.refl (λk j=>k=kb/\j=fn) W).setCell (λ_=>⟨rfl,rfl⟩) _) λj e=>HN.out e.1).below (Qi _ _))
 have hn6:=n6
 clear hW c0 c1 c2 c3 qf qz p0 p2 qc x9 f9 x10 f10
 refine wp_region_held_drew (S:=(λw'=>w'.cell? ⟨br,0,none⟩=some (ptr bp)/\w'.cell? ⟨bp,2,none⟩=some (.slice (some ⟨gc,0,none⟩) (T+1) cc)/\w'.cell? ⟨gc,T,none⟩=some (.slice (some ⟨kb,0,none⟩) cl cl)/\w'.cell? ⟨bx,9,none⟩=some (.int .i64 (fn:Int)))) yak ?_ (λhHeld=>?_)
 ·(try dsimp only);exact ⟨r0,r1,r2,r3⟩
 refine Qa 0 (h:=Qa 1 (h:=Qa 2 (h:=Qa 3 (h:=Qa 4 (h:=Qa 5 (h:=Qa 6 (h:=Qa 7 (h:=Qa 8 (h:=Qa 9 (h:=Qa 10 (h:=Qa 11 (h:=Qa 12 (h:=Qa 13 (h:=Qa 14 (h:=?_)))))))))))))))
 refine tr [15] (.cons rfl (λKQ hKQ=>?_) .nil)
 go_simp
 refine hKQ.out _ _ ?_ (λhHeld=>?_)
 ·(try dsimp only);exact ⟨(Qb (.inl n6.symm)).trans hHeld.1,(Qb (.inl n7.symm)).trans hHeld.2.1,(Qb (.inl n8.symm)).trans hHeld.2.2.1,(Qb (.inl HN.out)).trans hHeld.2.2.2⟩
 clear hKQ KQ
 refine wpAnyH_done yak ?_ _
 generalize hW2:(W.setCell ⟨kb,fn,none⟩ (.bool true)).drew=W2 at HC2 HX2⊢
 clear hW2 hHeld HC1 HX1 HK1 HF1 r0 r1 r2 r3 r4 r5 l0 l3
 rcases HL.out with ⟨rfl,rfl⟩|rfl
 ·go_wp2_with fail
  go_ret
  exact ⟨rfl,HC2.out,_,_,HX2.out⟩
 ·have w4:=HW.out rfl _ HC2.out
  go_wp2_with fail
  refine (KA.out (by trivial) _ HC2.out).mono ?_
  rintro e w1 ⟨rfl,hb⟩
  have HC3:=hid (HC2.out.then (Chg.of_below (M:=λ_ _=>False) hb) (λ_ _ _ e=>e.elim))
  have HX3:=hid (HX2.out.below hb)
  clear hb HC2 HX2 w4
  have x7:=HX3.out.c 7 _ rfl
  have x8:=HX3.out.c 8 _ rfl
  have f7:=HX3.out.f 7
  have f8:=HX3.out.f 8
  have lx:=HX3.out.lt
  dsimp only at x7 x8
  go_wp2
  go_ret
  refine ⟨rfl,((HC3.out.setCell (λ_=> .inl ⟨rfl,by omega,by omega⟩) _).setCell (λ_=> .inl ⟨rfl,by omega,by omega⟩) _).alloc _,tl,tv,?_⟩
  exact ((HX3.out.set (X':={X with fi:=fn,si:=si,tl:=tl}) (u:= .bool tl) (j:=7) yai rfl).set (X':={X with fi:=fn,si:=si,tl:=tl,tv:=tv}) (u:= .int .i64 tv) (j:=8) yai rfl).below ((Below.refl _ _).alloc (Nat.le_refl _) _)
end
end Go.Proofs.YtphcopbffecceaaGreatDoor
