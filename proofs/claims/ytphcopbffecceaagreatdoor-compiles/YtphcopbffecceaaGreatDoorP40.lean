import Derived.Test.YtphcopbffecceaaGreatDoorP39
import Derived.Test.YtphcopbffecceaaGreatDoorP36
set_option maxRecDepth 100000
set_option maxHeartbeats 10000000
namespace Go.Proofs.YtphcopbffecceaaGreatDoor
open Go.RowKit
variable{w:World}{ct j k n o q:Nat}{d:DR}{s:St}{t:TypeId}{v:Value}{xs:List Value}{x:ByteArray}{ws:List ByteArray}{pt:Option Addr}{e:Int}
theorem zt0(h:w.ownsRow o t k v n xs): ∃p c,v= .slice p n c:=z9t
section
variable{w:World}{bw cap L:Nat}{D:Nat->Prop}{lab:Nat->Nat×Nat}{m:DM}{d:DR}
theorem DMach.thread_is(h:DMach D lab w m d)(hk:DOk d)(hD: ∀k,w.heap.size<=k->D k)(hL0:(0:Int)<(L:Int))(w0:w.cell? ⟨bw,0,none⟩=some (.string Qt)):
  Cl 12 #[ptr m.br, .slice (some ⟨bw,0,none⟩) L cap] w (DPost D w m (Gx d)):=by
 unfold Gx
 have c0:=h.c0
 obtain ⟨pt,ct,htv⟩:=zt0 h.trow
 obtain ⟨po,co,hov⟩:=zt0 h.orow
 have p0:=h.p0
 have c5:=h.c5
 rw [htv] at p0
 rw [hov] at c5
 by_cases ho:0<d.opn.length
 ·rw [if_pos ho]
  refine (ztz c0 p0 c5 yai hL0 w0).mono ?_
  rintro e w' ⟨rfl,rfl⟩
  exact ⟨Chg.refl _ _,rfl⟩
 rw [if_neg ho]
 have ho0:d.opn.length=0:=yai
 rw [ho0] at c5
 obtain ⟨c,hc⟩: ∃c:Nat,d.cells=(c:Int):=⟨d.cells.toNat,by have:=hk.c;omega⟩
 have hct:d.cells.toNat=c:=yai
 have hbb:m.br≠m.bp:=λe=>by
  have:=h.lb.1
  rw [e,h.lp.1] at this
  cases this
 have lb:=Qd h.sh
 have lp:=Qd h.psh
 have nL: ∀k k' l l',lab k=l->lab k'=l'->l≠l'->k≠k':=λk k' l l' a b c e=>c (by rw [<-a,<-b,e])
 have hS:SlotsAt (λk j=>D k/\FM D lab m [(0,7),(0,8),(0,9)] [4,6] [0,2,3] k j) w w [(m.br,0,ptr m.bp),(m.bp,1, .int .i64 (c:Int)),(m.br,5, .slice po 0 co),(m.br,4,m.lv),(m.br,6, .int .i64 d.stmts)] [(m.br,4),(m.br,6)] [zty m.bp m.tv d.thr.length (m.ts.map DT.nv),zp8 m.bp m.cv d.thr.length (m.ts.map λt=> .slice (some ⟨t.kb,0,none⟩) d.cells.toNat d.cells.toNat),zp9 m.bp m.pv d.thr.length (m.ps.map .bool)]:={
  chg:=Chg.refl _ _
  uniq:=λs hs q hq e=>by
   simp at hs hq
   rcases hs with rfl|rfl|rfl<;>rcases hq with rfl|rfl|rfl<;>first|rfl|(simp at e)
  cell:=λs hs=>by
   simp at hs
   rcases hs with rfl|rfl|rfl
   ·exact h.p0
   ·exact h.p2
   ·exact h.p3
  free:=λs hs=>by
   simp at hs
   rcases hs with rfl|rfl|rfl<;>exact h.pfree _
  row:=λs hs=>by
   simp at hs
   rcases hs with rfl|rfl|rfl
   ·exact h.trow
   ·exact h.crow
   ·exact h.prow
  keep:=λq hq=>by
   simp at hq
   rcases hq with rfl|rfl|rfl|rfl|rfl
   ·exact h.c0
   ·rw [<-hc];exact h.p1
   ·exact c5
   ·exact h.c4
   ·exact h.c6
  fr:=λq hq=>by
   simp at hq
   rcases hq with rfl|rfl
   ·exact ⟨lb,h.free 4⟩
   ·exact ⟨lb,h.free 6⟩
  dis:=λs hs q hq e=>by
   simp at hs hq
   rcases hs with rfl|rfl|rfl<;>rcases hq with rfl|rfl|rfl
   ·exact absurd rfl e
   ·exact ⟨.inr yaj,λg a b=>nL _ _ _ _ (h.lt g a).1 (h.lc g b).1 yaj rfl⟩
   ·exact ⟨.inr yaj,λg a b=>nL _ _ _ _ (h.lt g a).1 (h.lq g b).1 yaj rfl⟩
   ·exact ⟨.inr yaj,λg a b=>nL _ _ _ _ (h.lc g a).1 (h.lt g b).1 yaj rfl⟩
   ·exact absurd rfl e
   ·exact ⟨.inr yaj,λg a b=>nL _ _ _ _ (h.lc g a).1 (h.lq g b).1 yaj rfl⟩
   ·exact ⟨.inr yaj,λg a b=>nL _ _ _ _ (h.lq g a).1 (h.lt g b).1 yaj rfl⟩
   ·exact ⟨.inr yaj,λg a b=>nL _ _ _ _ (h.lq g a).1 (h.lc g b).1 yaj rfl⟩
   ·exact absurd rfl e
  nb:=λs hs g hg=>by
   have hl:lab g=(0,7)\/lab g=(0,8)\/lab g=(0,9):=by
    simp at hs
    rcases hs with rfl|rfl|rfl
    ·exact .inl (h.lt g hg).1
    ·exact .inr (.inl (h.lc g hg).1)
    ·exact .inr (.inr (h.lq g hg).1)
   have hgb:g≠m.br:=λe=>by
    rw [e,h.lb.1] at hl
    simp at hl
   have hgp:g≠m.bp:=λe=>by
    rw [e,h.lp.1] at hl
    simp at hl
   refine ⟨λq hq=>?_,λq hq=>?_⟩
   ·simp at hq
    rcases hq with rfl|rfl|rfl<;>exact hgp
   ·simp at hq
    rcases hq with rfl|rfl|rfl|rfl|rfl<;>first|exact hgb|exact hgp
  nk:=λs hs q hq=>by
   simp at hs hq
   rcases hs with rfl|rfl|rfl<;>rcases hq with rfl|rfl|rfl|rfl|rfl<;>first|exact .inl hbb.symm|exact .inr yaj
  old:=λs hs g hg _ j=>by
   simp at hs
   rcases hs with rfl|rfl|rfl
   ·exact ⟨(h.lt g hg).2,λ_=> .inl (by rw [(h.lt g hg).1];simp)⟩
   ·exact ⟨(h.lc g hg).2,λ_=> .inl (by rw [(h.lc g hg).1];simp)⟩
   ·exact ⟨(h.lq g hg).2,λ_=> .inl (by rw [(h.lq g hg).1];simp)⟩
  slot:=λs hs _=>by
   simp at hs
   rcases hs with rfl|rfl|rfl<;>exact ⟨h.lp.2,λ_=> .inr (.inr ⟨rfl,by simp⟩)⟩
  org:=λs hs g hg=>by
   simp at hs
   rcases hs with rfl|rfl|rfl<;>exact .inl hg}
 refine (zli htv hS hbb ⟨⟨h.lb.2,λ_=> .inr (.inl ⟨rfl,by simp⟩)⟩,⟨h.lb.2,λ_=> .inr (.inl ⟨rfl,by simp⟩)⟩⟩ (by have:=hk.t;omega) (by have:=hk.c;omega) hL0 w0).mono ?_
 rintro e w' ⟨rfl,g1,c1,g2,c2,g3,c3,kb,hT,hKB,hkl,e1,e2,e3⟩
 have n1:=(hT.dis _ (List.mem_cons_self ..) _ (List.mem_cons_of_mem _ (List.mem_cons_self ..)) ybr).2 g1 rfl
 have n2:=(hT.dis _ (List.mem_cons_self ..) _ (List.mem_cons_of_mem _ (List.mem_cons_of_mem _ (List.mem_cons_self ..))) ybr).2 g1 rfl
 have n3:=(hT.dis _ (List.mem_cons_of_mem _ (List.mem_cons_self ..)) _ (List.mem_cons_of_mem _ (List.mem_cons_of_mem _ (List.mem_cons_self ..))) ybr).2 g2 rfl
 have i1:=List.mem_cons_self (a:=(zty m.bp m.tv d.thr.length (m.ts.map DT.nv)).more g1 c1 (.slice none 0 0)) (l:=[(zp8 m.bp m.cv d.thr.length (m.ts.map λt=> .slice (some ⟨t.kb,0,none⟩) d.cells.toNat d.cells.toNat)).more g2 c2 (.slice (some ⟨kb,0,none⟩) c c),(zp9 m.bp m.pv d.thr.length (m.ps.map .bool)).more g3 c3 (.bool false)])
 have i2:=List.mem_cons_of_mem ((zty m.bp m.tv d.thr.length (m.ts.map DT.nv)).more g1 c1 (.slice none 0 0)) (List.mem_cons_self (a:=(zp8 m.bp m.cv d.thr.length (m.ts.map λt=> .slice (some ⟨t.kb,0,none⟩) d.cells.toNat d.cells.toNat)).more g2 c2 (.slice (some ⟨kb,0,none⟩) c c)) (l:=[(zp9 m.bp m.pv d.thr.length (m.ps.map .bool)).more g3 c3 (.bool false)]))
 have i3:=List.mem_cons_of_mem ((zty m.bp m.tv d.thr.length (m.ts.map DT.nv)).more g1 c1 (.slice none 0 0)) (List.mem_cons_of_mem ((zp8 m.bp m.cv d.thr.length (m.ts.map λt=> .slice (some ⟨t.kb,0,none⟩) d.cells.toNat d.cells.toNat)).more g2 c2 (.slice (some ⟨kb,0,none⟩) c c)) (List.mem_cons_self (a:=(zp9 m.bp m.pv d.thr.length (m.ps.map .bool)).more g3 c3 (.bool false)) (l:=[])))
 have r2:=hT.row _ i2
 have ks:=hKB.1
 rw [<-hct] at ks
 obtain ⟨lab',h'⟩:=h.threadF hD (hT.row _ i1) (by rw [<-hct] at r2;rw [hct] at r2⊢;exact r2) (hT.row _ i3) (hT.keep (m.br,4, .slice none 0 0) yaj) (hT.keep (m.br,6, .int .i64 0) yaj) (hT.cell _ i1) (hT.cell _ i2) (hT.cell _ i3) ks hKB.2 (hT.org _ i1 g1 rfl) (hT.org _ i2 g2 rfl) (hT.org _ i3 g3 rfl) hkl (λe=>n1 ybs) (λe=>n2 ybs) (λe=>n3 ybs) (λe=>e1 e.symm) (λe=>e2 e.symm) (λe=>e3 e.symm) (hT.chg.mono λ_ _ _ e=>e.2)
 exact ⟨hT.chg.mono λk j hk e=>e.1,rfl,lab',{m with tv:= .slice (some ⟨g1,0,none⟩) (d.thr.length+1) c1,cv:= .slice (some ⟨g2,0,none⟩) (d.thr.length+1) c2,pv:= .slice (some ⟨g3,0,none⟩) (d.thr.length+1) c3,lv:= .slice none 0 0,ps:=m.ps++[false],ts:=m.ts++[⟨.slice none 0 0,kb,[],[]⟩]},rfl,rfl,h'⟩
end
structure DGood(d:DR)(j:Nat):Prop where
 l:d.locals.length<=4
 s:d.shared.length<=j
 c:0<=d.cells/\d.cells<=6*j
 p: ∀p∈d.shared,0<=p.2.1/\p.2.1<d.cells
 o:d.opn.length<=3
 t:d.thr.length<=j
 n:d.stmts<=14
 no:d.thr=[]->d.opn=[]
 last: ∀N,d.thr.getLast?=some N->N.length+d.opn.length<=2*d.stmts/\ ∀a∈d.opn,∃k,N[a]?=some k/\(k.1=40\/k.1=108\/k.1=122)
theorem z37:DGood d0 0 where
 l:=ya3
 s:=ya3
 c:=ya3
 p:=ya3
 o:=ya3
 t:=ya3
 n:=ya3
 no:=ya3
 last:=ya3
theorem zt1(h:Qf s=true): ∃k,zb3 s=[k]/\(k.1=40\/k.1=108\/k.1=122):=by
 rcases s with ⟨to,a⟩|⟨to,k,a,c⟩|⟨to,f,a⟩|⟨f,a,c⟩|a|⟨⟩|a|n
 ·simp [Qf] at h
 ·simp [Qf] at h
 ·simp [Qf] at h
 ·simp [Qf] at h
 ·simp [Qf] at h
 ·exact ⟨_,rfl, .inl rfl⟩
 ·exact ⟨_,rfl, .inr (.inr rfl)⟩
 ·exact ⟨_,rfl, .inr (.inl rfl)⟩
section
variable{d d':DR}{j:Nat}
theorem DGood.share(h:DGood d j){n:Int}(hn:1<=n/\n<=6)(hd:Ge d x n= .ok d'):DGood d' (j+1):=by
 unfold Ge at hd
 by_cases c1:0<d.thr.length
 ·rw [if_pos c1] at hd;cases hd
 rw [if_neg c1] at hd
 by_cases c2:Gc d.shared x=true
 ·rw [if_pos c2] at hd;cases hd
 rw [if_neg c2] at hd
 obtain rfl:=Except.ok.inj hd
 have hc:=h.c
 refine {l:=h.l,s:=?_,c:=?_,p:=?_,o:=h.o,t:=Nat.le_succ_of_le h.t,n:=h.n,no:=h.no,last:=h.last}
 ·have:=h.s
  rw [List.length_append,List.length_singleton]
  omega
 ·show 0<=d.cells+n/\d.cells+n<=6*((j+1:Nat):Int)
  omega
 ·intro p hp
  show 0<=p.2.1/\p.2.1<d.cells+n
  rcases List.mem_append.1 hp with hp|hp
  ·have:=h.p p hp
   omega
  ·rw [List.mem_singleton.1 hp]
   dsimp only
   omega
theorem DGood.thread(h:DGood d j)(hd:Gx d= .ok d'):DGood d' (j+1):=by
 unfold Gx at hd
 by_cases c1:0<d.opn.length
 ·rw [if_pos c1] at hd;cases hd
 rw [if_neg c1] at hd
 obtain rfl:=Except.ok.inj hd
 have hc:=h.c
 have ho:d.opn=[]:=List.length_eq_zero_iff.1 yai
 refine {l:=Nat.zero_le _,s:=Nat.le_succ_of_le h.s,c:=⟨hc.1,?_⟩,p:=h.p,o:=h.o,t:=?_,n:=Nat.zero_le _,no:=λe=>?_,last:=λN hN=>?_}
 ·show d.cells<=6*((j+1:Nat):Int)
  omega
 ·have:=h.t
  rw [List.length_append,List.length_singleton]
  omega
 ·simp at e
 ·have e:N=[]:=by simpa using hN.symm
  subst e
  show _/\ ∀a∈d.opn,_
  rw [ho]
  simp
theorem DGood.fin(h:DGood d j)(hd:zb9 d= .ok d'):DGood d' (j+1):=by
 unfold zb9 at hd
 cases ho:d.opn.getLast? with
 |none=>rw [ho] at hd;cases hd
 |some a=>
  cases hN:d.thr.getLast? with
  |none=>rw [ho,hN] at hd;cases hd
  |some N=>
   rw [ho,hN] at hd
   obtain rfl:=Except.ok.inj hd
   have hc:=h.c
   obtain ⟨l1,l2⟩:=h.last N hN
   have hne:d.thr≠[]:=λe=>by rw [e] at hN;simp at hN
   have hon:d.opn≠[]:=λe=>by rw [e] at ho;simp at ho
   have hol:0<d.opn.length:=List.length_pos_iff.2 hon
   have htl:0<d.thr.length:=List.length_pos_iff.2 hne
   have hcl:(zo9 N[a]?).length<=1:=by
    unfold zo9
    split
    ·split
     ·simp
     ·split<;>simp
    ·simp
   refine {l:=h.l,s:=Nat.le_succ_of_le h.s,c:=⟨hc.1,?_⟩,p:=h.p,o:=?_,t:=?_,n:=h.n,no:=λe=>?_,last:=λN' hN'=>?_}
   ·show d.cells<=6*((j+1:Nat):Int)
    omega
   ·have:=h.o
    rw [List.length_dropLast]
    omega
   ·have:=h.t
    rw [List.length_append,List.length_singleton,List.length_dropLast]
    omega
   ·simp at e
   ·have e:N'=N++zo9 N[a]?:=by simpa using hN'.symm
    subst e
    refine ⟨?_,λb hb=>?_⟩
    ·show _+d.opn.dropLast.length<=2*d.stmts
     rw [List.length_append,List.length_dropLast]
     omega
    ·obtain ⟨k,k1,k2⟩:=l2 b (List.dropLast_subset _ hb)
     exact ⟨k,by rw [List.getElem?_append_left (List.getElem?_eq_some_iff.1 k1).1];exact k1,k2⟩
theorem DGood.st(h:DGood d j)(hd:dSt d s= .ok d'):DGood d' (j+1):=by
 unfold dSt at hd
 cases hN:d.thr.getLast? with
 |none=>rw [hN] at hd;cases hd
 |some N=>
  rw [hN] at hd
  dsimp only at hd
  by_cases q1:Gd (zhf d N) s=false
  ·rw [if_pos q1] at hd;cases hd
  rw [if_neg q1] at hd
  by_cases q2:zfv d s=false
  ·rw [if_pos q2] at hd;cases hd
  rw [if_neg q2] at hd
  by_cases q3:zip d s=false
  ·rw [if_pos q3] at hd;cases hd
  rw [if_neg q3] at hd
  obtain rfl:=Except.ok.inj hd
  have hr:zip d s=true:=by simpa using q3
  unfold zip at hr
  obtain ⟨r1,r2⟩:=Bool.and_eq_true_iff.1 hr
  obtain ⟨r2,r3⟩:=Bool.and_eq_true_iff.1 r2
  have r1: ¬d.stmts=14:=by simpa using r1
  have hc:=h.c
  have hnn:=h.n
  obtain ⟨l1,l2⟩:=h.last N hN
  have hne:d.thr≠[]:=λe=>by rw [e] at hN;simp at hN
  have htl:0<d.thr.length:=List.length_pos_iff.2 hne
  have ht:=h.t
  unfold z4u
  by_cases hh:Qf s=true
  ·rw [if_pos hh]
   obtain ⟨k,hk,hkk⟩:=zt1 hh
   have r3:d.opn.length<=2:=by rw [hh] at r3;simpa using r3
   rw [hk]
   refine {l:=h.l,s:=Nat.le_succ_of_le h.s,c:=⟨hc.1,?_⟩,p:=h.p,o:=?_,t:=?_,n:=?_,no:=λe=>?_,last:=λN' hN'=>?_}
   ·show d.cells<=6*((j+1:Nat):Int)
    omega
   ·rw [List.length_append,List.length_singleton]
    omega
   ·rw [List.length_append,List.length_singleton,List.length_dropLast]
    omega
   ·show d.stmts+1<=14
    omega
   ·simp at e
   ·have e:N'=N++[k]:=by simpa using hN'.symm
    subst e
    refine ⟨?_,λb hb=>?_⟩
    ·show _+(d.opn++[N.length]).length<=2*(d.stmts+1)
     rw [List.length_append,List.length_append,List.length_singleton,List.length_singleton]
     omega
    ·rcases List.mem_append.1 hb with hb|hb
     ·exact z9i
     ·rw [List.mem_singleton.1 hb]
      exact ⟨k,by simp,hkk⟩
  ·rw [if_neg hh]
   refine {l:=?_,s:=Nat.le_succ_of_le h.s,c:=⟨hc.1,?_⟩,p:=h.p,o:=h.o,t:=?_,n:=?_,no:=λe=>?_,last:=λN' hN'=>?_}
   ·have hl:=h.l
    dsimp only
    by_cases q:(Vg s).toList.isEmpty=false/\Uh d.locals (Vg s)=false
    ·rw [if_pos q,List.length_append,List.length_singleton]
     rw [q.1,q.2] at r2
     have: ¬d.locals.length=4:=by simpa using r2
     omega
    ·rw [if_neg q];exact hl
   ·show d.cells<=6*((j+1:Nat):Int)
    omega
   ·rw [List.length_append,List.length_singleton,List.length_dropLast]
    omega
   ·show d.stmts+1<=14
    omega
   ·simp at e
   ·have e:N'=N++[(kL s,0)]:=by simpa using hN'.symm
    subst e
    refine ⟨?_,λb hb=>?_⟩
    ·show _+d.opn.length<=2*(d.stmts+1)
     rw [List.length_append,List.length_singleton]
     omega
    ·exact z9i
theorem znj{m:Int}(h:Sx m x=true): ∃n,Qk x=some n/\1<=n/\n<=m:=by
 unfold Sx at h
 cases e:Qk x with
 |none=>rw [e] at h;cases h
 |some n=>
  rw [e] at h
  have h:=Bool.and_eq_true_iff.1 h
  exact ⟨n,rfl,by simpa using h.1,by simpa using h.2⟩
theorem DGood.line(h:DGood d j)(hb:Jr ws=true)(hd:Xw d ws= .ok d'):DGood d' (j+1):=by
 match ws,hb with
 |[],hb=>cases hb
 |u::us,hb=>
  unfold Xw at hd
  dsimp only at hd
  by_cases n1:u=Qy
  ·subst n1
   rw [Zf] at hb
   rw [if_pos rfl] at hd
   match us,hb with
   |[],hb=>cases hb
   |[v],_=>exact h.share yai hd
   |[v,x],hb=>
    have hb:(Vo v&&Sx 6 x)=true:=hb
    obtain ⟨n,hn,h1,h2⟩:=znj (Bool.and_eq_true_iff.1 hb).2
    have hd:Ge d v ((Qk x).getD 0)= .ok d':=hd
    rw [hn] at hd
    exact h.share ⟨h1,h2⟩ hd
   |_::_::_::_,hb=>cases hb
  rw [if_neg n1] at hd
  by_cases n2:u=Qt
  ·rw [if_pos n2] at hd
   exact h.thread hd
  rw [if_neg n2] at hd
  by_cases n3:u=Zd
  ·rw [if_pos n3] at hd
   exact h.fin hd
  rw [if_neg n3] at hd
  exact h.st hd
end
theorem DGood.ok(h:DGood d j)(hj:j<=2000):DOk d where
 l:=h.l
 s:=by have:=h.s;omega
 c:=by have:=h.c;omega
 p:=h.p
 o:=h.o
 t:=by have:=h.t;omega
 n:=h.n
section
variable{D:Nat->Prop}{lab:Nat->Nat×Nat}{w:World}{m:DM}{d:DR}{r:Except Int DR}{bw L cap n:Nat}
theorem DPost.ret{e:Ending}{w':World}(h:DPost D w m r e w'): ∃er,e= .returned (.int .i64 er):=by
 unfold DPost at h
 cases r with
 |ok d=>exact ⟨_,h.2.1⟩
 |error er=>exact ⟨_,h.2⟩
theorem zf0(c0:w.cell? ⟨m.br,0,none⟩=some (ptr m.bp))(p0:w.cell? ⟨m.bp,0,none⟩=some (.slice pt n ct))(hL0:(0:Int)<(L:Int))(w0:w.cell? ⟨bw,0,none⟩=some (.string Qy))
  (K:Hid (Cl 23 #[ptr m.br, .slice (some ⟨bw,0,none⟩) L cap] w (DPost D w m r))):
  Cl 12 #[ptr m.br, .slice (some ⟨bw,0,none⟩) L cap] w (DPost D w m r):=by
 have hlt:m.br<w.heap.size:=blt c0
 have hlp:m.bp<w.heap.size:=blt p0
 have hlw:bw<w.heap.size:=blt w0
 have e1:(Qy.toList==[115,104,97,114,101,100])=true:=yak
 go_enter Tryz.func12,Tryz.ntmps12
 go_wp2_with fail
 refine K.out.mono ?_
 intro e W2 hq
 obtain ⟨er,rfl⟩:=hq.ret
 have HQ:=hid hq
 clear hq K
 go_wp2
 go_ret
 exact HQ.out
theorem z1m(c0:w.cell? ⟨m.br,0,none⟩=some (ptr m.bp))(p0:w.cell? ⟨m.bp,0,none⟩=some (.slice pt n ct))(hL0:(0:Int)<(L:Int))(w0:w.cell? ⟨bw,0,none⟩=some (.string Zd))
  (K:Hid (Cl 24 #[ptr m.br] w (DPost D w m r))):
  Cl 12 #[ptr m.br, .slice (some ⟨bw,0,none⟩) L cap] w (DPost D w m r):=by
 have hlt:m.br<w.heap.size:=blt c0
 have hlp:m.bp<w.heap.size:=blt p0
 have hlw:bw<w.heap.size:=blt w0
 have e1:(Zd.toList==[115,104,97,114,101,100])=false:=yak
 have e2:(Zd.toList==[116,104,114,101,97,100])=false:=yak
 have e3:(Zd.toList==[101,110,100])=true:=yak
 go_enter Tryz.func12,Tryz.ntmps12
 go_wp2_with fail
 refine K.out.mono ?_
 intro e W2 hq
 obtain ⟨er,rfl⟩:=hq.ret
 have HQ:=hid hq
 clear hq K
 go_wp2
 go_ret
 exact HQ.out
theorem DMach.row_is(h:DMach D lab w m d)(hg:DGood d j)(hj:j<=2000)(hD: ∀k,w.heap.size<=k->D k)(nw: ¬D bw)(ws:List ByteArray)(hw:StrsAt w bw ws)(hbw:bw<w.heap.size)(hb:Jr ws=true):
  Cl 12 #[ptr m.br, .slice (some ⟨bw,0,none⟩) ws.length cap] w (DPost D w m (Xw d ws)):=by
 have hk:=hg.ok hj
 obtain ⟨pt,ct,htv⟩:=zt0 h.trow
 have p0:=h.p0
 rw [htv] at p0
 match ws,hb with
 |[],hb=>cases hb
 |u::us,hb=>
  have w0:=hw 0 yaj
  have hL0:(0:Int)<((u::us).length:Int):=yaj
  unfold Xw
  dsimp only
  by_cases n1:u=Qy
  ·subst n1
   rw [if_pos rfl]
   rw [Zf] at hb
   match us,hb with
   |[],hb=>cases hb
   |[v],_=>
    exact zf0 h.c0 p0 hL0 w0 (hid (h.share_is hk hD nw (y:=v) (hw 1 yaj) yai (.inl ⟨rfl,rfl⟩)))
   |[v,x],hb=>
    have hb:(Vo v&&Sx 6 x)=true:=hb
    obtain ⟨q,hq,h1,h2⟩:=znj (Bool.and_eq_true_iff.1 hb).2
    dsimp only
    rw [hq]
    exact zf0 h.c0 p0 hL0 w0 (hid (h.share_is hk hD nw (hw 1 yaj) ⟨h1,h2⟩ (.inr ⟨rfl,hw 2 yaj,hq⟩)))
   |_::_::_::_,hb=>cases hb
  rw [if_neg n1]
  by_cases n2:u=Qt
  ·subst n2
   rw [if_pos rfl]
   exact h.thread_is hk hD hL0 w0
  rw [if_neg n2]
  by_cases n3:u=Zd
  ·subst n3
   rw [if_pos rfl]
   refine z1m h.c0 p0 hL0 w0 (hid (h.end_is hD (λho=>?_) (by have:=hg.o;omega) hk.t))
   have hne:d.thr≠[]:=λe=>ho (hg.no e)
   obtain ⟨N,hN⟩: ∃N,d.thr.getLast?=some N:=⟨_,List.getLast?_eq_some_getLast hne⟩
   obtain ⟨l1,l2⟩:=hg.last N hN
   have:=hg.n
   exact ⟨N,hN,by omega,l2⟩
  rw [if_neg n3]
  refine h.row_st hk hD nw u us hw hbw hb n1 n2 n3 hg.no λN hN=>?_
  obtain ⟨l1,l2⟩:=hg.last N hN
  have:=hg.n
  exact ⟨by omega,λa ha=>by obtain ⟨k,k1,_⟩:=l2 a ha;exact ⟨k,k1⟩⟩
end
def m0(b:Nat):DM:=⟨b+1,b, .slice none 0 0, .slice none 0 0, .slice none 0 0, .slice none 0 0, .slice none 0 0, .slice none 0 0, .slice none 0 0, .slice none 0 0,[],[]⟩
theorem DMach.new(W:World)(D:Nat->Prop)(hD: ∀k,W.heap.size<=k->D k):
  ∃lab,DMach D lab ((W.alloc (.cells #[.slice none 0 0, .int .i64 0, .slice none 0 0, .slice none 0 0] 42)).alloc (.cells #[ptr W.heap.size, .slice none 0 0, .slice none 0 0, .slice none 0 0, .slice none 0 0, .slice none 0 0, .int .i64 0, .bool false, .int .i64 0] 54)) (m0 W.heap.size) d0:=by
 have hs:(W.alloc (.cells #[.slice none 0 0, .int .i64 0, .slice none 0 0, .slice none 0 0] 42)).heap.size=W.heap.size+1:=yaj
 generalize hX:W.alloc (.cells #[.slice none 0 0, .int .i64 0, .slice none 0 0, .slice none 0 0] 42)=X at hs⊢
 have c:=λo=>World.cell?_alloc_new X #[ptr W.heap.size, .slice none 0 0, .slice none 0 0, .slice none 0 0, .slice none 0 0, .slice none 0 0, .int .i64 0, .bool false, .int .i64 0] 54 o
 have sh:=Fi X #[ptr W.heap.size, .slice none 0 0, .slice none 0 0, .slice none 0 0, .slice none 0 0, .slice none 0 0, .int .i64 0, .bool false, .int .i64 0] 54
 have hb:Below X.heap.size X (X.alloc (.cells #[ptr W.heap.size, .slice none 0 0, .slice none 0 0, .slice none 0 0, .slice none 0 0, .slice none 0 0, .int .i64 0, .bool false, .int .i64 0] 54)):=(Below.refl _ X).alloc (Nat.le_refl _) _
 have hfr: ∀j,(X.alloc (.cells #[ptr W.heap.size, .slice none 0 0, .slice none 0 0, .slice none 0 0, .slice none 0 0, .slice none 0 0, .int .i64 0, .bool false, .int .i64 0] 54)).frozen? ⟨X.heap.size,j,none⟩=false:=λj=>by simp
 have hc:Chg (λ_ _=>False) X (X.alloc (.cells #[ptr W.heap.size, .slice none 0 0, .slice none 0 0, .slice none 0 0, .slice none 0 0, .slice none 0 0, .int .i64 0, .bool false, .int .i64 0] 54)):=Chg.of_below hb
 generalize X.alloc (.cells #[ptr W.heap.size, .slice none 0 0, .slice none 0 0, .slice none 0 0, .slice none 0 0, .slice none 0 0, .int .i64 0, .bool false, .int .i64 0] 54)=Y at c sh hb hfr hc⊢
 rw [hs] at c sh hfr
 have pc:=λo=>World.cell?_alloc_new W #[.slice none 0 0, .int .i64 0, .slice none 0 0, .slice none 0 0] 42 o
 have psh:=Fi W #[.slice none 0 0, .int .i64 0, .slice none 0 0, .slice none 0 0] 42
 have pfr: ∀j,X.frozen? ⟨W.heap.size,j,none⟩=false:=λj=>by rw [<-hX];simp
 rw [hX] at pc psh
 have lt:W.heap.size<X.heap.size:=yai
 have P: ∀o,Y.cell? ⟨W.heap.size,o,none⟩=X.cell? ⟨W.heap.size,o,none⟩:=λo=>hc.cell _ _ lt id
 have nil: ∀t k,Y.ownsRow 0 t k (.slice none 0 0) 0 []:=λt k=>⟨by simp, .inl ⟨rfl,rfl⟩⟩
 refine ⟨λk=>if k=W.heap.size then (0,1) else (0,0),{
  sh:=sh
  psh:=(hc.shape _ lt).trans psh
  free:=hfr
  pfree:=λj=>(hc.frozen _ _ lt).trans (pfr j)
  c0:=c 0
  c1:=c 1
  c2:=c 2
  c3:=c 3
  c4:=c 4
  c5:=c 5
  c6:=c 6
  c7:=c 7
  p0:=(P 0).trans (pc 0)
  p1:=(P 1).trans (pc 1)
  p2:=(P 2).trans (pc 2)
  p3:=(P 3).trans (pc 3)
  srow:=nil _ _
  frow:=nil _ _
  zrow:=nil _ _
  lrow:=nil _ _
  orow:=nil _ _
  trow:=nil _ _
  crow:=nil _ _
  prow:=nil _ _
  thr:=rfl
  th:=λi t ht=>by simp [m0] at ht
  lb:=⟨if_neg (by simp [m0]),hD _ (by simp [m0])⟩
  lp:=⟨if_pos rfl,hD _ (by simp [m0])⟩
  ls:=λg hg=>by simp [m0,Value.ownBlock] at hg
  lf:=λg hg=>by simp [m0,Value.ownBlock] at hg
  lz:=λg hg=>by simp [m0,Value.ownBlock] at hg
  ll:=λg hg=>by simp [m0,Value.ownBlock] at hg
  lo:=λg hg=>by simp [m0,Value.ownBlock] at hg
  lt:=λg hg=>by simp [m0,Value.ownBlock] at hg
  lc:=λg hg=>by simp [m0,Value.ownBlock] at hg
  lq:=λg hg=>by simp [m0,Value.ownBlock] at hg
  ln:=λi t ht=>by simp [m0] at ht
  lk:=λi t ht=>by simp [m0] at ht}⟩
theorem DThAt.counted{c:Nat}{t:DT}(h:DThAt w c t)(hl:t.N.length<=28)(hS: ∀i,i<=t.N.length->zec (cAt t.N i)):
  Cl 13 #[t.nv] w λe w'=>e= .returned (.tuple #[.int .i64 (zxl t.N).blocks, .int .i64 (zxl t.N).most])/\Below w.heap.size w w':=by
 have he:cAt t.N t.N.length=zxl t.N:=by unfold cAt zxl;rw [List.take_length]
 rcases h.row.2 with ⟨q1,q2⟩|⟨g,cap,cur,q1,q2⟩
 ·have e0:t.N=[]:=List.length_eq_zero_iff.1 q2
  rw [q1,e0]
  exact ziu
 ·have hr:=h.row
  rw [q1] at hr⊢
  by_cases h0:t.N.length=0
  ·have e0:t.N=[]:=List.length_eq_zero_iff.1 h0
   have hg:g<w.heap.size:=(hr.lt g rfl).2
   have:=zfu (nks:=t.N) (cap:=cap) yai (hid λi hi=>absurd hi yai) hg (hid hS)
   rw [he] at this
   exact this
  ·obtain ⟨_,_,hg⟩:=Zr hr 0 yai
   have:=zfu (nks:=t.N) (cap:=cap) yai (hid λi hi=>⟨?_,?_⟩) hg (hid hS)
   ·rw [he] at this
    exact this
   ·rw [(Zr hr (i*14) yai).1]
    exact h.nodes.kind i _ (List.getElem?_eq_getElem hi)
   ·rw [(Zr hr (i*14+12) yai).1]
    exact h.nodes.n i _ (List.getElem?_eq_getElem hi)
structure z5y(W0:World)(k1 g:Nat)(L:List (List UInt8))(wr:World)(k:Nat)(R:Except (Int×Int) DR):Prop where
 bel:Below W0.heap.size W0 wr
 row:StrsAt wr g (L.map λx=>⟨x.toArray⟩)
 mach: ∃D lab m d,(∀k,D k->k1<=k)/\m.br=k1+1/\m.bp=k1/\DMach D lab wr m d/\DGood d k/\Vz (L.drop k) k d=R
structure z38(w1 w2:World)(br:Nat)(thr:List (List NK))(t:Nat):Prop where
 chg:Chg (λk j=>k=br/\j=7) w1 w2
 c7:w2.cell? ⟨br,7,none⟩=some (.bool ((thr.take t).any Gy))
def znk(W:World)(R:Except (Int×Int) DR)(e:Ending)(w':World):Prop:=(match R with
 | .ok d=>∃bp p c,e= .returned (.tuple #[ptr bp, .int .i64 0, .int .i64 0])/\w'.cell? ⟨bp,0,none⟩=some (.slice p d.thr.length c)
 | .error (er,ln)=>e= .returned (.tuple #[.pointer none, .int .i64 er, .int .i64 ln]))/\Below W.heap.size W w'
abbrev z1n:Obj:= .cells #[.slice none 0 0, .int .i64 0, .slice none 0 0, .slice none 0 0] 42
abbrev z1o(b:Nat):Obj:= .cells #[ptr b, .slice none 0 0, .slice none 0 0, .slice none 0 0, .slice none 0 0, .slice none 0 0, .int .i64 0, .bool false, .int .i64 0] 54
abbrev rdR(v:Value)(er ln:Int):Ending:= .returned (.tuple #[v, .int .i64 er, .int .i64 ln])
theorem zt2(W:World)(s:ByteArray)(h:2000<s.size):Cl 6 #[.string s] W λe w'=>e=rdR (.pointer none) 1 0/\w'=W:=by
 have h':(2000:Int)<(s.size:Int):=yai
 go_enter Tryz.func6,Tryz.ntmps6
 go_wp2
 go_ret3
 exact ⟨rfl,rfl⟩
theorem z39(W:World)(s:ByteArray)(hs:s.size<=2000)(q:Nat)(hq2:q<=2000)(hq:(Xe 10 s.data.toList).length=q+1)(U:Nat->ByteArray)(n2:Nat->Nat)(lb:Nat->Bool)
  (J:Nat->Nat->Nat->World->Prop) (P1 P2:Nat->Nat->Nat->Nat->Nat->World->Prop) (Z:Ending->World->Prop) (Y:Nat->Nat->Nat->Int->World->Prop) (C:Nat->Nat->Nat->World->Prop) (bl mt:Nat->Int) (mo:Nat->Bool)
  (hJ0:Hid (∀W2 g cap,CutInv W W2 g cap (Xe 10 s.data.toList)->J g W2.heap.size 0 ((W2.alloc z1n).alloc (z1o W2.heap.size))))
  (hJu:Hid (∀g k1 k wr,k<=q->J g k1 k wr->wr.cell? ⟨g,k,none⟩=some (.string (U k))))
  (K1:Hid (∀g k1 k wr,k<=q->(k=q->¬(U k=⟨#[]⟩/\0<k))->J g k1 k wr->Cl 10 #[.string (U k), .int .u8 32] wr λe w'=>∃g2 c2,e= .returned (.slice (some ⟨g2,0,none⟩) (n2 k) c2)/\P1 g k1 k g2 c2 w'))
  (K2:Hid (∀g k1 k g2 c2 wr,P1 g k1 k g2 c2 wr->Cl 11 #[.slice (some ⟨g2,0,none⟩) (n2 k) c2] wr λe w'=>e= .returned (.bool (lb k))/\P2 g k1 k g2 c2 w'))
  (hZ1:Hid (∀g k1 k g2 c2 wr,P2 g k1 k g2 c2 wr->(lb k=false\/k=q)->Z (rdR (.pointer none) 2 ((k:Int)+1)) wr))
  (K3:Hid (∀g k1 k g2 c2 wr,P2 g k1 k g2 c2 wr->lb k=true->k<q->Cl 12 #[ptr (k1+1), .slice (some ⟨g2,0,none⟩) (n2 k) c2] wr λe w'=>∃er,e= .returned (.int .i64 er)/\((er=0/\J g k1 (k+1) w')\/(er≠0/\Z (rdR (.pointer none) er ((k:Int)+1)) w'))))
  (hX:Hid (∀g k1 wr,J g k1 q wr->U q=⟨#[]⟩->0<q->∃po on co pt tn ct cl,wr.cell? ⟨k1+1,5,none⟩=some (.slice po on co)/\wr.cell? ⟨k1+1,0,none⟩=some (ptr k1)/\wr.cell? ⟨k1,0,none⟩=some (.slice pt tn ct)/\tn<=100000/\on<=100000/\Y k1 on tn cl wr))
  (hZ2:Hid (∀k1 on tn cl wr,Y k1 on tn cl wr->0<on\/tn=0->Z (rdR (.pointer none) 3 ((q:Int)+1)) wr))
  (hC0:Hid (∀k1 tn cl wr,Y k1 0 tn cl wr->0<tn->C k1 tn 0 wr/\mo 0=false))
  (hC1:Hid (∀k1 tn t wr,C k1 tn t wr->∃gt ct cl nv,wr.cell? ⟨k1+1,0,none⟩=some (ptr k1)/\wr.cell? ⟨k1,0,none⟩=some (.slice (some ⟨gt,0,none⟩) tn ct)/\wr.cell? ⟨k1,1,none⟩=some (.int .i64 cl)/\wr.cell? ⟨k1+1,7,none⟩=some (.bool (mo t))/\wr.frozen? ⟨k1+1,7,none⟩=false/\
   (t<tn->wr.cell? ⟨gt,t,none⟩=some nv/\Cl 13 #[nv] wr λe w'=>e= .returned (.tuple #[.int .i64 (bl t), .int .i64 (mt t)])/\Below wr.heap.size wr w'/\ ∀b,(mo t||(decide (3<bl t)||decide (8<mt t)))=b->C k1 tn (t+1) (w'.setCell ⟨k1+1,7,none⟩ (.bool b)))
   /\(t=tn->Z (if (mo t||(decide (6<cl)||decide (3<tn)))=true then rdR (.pointer none) 5 0 else rdR (ptr k1) 0 0) wr))):
  Cl 6 #[.string s] W Z:=by
 have hs': ¬(2000:Int)<(s.size:Int):=yai
 have hsz:s.size<=262144:=yai
 have KC:=hid (za6 W s 10 hsz)
 rw [hq] at KC
 have HJ0:=hJ0
 clear hJ0 hsz hs hq
 go_enter Tryz.func6,Tryz.ntmps6
 go_wp2_with fail
 refine KC.out.mono ?_
 rintro e W2 ⟨g,cap,rfl,hcut⟩
 have HN:=hid (HJ0.out _ _ _ hcut)
 clear hcut HJ0 KC
 go_wp2
 generalize W2.heap.size=k1 at*
 go_loopw [8,9] (λv8 v9 wr=>∃k:Nat,k<=q/\v8= .int .i64 k/\v9= .int .i64 k/\Hid (J g k1 k wr)) (λ_ v9 _=>q+1- (intOf v9).toNat)
 case atStart=>exact ⟨0,Nat.zero_le _,rfl,rfl,HN⟩
 case round=>
  clear HN
  obtain ⟨k,hk,rfl,rfl,HI⟩:=hrel
  have hk':(k:Int)<(q:Int)+1:=yai
  have hk0:(0:Int)<=(k:Int):=yai
  have hu:=hJu.out g k1 k wr hk HI.out
  have D1:=hid (λh=>K1.out g k1 k wr hk h HI.out)
  have D2:=hid (K2.out g k1 k)
  have D3:=hid (K3.out g k1 k)
  have D4:=hid (hZ1.out g k1 k)
  clear K1 K2 K3 hZ1 hJu
  by_cases hlast:k=q
  ·subst hlast
   have D5:=hid (hX.out g k1 wr HI.out)
   clear hX
   generalize hU:U k=uk at*
   generalize n2 k=nk at*
   by_cases hbr:uk=⟨#[]⟩/\0<k
   ·obtain ⟨hu0,hk1⟩:=hbr
    subst hu0
    have hk1':(0:Int)<(k:Int):=yai
    obtain ⟨po,on,co,pt,tn,ct,cl,x5,x0,y0,htn,hon,hY⟩:=D5.out rfl hk1
    have HY:=hid hY
    clear D1 D2 D3 D4 D5 hY
    by_cases ho:0<on
    ·have ho':(0:Int)<(on:Int):=by omega
     go_wp2
     go_ret3
     exact hZ2.out _ _ _ _ _ HY.out (.inl ho)
    ·obtain rfl:on=0:=by omega
     by_cases ht:tn=0
     ·subst ht
      go_wp2
      go_ret3
      exact hZ2.out _ _ _ _ _ HY.out (.inr rfl)
     ·have ht':((tn:Int)==0)=false:=by simp;omega
      obtain ⟨hc,hm0⟩:=hC0.out _ _ _ _ HY.out yai
      have HC:=hid hc
      clear hc hC0 hZ2 HY HI
      go_wp2
      go_loopw [13] (λv13 w5=>∃t:Nat,t<=tn/\v13= .int .i64 t/\Hid (C k1 tn t w5)) (λv13 _=>tn- (intOf v13).toNat)
      case atStart=>exact ⟨0,Nat.zero_le _,rfl,HC⟩
      case round=>
       clear HC hm0 x5 x0 y0 ht ht'
       obtain ⟨t,ht,rfl,HC⟩:=hrel
       obtain ⟨gt,ct,cl,nv,a0,b0,b1,a7,f7,hin,hout⟩:=hC1.out _ _ _ _ HC.out
       clear hC1 HC
       have ht0:(0:Int)<=(t:Int):=yai
       by_cases hlt:t<tn
       ·have hlt':(t:Int)<(tn:Int):=by omega
        obtain ⟨n1,n2⟩:=hin hlt
        have D6:=hid n2
        have lb:k1+1<wr.heap.size:=blt a0
        clear n2 hin hout
        go_wp2_with fail
        refine D6.out.mono ?_
        rintro e w6 ⟨rfl,hb6,hc6⟩
        have HC6:=hid hc6
        have c7:=(hb6.cell (p:=⟨k1+1,7,none⟩) lb).trans a7
        have g7:=(hb6.frozen (p:=⟨k1+1,7,none⟩) lb).trans f7
        have l6:k1+1<w6.heap.size:=Nat.lt_of_lt_of_le lb hb6.size
        clear hc6 hb6 D6 a7 f7 a0 b0 b1 n1
        have hcs:(mo t=false/\((3<bl t)\/(¬3<bl t/\8<mt t)\/(¬3<bl t/\ ¬8<mt t)))\/mo t=true:=by
         cases mo t<;>simp<;>omega
        rcases hcs with ⟨hmo,h3|⟨h3,h8⟩|⟨h3,h8⟩⟩|hmo
        all_goals
         go_wp2
         go_roundw
         case measure=>simp [intOf];omega
         exact ⟨t+1,by omega,by go_num,hid (HC6.out _ (by simp [*]))⟩
       ·obtain rfl:t=tn:=by omega
        have hlt': ¬(t:Int)<(t:Int):=yai
        have HZ:=hid (hout rfl)
        clear hin hout
        have hcs:(mo t=false/\((6<cl)\/(¬6<cl/\(3:Int)<(t:Int))\/(¬6<cl/\ ¬(3:Int)<(t:Int))))\/mo t=true:=by
         cases mo t<;>simp<;>omega
        rcases hcs with ⟨hmo,h3|⟨h3,h8⟩|⟨h3,h8⟩⟩|hmo
        ·rw [if_pos (by simp [hmo,h3])] at HZ
         go_wp2
         go_ret3
         exact HZ.out
        ·rw [if_pos (by simp [hmo];omega)] at HZ
         go_wp2
         go_ret3
         exact HZ.out
        ·rw [if_neg (by simp [hmo];omega)] at HZ
         go_wp2
         go_ret3
         exact HZ.out
        ·rw [if_pos (by simp [hmo])] at HZ
         go_wp2
         go_ret3
         exact HZ.out
   ·have hcase:(uk.toList==[])=false\/((uk.toList==[])=true/\ ¬(0:Int)<(k:Int)):=by
     by_cases h0:uk=⟨#[]⟩
     ·subst h0
      exact .inr ⟨by kernel_rfl,λe=>hbr ⟨rfl,by omega⟩⟩
     ·exact .inl (Qo (l:=[]) h0)
    have E1:=hid (D1.out λ_=>hbr)
    clear hbr D1 D3 D5
    have hkk:k<=2000:=hq2
    rcases hcase with he|⟨he,hz⟩
    all_goals
     go_wp2_with fail
     refine E1.out.mono ?_
     rintro e w1 ⟨g2,c2,rfl,h1⟩
     have H1:=hid h1
     clear h1
     go_wp2_with fail
     refine (D2.out _ _ _ H1.out).mono ?_
     rintro e w2 ⟨rfl,h2⟩
     have H2:=hid h2
     clear h2
     cases hl:lb k
     all_goals
      go_wp2
      go_ret3
      exact D4.out _ _ _ H2.out yaj
  ·have hlt:k<q:=by omega
   have hne: ¬(k:Int)=(q:Int):=yai
   have hlt':(k:Int)<(q:Int):=yai
   have E1:=hid (D1.out λe=>absurd e hlast)
   clear D1
   generalize U k=uk at*
   generalize n2 k=nk at*
   clear hX
   go_wp2_with fail
   refine E1.out.mono ?_
   rintro e w1 ⟨g2,c2,rfl,h1⟩
   have H1:=hid h1
   clear h1
   go_wp2_with fail
   refine (D2.out _ _ _ H1.out).mono ?_
   rintro e w2 ⟨rfl,h2⟩
   have H2:=hid h2
   clear h2
   cases hl:lb k with
   |false=>
    go_wp2
    go_ret3
    exact D4.out _ _ _ H2.out (.inl hl)
   |true=>
    go_wp2_with fail
    refine (D3.out _ _ _ H2.out hl hlt).mono ?_
    rintro e w3 ⟨er,rfl,h3⟩
    have H3:=hid h3
    clear h3
    by_cases her:er=0
    ·subst her
     go_wp2
     refine ⟨⟨k+1,by omega,by go_num,by go_num,hid ?_⟩,by simp [intOf];omega⟩
     rcases H3.out with ⟨_,h⟩|⟨h,_⟩
     ·exact h
     ·exact absurd rfl h
    ·go_wp2
     go_ret3
     rcases H3.out with ⟨h,_⟩|⟨_,h⟩
     ·exact absurd h her
     ·exact h
def z4a:Prop:=∀(D:Nat->Prop) (lab:Nat->Nat×Nat) (w:World) (m:DM) (d:DR) (j bw cap:Nat) (ws:List ByteArray),DMach D lab w m d->DGood d j->j<=2000->(∀k,w.heap.size<=k->D k)->¬D bw->StrsAt w bw ws->bw<w.heap.size->Jr ws=true ->
 Cl 12 #[ptr m.br, .slice (some ⟨bw,0,none⟩) ws.length cap] w (DPost D w m (Xw d ws))
def zxw(n:Nat):Except (Int×Int) DR->Except (Int×Int) DR
 | .error e=> .error e
 | .ok d=>if 0<d.opn.length\/d.thr.length=0 then .error (3,(n:Int)) else if zfa d=true then .error (5,0) else .ok d
def ziz(L:List (List UInt8))(k:Nat):ByteArray:=⟨(L.getD k []).toArray⟩
def z10:Except (Int×Int) DR->List (List NK)
 | .ok d=>d.thr
 | .error _=>[]
theorem zi0{W:World}{g cap:Nat}{L:List (List UInt8)}(h:CutInv w W g cap L):StrsAt W g (L.map λx=>⟨x.toArray⟩):=z9f
theorem zg4(c:UInt8): ∀(l:List UInt8),(∀p∈Xe c l,p.length<=l.length)/\(Xe c l).length<=l.length+1
 |[]=>by simp [Xe]
 |b::l=>by
  obtain ⟨h1,h2⟩:=zg4 c l
  unfold Xe
  split
  ·refine ⟨λp hp=>?_,by simp;omega⟩
   rcases List.mem_cons.1 hp with rfl|hp
   ·simp
   ·have:=h1 p hp;simp;omega
  ·split
   ·simp
   ·rename_i q r e
    rw [e] at h1 h2
    refine ⟨λp hp=>?_,by simp at h2⊢;omega⟩
    rcases List.mem_cons.1 hp with rfl|hp
    ·have:=h1 q yaj;simp;omega
    ·have:=h1 p (List.mem_cons_of_mem _ hp);simp;omega
theorem zzb(h:w.ownsRow o t k v n xs): ∃p c,v= .slice p n c:=z9t
theorem z1p(h:dSt d s= .error e):e≠0:=by
 unfold dSt at h
 repeat' split at h
 all_goals first|(cases h;decide)|cases h
theorem zf1(h:Xw d ws= .error e):e≠0:=by
 have sh: ∀x n,Ge d x n= .error e->e≠0:=λx n h=>by
  unfold Ge at h
  repeat' split at h
  all_goals first|(cases h;decide)|cases h
 cases ws with
 |nil=>cases h;decide
 |cons u us=>
  unfold Xw at h
  dsimp only at h
  split at h
  ·split at h
   ·exact sh _ _ h
   ·exact sh _ _ h
   ·cases h;decide
  split at h
  ·unfold Gx at h
   split at h
   ·cases h;decide
   ·cases h
  split at h
  ·unfold zb9 at h
   split at h
   ·cases h
   ·cases h;decide
  exact z1p h
section
variable{W:World}{L:List (List UInt8)}{R:Except (Int×Int) DR}
def JAt(W:World)(L:List (List UInt8))(R:Except (Int×Int) DR)(g k1 k:Nat)(wr:World):Prop:=z5y W k1 g L wr k R/\g<k1/\W.heap.size<=k1
structure z57(W:World)(L:List (List UInt8))(R:Except (Int×Int) DR)(g k1 k g2:Nat)(wr:World):Prop where
 bel:Below W.heap.size W wr
 row:StrsAt wr g (L.map λx=>⟨x.toArray⟩)
 lo:g<k1/\W.heap.size<=k1
 gl:g2<wr.heap.size
 kl:k<L.length
 strs:StrsAt wr g2 (Ql (L.getD k []))
 nb:k+1=L.length->¬(ziz L k=⟨#[]⟩/\0<k)
 mach: ∃D lab m d,(∀k,D k->k1<=k)/\(∀k,wr.heap.size<=k->D k)/\ ¬D g2/\m.br=k1+1/\m.bp=k1/\DMach D lab wr m d/\DGood d k/\Vz (L.drop k) k d=R
theorem zt3:ziz L k=⟨#[]⟩↔L.getD k []=[]:=by
 unfold ziz
 constructor
 ·intro e
  have:=congrArg (λx:ByteArray=>x.data.toList) e
  simpa using this
 ·intro e;rw [e]
theorem zi1(hq:L.length=q+1):L.drop q=[L.getD q []]:=by
 have hlt:q<L.length:=yai
 rw [List.drop_eq_getElem_cons hlt,List.drop_of_length_le yai]
 simp [List.getD,List.getElem?_eq_getElem hlt]
theorem znl(hq:L.length=q+1)(hk:k<q): ∃r,L.drop k=L.getD k []::L.getD (k+1) []::r/\L.drop (k+1)=L.getD (k+1) []::r:=by
 have h1:k<L.length:=yai
 have h2:k+1<L.length:=yai
 refine ⟨L.drop (k+2),?_,?_⟩
 ·rw [List.drop_eq_getElem_cons h1,List.drop_eq_getElem_cons h2]
  simp [List.getD,List.getElem?_eq_getElem h1,List.getElem?_eq_getElem h2]
 ·rw [List.drop_eq_getElem_cons h2]
  simp [List.getD,List.getElem?_eq_getElem h2]
def YAt(W:World)(R:Except (Int×Int) DR)(k1 on tn:Nat)(cl:Int)(wr:World):Prop:=∃D lab m d,m.br=k1+1/\m.bp=k1/\DMach D lab wr m d/\R= .ok d/\on=d.opn.length/\tn=d.thr.length/\cl=d.cells/\Below W.heap.size W wr/\W.heap.size<=k1
def z6r(W:World)(R:Except (Int×Int) DR)(k1 tn t:Nat)(wr:World):Prop:=∃D lab m d w1,m.br=k1+1/\m.bp=k1/\DMach D lab w1 m d/\R= .ok d/\d.opn.length=0/\tn=d.thr.length/\0<tn/\Below W.heap.size W w1/\W.heap.size<=k1/\z38 w1 wr (k1+1) d.thr t
theorem zpm(s:ByteArray)(hs:s.size<=2000)(hL:Xe 10 s.data.toList=L)(hR:Vz L 0 d0=R)(KR:z4a)
  (hS: ∀d,R= .ok d->d.opn.length=0->d.thr.length≠0->∀N∈d.thr,N.length<=28/\ ∀i,i<=N.length->zec (cAt N i)):
  Cl 6 #[.string s] W (znk W (zxw L.length R)):=by
 have hsl:s.data.toList.length=s.size:=ybz
 obtain ⟨z1,z2⟩:=zg4 10 s.data.toList
 rw [hL,hsl] at z1 z2
 obtain ⟨q,hq⟩: ∃q,L.length=q+1:=⟨L.length- 1,by have:0<L.length:=List.length_pos_iff.2 (hL▸zb4 _ _);omega⟩
 have hq2:q<=2000:=yai
 have hll: ∀k,(L.getD k []).length<=2000:=λk=>by
  by_cases c:k<L.length
  ·have:L.getD k []=L[k]:=by simp [List.getD,List.getElem?_eq_getElem c]
   rw [this]
   have:=z1 _ (List.getElem_mem c)
   omega
  ·simp [List.getD,List.getElem?_eq_none (show L.length<=k by omega)]
 have hwl: ∀k,Ql (L.getD k [])=(Xe 32 (L.getD k [])).map λx=>⟨x.toArray⟩:=λk=>Ix _
 refine z39 W s hs q hq2 (by rw [hL];exact hq) (ziz L) (λk=>(Ql (L.getD k [])).length) (λk=>Jr (Ql (L.getD k []))) (JAt W L R) (λg k1 k g2 _ w=>z57 W L R g k1 k g2 w) (λg k1 k g2 _ w=>z57 W L R g k1 k g2 w) (znk W (zxw L.length R)) (YAt W R) (z6r W R)
  (λt=>(zxl ((z10 R).getD t [])).blocks) (λt=>(zxl ((z10 R).getD t [])).most) (λt=>((z10 R).take t).any Gy)
  (hid ?j0) (hid ?ju) (hid ?k1) (hid ?k2) (hid ?z1) (hid ?k3) (hid ?x) (hid ?z2) (hid ?c0) (hid ?c1)
 case j0=>
  intro W2 g cap hcut
  rw [hL] at hcut
  have hgl:g<W2.heap.size:=(hcut.own.lt g rfl).2
  obtain ⟨lab,hm⟩:=DMach.new W2 (λk=>W2.heap.size<=k) (λ_ h=>h)
  have hb: ∀(A B:Obj),Below W2.heap.size W2 ((W2.alloc A).alloc B):=λA B=>((Below.refl _ W2).alloc (Nat.le_refl _) _).alloc yaj _
  exact ⟨⟨hcut.bel.trans ((hb _ _).mono hcut.bel.size),(zi0 hcut).keep hgl (hb _ _),⟨_,lab,_,_,λ_ h=>h,rfl,rfl,hm,z37,hR⟩⟩,hgl,hcut.bel.size⟩
 case ju=>
  intro g k1 k wr hk hJ
  have hkl:k<L.length:=yai
  rw [hJ.1.row k (by simpa using hkl)]
  simp [ziz,List.getD,List.getElem?_eq_getElem hkl]
 case k1=>
  intro g k1 k wr hk hnb hJ
  have hz:(ziz L k).size<=262144:=by
   have:=hll k
   show (L.getD k []).toArray.size<=262144
   rw [List.size_toArray]
   omega
  refine Calls.mono (za6 wr (ziz L k) 32 hz) ?_
  rintro e w' ⟨g2,c2,rfl,hcut⟩
  have hcut:CutInv wr w' g2 c2 (Xe 32 (L.getD k [])):=hcut
  have hgl:g2<w'.heap.size:=(hcut.own.lt g2 rfl).2
  have hst:=zi0 hcut
  rw [<-hwl] at hst
  obtain ⟨hI,h1,h2⟩:=hJ
  obtain ⟨D,lab,m,d,m1,m2,m3,m4,m5,m6⟩:=hI.mach
  refine ⟨g2,c2,by rw [hwl];simp [ziz],{
   bel:=hI.bel.trans (hcut.bel.mono hI.bel.size)
   row:=hI.row.keep (n:=wr.heap.size) (by have:=Qd m4.psh;omega) hcut.bel
   lo:=⟨h1,h2⟩
   gl:=hgl
   kl:=yai
   strs:=hst
   nb:=λe=>hnb yai
   mach:=⟨λj=>(D j/\j<wr.heap.size)\/w'.heap.size<=j,lab,m,d,λj hj=>?_,λj hj=> .inr hj,?_,m2,m3,(m4.restrict λj hj hD=> .inl ⟨hD,hj⟩).below hcut.bel,m5,m6⟩}⟩
  ·have:=Qd m4.psh
   have:=hcut.bel.size
   rcases hj with ⟨a,_⟩|a
   ·exact m1 j a
   ·omega
  ·have:=hcut.lo
   rintro (⟨_,a⟩|a)<;>omega
 case k2=>
  intro g k1 k g2 c2 wr h
  have hne:Ql (L.getD k [])≠[]:=by rw [hwl];simp [zb4]
  refine Calls.mono (zs9 h.strs h.gl hne (λu hu=>?_) ?_) ?_
  ·rw [hwl] at hu
   obtain ⟨p,hp,rfl⟩:=List.mem_map.1 hu
   have:=(zg4 32 (L.getD k [])).1 p hp
   have:=hll k
   show p.toArray.size<1000000
   rw [List.size_toArray]
   omega
  ·rw [hwl,List.length_map]
   have:=(zg4 32 (L.getD k [])).2
   have:=hll k
   omega
  ·rintro e w' ⟨rfl,hb⟩
   obtain ⟨D,lab,m,d,m1,m1',m1'',m2,m3,m4,m5,m6⟩:=h.mach
   exact ⟨rfl,{
    bel:=h.bel.trans (hb.mono h.bel.size)
    row:=h.row.keep (n:=wr.heap.size) (by have:=Qd m4.psh;have:=h.lo;omega) hb
    lo:=h.lo
    gl:=Nat.lt_of_lt_of_le h.gl hb.size
    kl:=h.kl
    strs:=h.strs.keep h.gl hb
    nb:=h.nb
    mach:=⟨D,lab,m,d,m1,λj hj=>m1' j (Nat.le_trans hb.size hj),m1'',m2,m3,m4.below hb,m5,m6⟩}⟩
 case z1=>
  intro g k1 k g2 c2 wr h hc
  obtain ⟨D,lab,m,d,m1,m1',m1'',m2,m3,m4,m5,m6⟩:=h.mach
  have hRR:R= .error (2,(k:Int)+1):=by
   rw [<-m6]
   by_cases hkq:k<q
   ·obtain ⟨r,r1,_⟩:=znl hq hkq
    rw [r1,Vz]
    rw [if_pos (hc.resolve_right yai)]
   ·obtain rfl:k=q:=by have:=h.kl;omega
    rw [zi1 hq,Vz,if_neg λe=>h.nb hq.symm ⟨zt3.2 e.1,by omega⟩]
  rw [hRR]
  exact ⟨rfl,h.bel⟩
 case k3=>
  intro g k1 k g2 c2 wr h hb hk
  obtain ⟨D,lab,m,d,m1,m1',m1'',m2,m3,m4,m5,m6⟩:=h.mach
  have:=KR D lab wr m d k g2 c2 (Ql (L.getD k [])) m4 m5 yai m1' m1'' h.strs h.gl hb
  rw [m2] at this
  refine this.mono ?_
  intro e w' hp
  obtain ⟨hch,hp⟩:=hp
  obtain ⟨r,r1,r2⟩:=znl hq hk
  rw [r1,Vz,if_neg (by rw [hb];simp)] at m6
  have hbel:Below W.heap.size W w':=h.bel.trans (hch.below h.bel.size (λj _ hj=>Nat.le_trans h.lo.2 (m1 j hj)))
  cases hd:Xw d (Ql (L.getD k [])) with
  |ok d'=>
   rw [hd] at hp m6
   obtain ⟨rfl,lab',m',e1,e2,hm'⟩:=hp
   refine ⟨0,rfl, .inl ⟨rfl,⟨hbel,?_,⟨D,lab',m',d',m1,e1.trans m2,e2.trans m3,hm',m5.line hb hd,?_⟩⟩,h.lo⟩⟩
   ·intro j hj
    have hgl:g<wr.heap.size:=by have:=Qd m4.psh;have:=h.lo;omega
    exact (hch.cell _ _ hgl λe=>by have:=m1 g e;have:=h.lo;omega).trans (h.row j hj)
   ·rw [r2];exact m6
  |error er=>
   rw [hd] at hp m6
   have hp:e= .returned (.int .i64 er):=hp
   subst hp
   refine ⟨er,rfl, .inr ⟨zf1 hd,?_⟩⟩
   rw [<-m6]
   exact ⟨rfl,hbel⟩
 case x=>
  intro g k1 wr hJ hu h0
  obtain ⟨hI,h1,h2⟩:=hJ
  obtain ⟨D,lab,m,d,m1,m2,m3,m4,m5,m6⟩:=hI.mach
  obtain ⟨po,co,hov⟩:=zzb m4.orow
  obtain ⟨pt,ct,htv⟩:=zzb m4.trow
  have hRR:R= .ok d:=by
   rw [<-m6,zi1 hq,Vz,if_pos ⟨zt3.1 hu,by omega⟩]
  refine ⟨po,d.opn.length,co,pt,d.thr.length,ct,d.cells,?_,?_,?_,?_,?_,D,lab,m,d,m2,m3,m4,hRR,rfl,rfl,rfl,hI.bel,h2⟩
  ·rw [<-hov,<-m2];exact m4.c5
  ·rw [<-m2,<-m3];exact m4.c0
  ·rw [<-htv,<-m3];exact m4.p0
  ·have:=m5.t;omega
  ·have:=m5.o;omega
 case z2=>
  intro k1 on tn cl wr hY hc
  obtain ⟨D,lab,m,d,m2,m3,m4,hRR,rfl,rfl,rfl,hb,_⟩:=hY
  rw [hRR]
  unfold zxw
  dsimp only
  rw [if_pos hc,hq]
  exact ⟨rfl,hb⟩
 case c0=>
  intro k1 tn cl wr hY ht
  obtain ⟨D,lab,m,d,m2,m3,m4,hRR,ho,rfl,rfl,hb,hk⟩:=hY
  exact ⟨⟨D,lab,m,d,wr,m2,m3,m4,hRR,ho.symm,rfl,ht,hb,hk,⟨Chg.refl _ _,by rw [<-m2];exact m4.c7⟩⟩,rfl⟩
 case c1=>
  intro k1 tn t wr hC
  obtain ⟨D,lab,m,d,w1,m2,m3,m4,hRR,ho,rfl,ht,hb,hk,hI⟩:=hC
  obtain ⟨gt,ct,htv,_⟩:=Za m4.trow ht
  have hbr:m.br<w1.heap.size:=Qd m4.sh
  have hbp:m.bp<w1.heap.size:=Qd m4.psh
  have hbel:Below W.heap.size W wr:=hb.trans (hI.chg.below hb.size (λj _ hj=>by have:=hj.1;omega))
  have hthr:z10 R=d.thr:=by rw [hRR];rfl
  have hgt:=m4.lt gt (by rw [htv];rfl)
  have hgb:gt≠k1+1:=λe=>by
   have:=m4.lb.1
   rw [m2,<-e,hgt.1] at this
   simp at this
  have c0:wr.cell? ⟨k1+1,0,none⟩=some (ptr k1):=(hI.chg.cell _ _ yai yaj).trans (by rw [<-m2,<-m3];exact m4.c0)
  have p0:wr.cell? ⟨k1,0,none⟩=some (.slice (some ⟨gt,0,none⟩) d.thr.length ct):=(hI.chg.cell _ _ yai yaj).trans (by rw [<-htv,<-m3];exact m4.p0)
  have p1:wr.cell? ⟨k1,1,none⟩=some (.int .i64 d.cells):=(hI.chg.cell _ _ yai yaj).trans (by rw [<-m3];exact m4.p1)
  have hlen:=Sl m4
  refine ⟨gt,ct,d.cells,((m.ts.map DT.nv)[t]?).getD .nilIface,c0,p0,p1,by rw [hthr];exact hI.c7,?_,λhlt=>?_,λhe=>?_⟩
  ·exact (hI.chg.frozen _ _ yai).trans (by rw [<-m2];exact m4.free 7)
  ·have hlt':t<m.ts.length:=by omega
   have hti:m.ts[t]?=some m.ts[t]:=List.getElem?_eq_getElem hlt'
   have hnv:(m.ts.map DT.nv)[t]?=some m.ts[t].nv:=by rw [List.getElem?_map,hti];rfl
   rw [hnv,Option.getD_some]
   have hN:d.thr[t]?=some m.ts[t].N:=by rw [<-m4.thr,List.getElem?_map,hti];rfl
   have hrow:=m4.trow
   rw [htv] at hrow
   obtain ⟨q1,_,q3⟩:=Qm hrow t hlt
   refine ⟨(hI.chg.cell _ _ q3 λe=>hgb e.1).trans (q1.trans hnv),?_⟩
   have hth:DThAt wr d.cells.toNat m.ts[t]:=(m4.th t _ hti).keep hI.chg λg' hg' j e=>by
    have h1:=(m4.ln t _ hti g' hg').1
    have h2:=m4.lb.1
    rw [m2,<-e.1,h1] at h2
    simp at h2
   obtain ⟨s1,s2⟩:=hS d hRR ho yai _ (List.mem_of_getElem? hN)
   have hge:(z10 R).getD t []=m.ts[t].N:=by rw [hthr];simp [List.getD,hN]
   rw [hge]
   refine (hth.counted s1 s2).mono ?_
   rintro e w' ⟨rfl,hb'⟩
   refine ⟨rfl,hb',λb hbb=>⟨D,lab,m,d,w1,m2,m3,m4,hRR,ho,rfl,ht,hb,hk,⟨?_,?_⟩⟩⟩
   ·exact (hI.chg.then (Chg.of_below (M:=λ_ _=>False) hb') (λ_ _ _ e=>e.elim)).setCell (λ_=>⟨rfl,rfl⟩) _
   ·rw [Qg ((hb'.cell (p:=⟨k1+1,7,none⟩) (show k1+1<wr.heap.size from blt c0)).trans hI.c7) rfl,<-hbb]
    rw [hthr,List.take_add_one,hN]
    simp [List.any_append,Gy]
  ·subst he
   rw [hRR]
   have hm:(((z10 (.ok d)).take d.thr.length).any Gy||(decide (6<d.cells)||decide (3<d.thr.length)))=zfa d:=by
    unfold zfa
    show ((d.thr.take d.thr.length).any Gy||_)=_
    rw [List.take_length]
    cases d.thr.any Gy<;>cases decide (6<d.cells)<;>cases decide (3<d.thr.length)<;>rfl
   unfold zxw
   dsimp only
   rw [if_neg yai]
   have hZ: ∀(b:Bool),b=zfa d->znk W (if zfa d=true then .error (5,0) else .ok d) (if b=true then rdR (.pointer none) 5 0 else rdR (ptr k1) 0 0) wr:=by
    rintro b rfl
    cases zfa d with
    |true=>exact ⟨rfl,hbel⟩
    |false=>exact ⟨⟨k1,_,_,rfl,p0⟩,hbel⟩
   exact hZ _ hm
end
theorem z1q:z4a:=λ_ _ _ _ _ _ _ _ ws h hg hj hD nw hw hbw hb=>h.row_is hg hj hD nw ws hw hbw hb
theorem zlj{s:ByteArray}(hz:s.size<=2000)(hd:Vz (Xe 10 s.data.toList) 0 d0= .ok d)(ho:d.opn.length=0)(ht:d.thr.length≠0): ∀N∈d.thr,N.length<=28/\ ∀i,i<=N.length->zec (cAt N i):=by
 have he:Jl s=Yc (s.size+2) s.data.toList 0 RS.none:=by unfold Jl;rw [if_neg yai]
 have hs:=zel (s.size+2) s.data.toList 0 RS.none d0 ydr none_ok zm9
 rw [<-he,hd] at hs
 cases hg:Jl s with
 |error e=>rw [hg] at hs;exact hs.elim
 |ok st=>
  rw [hg] at hs
  have h:Sim st d:=hs
  have hok:st.Ok 2000:=by
   rw [he] at hg
   exact zbe _ _ 0 _ _ none_ok yc1 hg
  have hop:st.opn.length=1:=by
   rcases List.eq_nil_or_concat st.threads with e|⟨tl,t,e⟩
   ·exact absurd (by rw [h.len,e];rfl) ht
   ·rw [List.concat_eq_append] at e
    obtain ⟨ps,N,h1,_,_,_,h5⟩:=h.last tl t e
    have:=h5.len
    rw [h1,List.length_cons]
    omega
  exact (znc h hg hok hop).2
theorem zi2(W:World)(s:ByteArray):Cl 6 #[.string s] W (znk W (zis s)):=by
 unfold zis
 by_cases hz:2000<s.size
 ·rw [if_pos hz]
  refine (zt2 W s hz).mono ?_
  rintro e w' ⟨rfl,rfl⟩
  exact ⟨rfl,Below.refl _ _⟩
 ·rw [if_neg hz]
  exact zpm s yai rfl rfl z1q λd hd=>zlj yai hd
end Go.Proofs.YtphcopbffecceaaGreatDoor
