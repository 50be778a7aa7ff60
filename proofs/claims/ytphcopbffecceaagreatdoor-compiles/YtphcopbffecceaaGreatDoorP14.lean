import Derived.Test.YtphcopbffecceaaGreatDoorP13
set_option maxRecDepth 100000
set_option maxHeartbeats 2000000
namespace Go.Proofs.YtphcopbffecceaaGreatDoor
open Go.RowKit
variable{k:Bk}{s:Ck}{body:Ck->Ck}{f:Nat->Ck->Ck}{b:Bool}
def Cx.leaf(x:Cx):St->Ck->Ck
 | .inl (to,a),s=>s.add [zdp,x.local to,x.val a]
 | .inr (.inl (to,o,a,b)),s=>s.add [Jc o,x.local to,x.val a,x.val b]
 | .inr (.inr (.inl (to,of,a))),s=>x.get to of a s
 | .inr (.inr (.inr (.inl (of,a,v)))),s=>x.put of a v s
 | .inr (.inr (.inr (.inr (.inl a)))),s=>x.outC a s
 |_,s=>s
def Cx.held(x:Cx)(k:Bk)(body:Ck->Ck):St->Ck->Ck
 | .inr (.inr (.inr (.inr (.inr (.inl ()))))),s=>x.atomicC k body s
 | .inr (.inr (.inr (.inr (.inr (.inr (.inl a)))))),s=>(body (s.add [yJz,x.val a])).land s.L.length
 | .inr (.inr (.inr (.inr (.inr (.inr (.inr n)))))),s=>x.loopC n body s
 |_,s=>s
def cEn(hs:List Hd)(x:Cx):Nat->En->Ck->Ck
 |_, .inl st,s=>x.leaf st s
 |0, .inr _,s=>s
 |f+1, .inr j,s=>match hs[j]? with
  |some ⟨.inr st,es⟩=>x.held ((Jf hs 3 es).foldl x.seen bk0) (λs=>es.foldl (λs e=>cEn hs x f e s) s) st s
  |_=>s
structure Sane(f:Ck->Ck):Prop where
 lo: ∀s,(f s).loops=s.loops
 le: ∀s,s.L.length<=(f s).L.length
theorem Sane.id:Sane (λs=>s):=⟨λ_=>rfl,λ_=>Nat.le_refl _⟩
theorem Sane.add(ws:List ByteArray):Sane (λs=>s.add ws):=⟨λ_=>rfl,λs=>by rw [Qx];omega⟩
theorem Um(h: ∀i,Sane (f i)): ∀(l:List Bool) (i:Nat),Sane (Qn f l i)
 |[],_=>Sane.id
 |a::r,i=>by
  have ih:=Um h r (i+1)
  refine ⟨λs=>?_,λs=>?_⟩
  ·simp only [Qn]
   rw [ih.lo]
   by_cases ha:a=true
   ·rw [if_pos ha];exact (h i).lo s
   ·rw [if_neg ha]
  ·simp only [Qn]
   refine Nat.le_trans ?_ (ih.le _)
   by_cases ha:a=true
   ·rw [if_pos ha];exact (h i).le s
   ·rw [if_neg ha];exact Nat.le_refl _
theorem zru(s:Ck)(ws:List ByteArray):(s.add ws).loops=s.loops:=rfl
theorem z0j(s:Ck)(n:Nat):(s.land n).loops=s.loops:=rfl
theorem zrv(x:Cx)(to u:ByteArray)(n:Int)(s:Ck):(x.readC to u n s).loops=s.loops:=rfl
theorem zd4(x:Cx)(of:ByteArray)(a:PV):Sane (x.check of a):=⟨λs=>by unfold Cx.check;dsimp only;split<;>rfl,zdw x of a⟩
theorem zmf(x:Cx)(i:Int):Sane (x.lockC i):=⟨λ_=>rfl,λs=>by simp only [Cx.lockC,Qx,Vv,Ur];omega⟩
theorem zmg(x:Cx)(i:Int):Sane (x.lookC i):=⟨λ_=>rfl,λs=>by simp only [Cx.lookC,Qx,Vv,Ur,Sr];omega⟩
theorem zh1(x:Cx)(i:Int):Sane (x.storeC i):=⟨λ_=>rfl,λs=>by simp only [Cx.storeC,Qx,Vv];omega⟩
theorem zol(x:Cx)(i:Int):Sane (x.unlockC i):=⟨λ_=>rfl,λs=>by simp only [Cx.unlockC,Qx,Vv];omega⟩
theorem zgp(x:Cx):Sane x.give:=⟨λ_=>rfl,λs=>by simp only [Cx.give,Qx,Vv,zak];omega⟩
theorem z0k(x:Cx)(of:ByteArray)(a v:PV):Sane (x.put of a v):=
 ⟨λs=>(zd4 x of a).lo s,λs=>by simp only [Cx.put,Qx];have:=zdw x of a s;omega⟩
theorem z0l(x:Cx)(a:PV):Sane (x.outC a):=
 ⟨λs=>by unfold Cx.outC;split<;>rfl,λs=>by unfold Cx.outC;split<;>simp only [Qx]<;>omega⟩
theorem z0m(x:Cx)(to of:ByteArray)(a:PV):Sane (x.get to of a):=by
 refine ⟨λs=>?_,λs=>?_⟩
 ·unfold Cx.get
  dsimp only
  split
  ·rw [zrv];exact (zd4 x of a).lo s
  ·simp only [z0j,zrv,zru];exact (zd4 x of a).lo s
 ·unfold Cx.get
  dsimp only
  have:=zdw x of a s
  split
  ·rw [zgj];omega
  ·simp only [Vv,zgj,Qx];omega
theorem zmh: ∀(ns:List Nat) (s:Ck),(s.lands ns).loops=s.loops
 |[],_=>rfl
 |n::r,s=>(zmh r (s.land n)).trans rfl
theorem zmi(x:Cx):Sane x.undoC:=
 ⟨λs=>((Um (zol x ·) s.bk.puts 0).lo _).trans (zmh _ _),λs=>Nat.le_of_lt (zhs x s)⟩
theorem zby(x:Cx):Sane x.commit:=by
 refine ⟨λs=>?_,λs=>?_⟩
 ·refine ((zmi x).lo _).trans ?_
  refine ((Um (zh1 x ·) s.bk.puts 0).lo _).trans ?_
  refine ((Um (zmg x ·) s.bk.gets 0).lo _).trans ?_
  exact (Um (zmf x ·) s.bk.puts 0).lo s
 ·simp only [Cx.commit,Vv]
  refine Nat.le_trans ?_ ((zmi x).le _)
  simp only [Qx]
  have h1:=(Um (zh1 x ·) s.bk.puts 0).le (Qn (λi=>x.lookC i) s.bk.gets 0 (((Qn (λi=>x.lockC i) s.bk.puts 0 s).add [Xf,yR5,y0,dec 12,y1]).add [Fy,yR5,yR5,y1]))
  have h2:=(Um (zmg x ·) s.bk.gets 0).le (((Qn (λi=>x.lockC i) s.bk.puts 0 s).add [Xf,yR5,y0,dec 12,y1]).add [Fy,yR5,yR5,y1])
  have h3:=(Um (zmf x ·) s.bk.puts 0).le s
  simp only [Qx] at h2
  omega
theorem zmj(x:Cx)(st:St):Sane (x.leaf st):=by
 rcases st with ⟨to,a⟩|⟨to,o,a,b⟩|⟨to,f,a⟩|⟨f,a,v⟩|a|⟨⟩|a|n
 ·exact Sane.add _
 ·exact Sane.add _
 ·exact z0m x to f a
 ·exact z0k x f a v
 ·exact z0l x a
 ·exact Sane.id
 ·exact Sane.id
 ·exact Sane.id
theorem Oo{α:Type}{f:Ck->α->Ck}(h: ∀e,Sane (λs=>f s e)): ∀(es:List α),Sane (λs=>es.foldl f s)
 |[]=>Sane.id
 |e::r=>by
  have ih:=Oo h r
  exact ⟨λs=>(ih.lo (f s e)).trans ((h e).lo s),λs=>Nat.le_trans ((h e).le s) (ih.le (f s e))⟩
theorem Yz(ws:Nat->List ByteArray)(l:List Bool)(i:Nat):Sane (Qn (λi s=>s.add (ws i)) l i):=Um (λi=>Sane.add (ws i)) l i
theorem zat(x:Cx):Sane x.begin:=by
 refine ⟨λs=>?_,λs=>?_⟩
 ·show (Qn (λi s=>s.add [Qh,y0,x.own (12+(i:Nat)),y0]) s.bk.gets 0 _).loops=_
  rw [(Yz (λi=>[Qh,y0,x.own (12+(i:Nat)),y0]) s.bk.gets 0).lo,(Yz (λi=>[Qh,y0,x.own (6+(i:Nat)),y0]) s.bk.puts 0).lo,zru,zru,(Yz (λi=>[Qw,Zy (i:Nat),y0,x.own (32+(i:Nat))]) s.bk.chgs 0).lo]
  exact (Yz (λi=>[Qh,y0,x.own (32+(i:Nat)),Zy (i:Nat)]) s.bk.chgs 0).lo s
 ·simp only [Cx.begin,Qx]
  have h1:=(Yz (λi=>[Qh,y0,x.own (32+(i:Nat)),Zy (i:Nat)]) s.bk.chgs 0).le s
  have h2:=(Yz (λi=>[Qw,Zy (i:Nat),y0,x.own (32+(i:Nat))]) s.bk.chgs 0).le {Qn (λi s=>s.add [Qh,y0,x.own (32+(i:Nat)),Zy (i:Nat)]) s.bk.chgs 0 s with blk:=some {s.bk with again:=(Qn (λi s=>s.add [Qh,y0,x.own (32+(i:Nat)),Zy (i:Nat)]) s.bk.chgs 0 s).L.length}}
  refine Nat.le_trans ?_ (Nat.le_trans ((Yz (λi=>[Qh,y0,x.own (12+(i:Nat)),y0]) s.bk.gets 0).le _) (Nat.le_succ _))
  refine Nat.le_trans ?_ ((Yz (λi=>[Qh,y0,x.own (6+(i:Nat)),y0]) s.bk.puts 0).le _)
  simp only [Qx]
  have h3:s.L.length<=(Qn (λi s=>s.add [Qw,Zy (i:Nat),y0,x.own (32+(i:Nat))]) s.bk.chgs 0 {Qn (λi s=>s.add [Qh,y0,x.own (32+(i:Nat)),Zy (i:Nat)]) s.bk.chgs 0 s with blk:=some {s.bk with again:=(Qn (λi s=>s.add [Qh,y0,x.own (32+(i:Nat)),Zy (i:Nat)]) s.bk.chgs 0 s).L.length}}).L.length:=Nat.le_trans h1 h2
  exact Nat.le_trans h3 (Nat.le_add_right _ 2)
theorem zom(x:Cx)(k:Bk)(hb:Sane body):Sane (x.atomicC k body):=by
 refine ⟨λs=>?_,λs=>?_⟩
 ·have h0:(body (x.begin {s with blk:=some k})).loops=s.loops:=(hb.lo _).trans ((zat x).lo _)
  simp only [Cx.atomicC]
  split
  ·rw [(zgp x).lo]
   split
   ·exact h0
   ·rw [(zby x).lo];exact h0
  ·split
   ·exact h0
   ·rw [(zby x).lo];exact h0
 ·have h0:s.L.length<=(body (x.begin {s with blk:=some k})).L.length:=Nat.le_trans ((zat x).le {s with blk:=some k}) (hb.le _)
  have h1:=(zby x).le (body (x.begin {s with blk:=some k}))
  have h2:=(zgp x).le (body (x.begin {s with blk:=some k}))
  have h3:=(zgp x).le (x.commit (body (x.begin {s with blk:=some k})))
  simp only [Cx.atomicC]
  split<;>split<;>omega
theorem zwh(x:Cx)(n:Int)(hb:Sane body):Sane (x.loopC n body):=by
 refine ⟨λs=>?_,λs=>?_⟩
 ·show (body _).loops- 1=s.loops
  rw [hb.lo]
  rfl
 ·have h0:=hb.le (({s with loops:=s.loops+1}:Ck).add [Qh,y0,x.own (36+(s.loops:Int)),dec n])
  rw [Qx] at h0
  simp only [Cx.loopC,Vv,zak,Qx]
  have h1:s.L.length+1<=(body (({s with loops:=s.loops+1}:Ck).add [Qh,y0,x.own (36+(s.loops:Int)),dec n])).L.length:=h0
  omega
theorem zmk(x:Cx)(k:Bk)(hb:Sane body)(st:St):Sane (x.held k body st):=by
 rcases st with ⟨to,a⟩|⟨to,o,a,b⟩|⟨to,f,a⟩|⟨f,a,v⟩|a|⟨⟩|a|n
 ·exact Sane.id
 ·exact Sane.id
 ·exact Sane.id
 ·exact Sane.id
 ·exact Sane.id
 ·exact zom x k hb
 ·refine ⟨λs=>(hb.lo _).trans rfl,λs=>?_⟩
  have:=hb.le (s.add [yJz,x.val a])
  rw [Qx] at this
  show s.L.length<=((body (s.add [yJz,x.val a])).land s.L.length).L.length
  rw [Vv]
  omega
 ·exact zwh x n hb
theorem Fq(hs:List Hd)(x:Cx): ∀(f:Nat) (e:En),Sane (cEn hs x f e)
 |0, .inl st=>zmj x st
 |0, .inr _=>Sane.id
 |f+1, .inl st=>zmj x st
 |f+1, .inr j=>by
  have hb:=λes=>Oo (f:=λs e=>cEn hs x f e s) (λe=>Fq hs x f e) es
  refine ⟨λs=>?_,λs=>?_⟩
  ·simp only [cEn]
   split
   ·exact (zmk x _ (hb _) _).lo s
   ·rfl
  ·simp only [cEn]
   split
   ·exact (zmk x _ (hb _) _).le s
   ·exact Nat.le_refl _
def Undoes(U:Nat)(f:Nat->Ck->Ck):Prop:=∀i s k,s.blk=some k->∃k',(f i s).blk=some k'/\k.sim k'/\k'.undo.length<=k.undo.length+U
theorem Undoes.each{U:Nat}(h:Undoes U f): ∀(l:List Bool) (i:Nat) (s:Ck) (k:Bk),s.blk=some k->∃k',(Qn f l i s).blk=some k'/\k.sim k'/\k'.undo.length<=k.undo.length+l.length*U
 |[],_,s,k,hk=>⟨k,hk,Bk.sim.refl k,by simp⟩
 |a::r,i,s,k,hk=>by
  simp only [Qn]
  have e:(a::r).length*U=r.length*U+U:=by rw [List.length_cons,Nat.add_mul,Nat.one_mul]
  by_cases ha:a=true
  ·obtain ⟨k1,h1,s1,u1⟩:=h i s k hk
   rw [if_pos ha]
   obtain ⟨k2,h2,s2,u2⟩:=h.each r (i+1) (f i s) k1 h1
   exact ⟨k2,h2,s1.trans s2,by omega⟩
  ·rw [if_neg ha]
   obtain ⟨k2,h2,s2,u2⟩:=h.each r (i+1) s k hk
   exact ⟨k2,h2,s2,by omega⟩
theorem zkb(x:Cx):Undoes 2 (λi=>x.lockC i):=λi s k hk=>⟨_,rfl,by simp [Bk.sim,Ck.bk,Ck.add,Ck.undoIf,hk],by simp [Ck.bk,Ck.add,Ck.undoIf,hk]⟩
theorem zkc(x:Cx):Undoes 1 (λi=>x.lookC i):=λi s k hk=>⟨_,rfl,by simp [Bk.sim,Ck.bk,Ck.add,Zu,hk],by simp [Ck.bk,Ck.add,Zu,hk]⟩
theorem zh2(x:Cx):Undoes 0 (λi=>x.storeC i):=λ_ _ k hk=>⟨k,hk,Bk.sim.refl k,Nat.le_refl _⟩
theorem zml(x:Cx)(hk:s.blk=some k)(hu:k.undo=[])(h1:k.puts.length=6)(h2:k.gets.length=6):(x.commit s).g<=s.g+186:=by
 have hb:=Sq hk
 obtain ⟨k1,hk1,s1,u1⟩:=(zkb x).each s.bk.puts 0 s k hk
 have g1:=(Id x).eachG s.bk.puts 0 s
 obtain ⟨k3,hk3,s3,u3⟩:=(zkc x).each s.bk.gets 0 (((Qn (λi=>x.lockC i) s.bk.puts 0 s).add [Xf,yR5,y0,dec 12,y1]).add [Fy,yR5,yR5,y1]) k1 hk1
 have g3:=(Ie x).eachG s.bk.gets 0 (((Qn (λi=>x.lockC i) s.bk.puts 0 s).add [Xf,yR5,y0,dec 12,y1]).add [Fy,yR5,yR5,y1])
 obtain ⟨k4,hk4,s4,u4⟩:=(zh2 x).each s.bk.puts 0 (Qn (λi=>x.lookC i) s.bk.gets 0 (((Qn (λi=>x.lockC i) s.bk.puts 0 s).add [Xf,yR5,y0,dec 12,y1]).add [Fy,yR5,yR5,y1])) k3 hk3
 have g4:=(Fm x).eachG s.bk.puts 0 (Qn (λi=>x.lookC i) s.bk.gets 0 (((Qn (λi=>x.lockC i) s.bk.puts 0 s).add [Xf,yR5,y0,dec 12,y1]).add [Fy,yR5,yR5,y1]))
 have g5:=zrb x (((Qn (λi=>x.storeC i) s.bk.puts 0 (Qn (λi=>x.lookC i) s.bk.gets 0 (((Qn (λi=>x.lockC i) s.bk.puts 0 s).add [Xf,yR5,y0,dec 12,y1]).add [Fy,yR5,yR5,y1]))).add [Yn]).add [zaa])
 have hb4:((((Qn (λi=>x.storeC i) s.bk.puts 0 (Qn (λi=>x.lookC i) s.bk.gets 0 (((Qn (λi=>x.lockC i) s.bk.puts 0 s).add [Xf,yR5,y0,dec 12,y1]).add [Fy,yR5,yR5,y1]))).add [Yn]).add [zaa])).bk=k4:=Sq hk4
 rw [hb4] at g5
 have hp4:k4.puts.length=6:=by rw [s4.2.1,s3.2.1,s1.2.1,h1]
 have hp:s.bk.puts.length=6:=by rw [hb];exact h1
 have hq:s.bk.gets.length=6:=by rw [hb];exact h2
 have hu0:k.undo.length=0:=by rw [hu];rfl
 have e:(x.commit s).g=(x.undoC (((Qn (λi=>x.storeC i) s.bk.puts 0 (Qn (λi=>x.lookC i) s.bk.gets 0 (((Qn (λi=>x.lockC i) s.bk.puts 0 s).add [Xf,yR5,y0,dec 12,y1]).add [Fy,yR5,yR5,y1]))).add [Yn]).add [zaa])).g+1:=rfl
 rw [e]
 have a2:(((Qn (λi=>x.lockC i) s.bk.puts 0 s).add [Xf,yR5,y0,dec 12,y1]).add [Fy,yR5,yR5,y1]).g=(Qn (λi=>x.lockC i) s.bk.puts 0 s).g+2:=rfl
 have a4:(((Qn (λi=>x.storeC i) s.bk.puts 0 (Qn (λi=>x.lookC i) s.bk.gets 0 (((Qn (λi=>x.lockC i) s.bk.puts 0 s).add [Xf,yR5,y0,dec 12,y1]).add [Fy,yR5,yR5,y1]))).add [Yn]).add [zaa]).g=(Qn (λi=>x.storeC i) s.bk.puts 0 (Qn (λi=>x.lookC i) s.bk.gets 0 (((Qn (λi=>x.lockC i) s.bk.puts 0 s).add [Xf,yR5,y0,dec 12,y1]).add [Fy,yR5,yR5,y1]))).g+2:=rfl
 rw [a4] at g5
 rw [a2] at g3
 rw [hp] at g1 u1 g4 u4
 rw [hq] at g3 u3
 rw [hp4] at g5
 omega
def Cx.varOk(x:Cx)(u:ByteArray):Prop:=u.size<=maxLen/\ ∃(f:Nat) (n:Nat),x.var u=((f:Int),(n:Int))/\f<6/\f+n<=6
def Cx.leafOk(x:Cx)(b:Bool):St->Prop
 | .inl (to,a)=>to.size<=maxLen/\a.ok
 | .inr (.inl (to,o,a,c))=>to.size<=maxLen/\o<12/\a.ok/\c.ok
 | .inr (.inr (.inl (to,of,a)))=>b=true/\to.size<=maxLen/\x.varOk of/\a.ok
 | .inr (.inr (.inr (.inl (of,a,v))))=>b=true/\x.varOk of/\a.ok/\v.ok
 | .inr (.inr (.inr (.inr (.inl a))))=>a.ok
 |_=>False
def enW(hs:List Hd)(x:Cx):Nat->Bool->En->Prop
 |_,b, .inl st=>x.leafOk b st
 |0,_, .inr _=>False
 |f+1,b, .inr j=>∃es:List En,es.length<=14/\
   ((hs[j]?=some ⟨.st .atomic,es⟩/\b=false/\ ∀e∈es,enW hs x f true e)\/
    (∃a:PV,hs[j]?=some ⟨.st (.iff a),es⟩/\a.ok/\ ∀e∈es,enW hs x f b e)\/
    (∃n:Int,hs[j]?=some ⟨.st (.loop n),es⟩/\(1<=n/\n<=4)/\ ∀e∈es,enW hs x f b e))
theorem zmm(x:Cx)(st:St)(s:Ck):(x.leaf st s).blk=s.blk:=by
 rcases st with ⟨to,a⟩|⟨to,o,a,b⟩|⟨to,f,a⟩|⟨f,a,v⟩|a|⟨⟩|a|n
 ·rfl
 ·rfl
 ·show (x.get to f a s).blk=_
  unfold Cx.get
  dsimp only
  have hr: ∀t u n (s:Ck),(x.readC t u n s).blk=s.blk:=λ_ _ _ _=>rfl
  have ha: ∀(s:Ck) ws,(s.add ws).blk=s.blk:=λ_ _=>rfl
  have hl: ∀(s:Ck) n,(s.land n).blk=s.blk:=λ_ _=>rfl
  split
  ·rw [hr];exact Ib x f a s
  ·simp only [hl,hr,ha];exact Ib x f a s
 ·exact Ib x f a s
 ·show (x.outC a s).blk=_
  unfold Cx.outC
  split<;>rfl
 ·rfl
 ·rfl
 ·rfl
theorem Oq{f:Ck->En->Ck}: ∀(es:List En) (s:Ck),(∀e∈es,∀s,(f s e).blk=s.blk)->(es.foldl f s).blk=s.blk
 |[],_,_=>rfl
 |e::r,s,h=>(Oq r (f s e) (λe' he=>h e' (List.mem_cons_of_mem _ he))).trans (h e yaj s)
theorem zwi(x:Cx)(n:Int)(body:Ck->Ck)(h: ∀s,(body s).blk=s.blk)(s:Ck):(x.loopC n body s).blk=s.blk:=by
 show (body _).blk=_
 rw [h]
 rfl
theorem Xh(hs:List Hd)(x:Cx): ∀(f:Nat) (b:Bool) (e:En),enW hs x f b e->∀s:Ck,(b=false->s.blk=none)->(cEn hs x f e s).blk=s.blk
 |0,_, .inl st,_,s,_=>zmm x st s
 |0,_, .inr _,h,_,_=>h.elim
 |f+1,_, .inl st,_,s,_=>zmm x st s
 |f+1,true, .inr j,h,s,_=>by
  obtain ⟨es,_,h⟩:=h
  rcases h with ⟨_,hb,_⟩|⟨a,hj,_,he⟩|⟨n,hj,_,he⟩
  ·cases hb
  ·have hf:=λs'=>Oq (f:=λs e=>cEn hs x f e s) es s' (λe he' s=>Xh hs x f true e (he e he') s (λq=>by cases q))
   simp only [cEn,hj]
   show ((es.foldl (λs e=>cEn hs x f e s) (s.add [yJz,x.val a])).land s.L.length).blk=_
   exact (hf _).trans rfl
  ·have hf:=λs'=>Oq (f:=λs e=>cEn hs x f e s) es s' (λe he' s=>Xh hs x f true e (he e he') s (λq=>by cases q))
   simp only [cEn,hj]
   exact zwi x n _ hf s
 |f+1,false, .inr j,h,s,hn=>by
  have h0:=hn rfl
  obtain ⟨es,_,h⟩:=h
  have hfold: ∀(l:List En) (s':Ck),(∀e∈l,enW hs x f false e)->s'.blk=none->(l.foldl (λs e=>cEn hs x f e s) s').blk=none:=by
   intro l
   induction l with
   |nil=>exact λ_ _ h=>h
   |cons e r ih=>exact λs' hl hb=>ih _ (λe' he'=>hl e' (List.mem_cons_of_mem _ he')) ((Xh hs x f false e (hl e yaj) s' (λ_=>hb)).trans hb)
  rw [h0]
  rcases h with ⟨hj,_,_⟩|⟨a,hj,_,he⟩|⟨n,hj,_,he⟩
  ·simp only [cEn,hj]
   rfl
  ·simp only [cEn,hj]
   exact hfold es (s.add [yJz,x.val a]) he h0
  ·simp only [cEn,hj]
   exact hfold es _ he h0
def wE(hs:List Hd):Nat->En->Nat
 |0,_=>1
 |f+1,e=>1+((Jb hs e).map (wE hs f)).sum
structure Bk.New(k:Bk):Prop where
 g:k.gets.length=6
 p:k.puts.length=6
 c:k.chgs.length=4
 u:k.undo=[]
theorem zct(v:Int): ∀(is:List Nat) (l:List Bool),(is.foldl (λl i=>l.set (v.toNat+i) true) l).length=l.length
 |[],_=>rfl
 |i::r,l=>by simp only [List.foldl_cons];rw [zct v r];simp
theorem zh3(l:List Bool)(v:Int×Int):(zvh l v).length=l.length:=zct v.1 _ l
theorem zwj(x:Cx)(h:k.New)(e:En):(x.seen k e).New:=by
 rcases e with st|j
 ·rcases st with ⟨to,a⟩|⟨to,o,a,b⟩|⟨to,f,a⟩|⟨f,a,v⟩|a|⟨⟩|a|n
  ·exact ⟨h.g,h.p,(List.length_set ..).trans h.c,h.u⟩
  ·exact ⟨h.g,h.p,(List.length_set ..).trans h.c,h.u⟩
  ·exact ⟨(zh3 _ _).trans h.g,h.p,(List.length_set ..).trans h.c,h.u⟩
  ·exact ⟨h.g,(zh3 _ _).trans h.p,h.c,h.u⟩
  ·exact ⟨h.g,h.p,h.c,h.u⟩
  ·exact h
  ·exact h
  ·exact h
 ·exact h
theorem zgq(x:Cx): ∀(es:List En) (k:Bk),k.New->(es.foldl x.seen k).New
 |[],_,h=>h
 |e::r,k,h=>zgq x r (x.seen k e) (zwj x h e)
theorem zkd:bk0.New:=⟨rfl,rfl,rfl,rfl⟩
theorem zrw(x:Cx)(hk:s.blk=some k)(h:k.New):(x.begin s).g<=s.g+23:=by
 have hb:=Sq hk
 have g1:=(Ye λi=>[Qh,y0,x.own (32+(i:Nat)),Zy (i:Nat)]).eachG s.bk.chgs 0 s
 have g2:=(Ye λi=>[Qw,Zy (i:Nat),y0,x.own (32+(i:Nat))]).eachG s.bk.chgs 0 {Qn (λi s=>s.add [Qh,y0,x.own (32+(i:Nat)),Zy (i:Nat)]) s.bk.chgs 0 s with blk:=some {s.bk with again:=(Qn (λi s=>s.add [Qh,y0,x.own (32+(i:Nat)),Zy (i:Nat)]) s.bk.chgs 0 s).L.length}}
 have g3:=(Ye λi=>[Qh,y0,x.own (6+(i:Nat)),y0]).eachG s.bk.puts 0 (((Qn (λi s=>s.add [Qw,Zy (i:Nat),y0,x.own (32+(i:Nat))]) s.bk.chgs 0 {Qn (λi s=>s.add [Qh,y0,x.own (32+(i:Nat)),Zy (i:Nat)]) s.bk.chgs 0 s with blk:=some {s.bk with again:=(Qn (λi s=>s.add [Qh,y0,x.own (32+(i:Nat)),Zy (i:Nat)]) s.bk.chgs 0 s).L.length}}).add [Qw,yR6,y0,dec 12]).add [Fy,yR6,yR6,y1])
 have g4:=(Ye λi=>[Qh,y0,x.own (12+(i:Nat)),y0]).eachG s.bk.gets 0 (Qn (λi s=>s.add [Qh,y0,x.own (6+(i:Nat)),y0]) s.bk.puts 0 (((Qn (λi s=>s.add [Qw,Zy (i:Nat),y0,x.own (32+(i:Nat))]) s.bk.chgs 0 {Qn (λi s=>s.add [Qh,y0,x.own (32+(i:Nat)),Zy (i:Nat)]) s.bk.chgs 0 s with blk:=some {s.bk with again:=(Qn (λi s=>s.add [Qh,y0,x.own (32+(i:Nat)),Zy (i:Nat)]) s.bk.chgs 0 s).L.length}}).add [Qw,yR6,y0,dec 12]).add [Fy,yR6,yR6,y1]))
 have e:(x.begin s).g=(Qn (λi s=>s.add [Qh,y0,x.own (12+(i:Nat)),y0]) s.bk.gets 0 (Qn (λi s=>s.add [Qh,y0,x.own (6+(i:Nat)),y0]) s.bk.puts 0 (((Qn (λi s=>s.add [Qw,Zy (i:Nat),y0,x.own (32+(i:Nat))]) s.bk.chgs 0 {Qn (λi s=>s.add [Qh,y0,x.own (32+(i:Nat)),Zy (i:Nat)]) s.bk.chgs 0 s with blk:=some {s.bk with again:=(Qn (λi s=>s.add [Qh,y0,x.own (32+(i:Nat)),Zy (i:Nat)]) s.bk.chgs 0 s).L.length}}).add [Qw,yR6,y0,dec 12]).add [Fy,yR6,yR6,y1]))).g+1:=rfl
 have h1:s.bk.chgs.length=4:=by rw [hb];exact h.c
 have h2:s.bk.puts.length=6:=by rw [hb];exact h.p
 have h3:s.bk.gets.length=6:=by rw [hb];exact h.g
 rw [h1] at g1 g2
 rw [h2] at g3
 rw [h3] at g4
 rw [e]
 dsimp only at g2
 have a3: ∀(t:Ck) u v,((t.add u).add v).g=t.g+2:=λ_ _ _=>rfl
 rw [a3] at g3
 exact Nat.le_trans (Nat.add_le_add_right (Nat.le_trans g4 (Nat.add_le_add_right (Nat.le_trans g3 (Nat.add_le_add_right (Nat.add_le_add_right (Nat.le_trans g2 (Nat.add_le_add_right g1 _)) _) _)) _)) 1) yai
theorem zyu(x:Cx)(st:St)(s:Ck):(x.leaf st s).g<=s.g+40:=by
 rcases st with ⟨to,a⟩|⟨to,o,a,b⟩|⟨to,f,a⟩|⟨f,a,v⟩|a|⟨⟩|a|n
 ·show s.g+1<=_;omega
 ·show s.g+1<=_;omega
 ·show (x.get to f a s).g<=_
  have hc:=zdv x f a s
  have hr: ∀t u n (s:Ck),(x.readC t u n s).g=s.g+9:=λ_ _ _ _=>rfl
  have ha: ∀(s:Ck) ws,(s.add ws).g=s.g+1:=λ_ _=>rfl
  have hl: ∀(s:Ck) n,(s.land n).g=s.g+1:=λ_ _=>rfl
  unfold Cx.get
  dsimp only
  split
  ·rw [hr];omega
  ·simp only [hl,hr,ha];omega
 ·have hc:=zdv x f a s
  show (x.check f a s).g+3<=_
  omega
 ·show (x.outC a s).g<=_
  unfold Cx.outC
  split
  ·show s.g+1<=_;omega
  ·show s.g+2<=_;omega
 ·show s.g<=_;omega
 ·show s.g<=_;omega
 ·show s.g<=_;omega
theorem zh4(x:Cx)(hk:s.blk=some k): ∃n,(x.begin s).blk=some {k with again:=n}/\n<=(x.begin s).L.length:=by
 refine ⟨(Qn (λi s=>s.add [Qh,y0,x.own (32+(i:Nat)),Zy (i:Nat)]) s.bk.chgs 0 s).L.length,?_,?_⟩
 ·exact z73
 ·have h2:=(Yz (λi=>[Qw,Zy (i:Nat),y0,x.own (32+(i:Nat))]) s.bk.chgs 0).le {Qn (λi s=>s.add [Qh,y0,x.own (32+(i:Nat)),Zy (i:Nat)]) s.bk.chgs 0 s with blk:=some {s.bk with again:=(Qn (λi s=>s.add [Qh,y0,x.own (32+(i:Nat)),Zy (i:Nat)]) s.bk.chgs 0 s).L.length}}
  simp only [Cx.begin,Qx]
  refine Nat.le_trans ?_ (Nat.le_succ _)
  refine Nat.le_trans ?_ ((Yz (λi=>[Qh,y0,x.own (12+(i:Nat)),y0]) s.bk.gets 0).le _)
  refine Nat.le_trans ?_ ((Yz (λi=>[Qh,y0,x.own (6+(i:Nat)),y0]) s.bk.puts 0).le _)
  simp only [Qx]
  exact Nat.le_trans h2 (Nat.le_add_right _ 2)
theorem zke{f:Ck->En->Ck}{c:En->Nat}{I:Ck->Prop}: ∀(es:List En) (s:Ck),(∀e∈es,∀s,I s->(f s e).g<=s.g+c e/\I (f s e))->I s->(es.foldl f s).g<=s.g+(es.map c).sum
 |[],_,_,_=>by simp
 |e::r,s,h,hI=>by
  obtain ⟨h1,h2⟩:=h e yaj s hI
  have:=zke r (f s e) (λe' he=>h e' (List.mem_cons_of_mem _ he)) h2
  simp only [List.foldl_cons,List.map_cons,List.sum_cons]
  omega
theorem Is(l:List En)(c:En->Nat)(n:Nat):(l.map λe=>n*c e).sum=n*(l.map c).sum:=by
 induction l with
 |nil=>rfl
 |cons a r ih=>simp only [List.map_cons,List.sum_cons,ih,Nat.mul_add]
theorem zwk(x:Cx)(hk:k.New){N:Nat}(s:Ck)(hb: ∀s:Ck,(∃k,s.blk=some k)->(body s).g<=s.g+N)(hB: ∀s:Ck,(body s).blk=s.blk):(x.atomicC k body s).g<=s.g+N+217:=by
 have h1:(x.begin {s with blk:=some k}).g<=s.g+23:=zrw x (s:={s with blk:=some k}) rfl hk
 obtain ⟨n,h2,_⟩:=zh4 x (s:={s with blk:=some k}) rfl
 have h3:=hb (x.begin {s with blk:=some k}) ⟨_,h2⟩
 have h4:=(hB (x.begin {s with blk:=some k})).trans h2
 have h5:=zml x h4 hk.u hk.p hk.g
 have hg: ∀s:Ck,(x.give s).g=s.g+8:=λ_=>rfl
 simp only [Cx.atomicC]
 split
 ·rw [hg]
  split<;>omega
 ·split<;>omega
theorem zrx(hs:List Hd)(x:Cx): ∀(f:Nat) (b:Bool) (e:En),enW hs x f b e->∀s:Ck,(b=false->s.blk=none)->(cEn hs x f e s).g<=s.g+300*wE hs f e
 |0,_, .inl st,_,s,_=>by
  have:=zyu x st s
  show (x.leaf st s).g<=s.g+300*1
  omega
 |0,_, .inr _,h,_,_=>h.elim
 |f+1,_, .inl st,_,s,_=>by
  have:=zyu x st s
  show (x.leaf st s).g<=s.g+300*(1+_)
  omega
 |f+1,b, .inr j,h,s,hn=>by
  obtain ⟨es,_,h⟩:=h
  have hw: ∀k,hs[j]?=some ⟨k,es⟩->300*wE hs (f+1) (.inr j)=300+300*(es.map (wE hs f)).sum:=λk hj=>by
   simp only [wE,Jb,hj,Nat.mul_add]
  rcases h with ⟨hj,hb,he⟩|⟨a,hj,_,he⟩|⟨n,hj,_,he⟩
  ·have hbody: ∀s:Ck,(∃k,s.blk=some k)->(es.foldl (λs e=>cEn hs x f e s) s).g<=s.g+(es.map λe=>300*wE hs f e).sum:=λs' hk=>
    zke (I:=λ_=>True) es s' (λe he' s _=>⟨zrx hs x f true e (he e he') s (λq=>by cases q),trivial⟩) trivial
   have hblk: ∀s:Ck,(es.foldl (λs e=>cEn hs x f e s) s).blk=s.blk:=λs'=>Oq (f:=λs e=>cEn hs x f e s) es s' (λe he' s=>Xh hs x f true e (he e he') s (λq=>by cases q))
   have:=zwk x (zgq x (Jf hs 3 es) bk0 zkd) s hbody hblk
   rw [hw _ hj]
   rw [Is] at this
   have e2:cEn hs x (f+1) (.inr j) s=x.atomicC ((Jf hs 3 es).foldl x.seen bk0) (λs=>es.foldl (λs e=>cEn hs x f e s) s) s:=by
    simp only [cEn,hj]
    rfl
   rw [e2]
   generalize x.atomicC ((Jf hs 3 es).foldl x.seen bk0) (λs=>es.foldl (λs e=>cEn hs x f e s) s) s=A at*
   omega
  ·have hbody:=zke (f:=λs e=>cEn hs x f e s) (c:=λe=>300*wE hs f e) (I:=λs=>b=false->s.blk=none) es (s.add [yJz,x.val a]) (λe he' s hI=>⟨zrx hs x f b e (he e he') s hI,λhb=>(Xh hs x f b e (he e he') s hI).trans (hI hb)⟩) hn
   rw [hw _ hj]
   rw [Is] at hbody
   have e2:(cEn hs x (f+1) (.inr j) s).g=(es.foldl (λs e=>cEn hs x f e s) (s.add [yJz,x.val a])).g+1:=by
    simp only [cEn,hj]
    rfl
   rw [e2]
   have e1:(s.add [yJz,x.val a]).g=s.g+1:=rfl
   rw [e1] at hbody
   generalize (es.foldl (λs e=>cEn hs x f e s) (s.add [yJz,x.val a])).g=A at*
   omega
  ·have hbody:=zke (f:=λs e=>cEn hs x f e s) (c:=λe=>300*wE hs f e) (I:=λs=>b=false->s.blk=none) es (({s with loops:=s.loops+1}:Ck).add [Qh,y0,x.own (36+(s.loops:Int)),dec n]) (λe he' s hI=>⟨zrx hs x f b e (he e he') s hI,λhb=>(Xh hs x f b e (he e he') s hI).trans (hI hb)⟩) hn
   rw [hw _ hj]
   rw [Is] at hbody
   have e2:(cEn hs x (f+1) (.inr j) s).g=(es.foldl (λs e=>cEn hs x f e s) (({s with loops:=s.loops+1}:Ck).add [Qh,y0,x.own (36+(s.loops:Int)),dec n])).g+6:=by
    simp only [cEn,hj]
    rfl
   rw [e2]
   have e1:(({s with loops:=s.loops+1}:Ck).add [Qh,y0,x.own (36+(s.loops:Int)),dec n]).g=s.g+1:=rfl
   rw [e1] at hbody
   generalize (es.foldl (λs e=>cEn hs x f e s) (({s with loops:=s.loops+1}:Ck).add [Qh,y0,x.own (36+(s.loops:Int)),dec n])).g=A at*
   omega
section
variable{W w w':World}{x:Cx}{K:List (Nat×Nat×Value)}{c:Nat}{s:Ck}{ids:Ids}{rv:Value}{hs:List Hd}{ms:List HM}
theorem zgr{step:En->Ck->Ck}{inv:Ck->Prop}{cost:En->Nat}: ∀(es:List En) (s:Ck),(∀e∈es,∀s,inv s->inv (step e s)/\(step e s).g<=s.g+cost e)->inv s->inv (es.foldl (λs e=>step e s) s)/\(es.foldl (λs e=>step e s) s).g<=s.g+(es.map cost).sum
 |[],_,_,hI=>⟨hI,by simp⟩
 |e::r,s,h,hI=>by
  obtain ⟨h1,h2⟩:=h e yaj s hI
  obtain ⟨h3,h4⟩:=zgr r (step e s) (λe' he=>h e' (List.mem_cons_of_mem _ he)) h1
  simp only [List.foldl_cons,List.map_cons,List.sum_cons]
  exact ⟨h3,by omega⟩
theorem zmn{es:List En}(hrow:W.ownsRow 0 162 1 rv es.length (es.map (enV ids)))(hn:es.length<=14)(step:En->Ck->Ck)(inv:Ck->Prop)(cost:En->Nat)
  (hst: ∀e∈es,∀K w s,Cw W x K w c s->inv s->s.g+cost e+1000<1000000->Cl 66 #[ptr c,enV ids e] w λr w'=>r= .returned (.tuple #[])/\Cw W x K w' c (step e s))
  (hinv: ∀e∈es,∀s,inv s->inv (step e s)/\(step e s).g<=s.g+cost e) (h:Cw W x K w c s) (hi:inv s) (hG:s.g+(es.map cost).sum+1000<1000000):
  Cl 32 #[ptr c,rv] w λr w'=>r= .returned (.tuple #[])/\Cw W x K w' c (es.foldl (λs e=>step e s) s):=by
 have key:=z0a (c:=c) (w:=w) hrow yai (λk w=>Cw W x K w c ((es.take k).foldl (λs e=>step e s) s)) (hid λ_ _ h=>h.low) (hid λk wr hk hJ=>by
  have hmem:es[k]∈es:=List.getElem_mem hk
  obtain ⟨h1,h2⟩:=zgr (step:=step) (inv:=inv) (cost:=cost) (es.take k) s (λe he=>hinv e (List.mem_of_mem_take he)) hi
  have hsum:((es.take k).map cost).sum+cost es[k]<=(es.map cost).sum:=by
   have e1:es=es.take k++es[k]::es.drop (k+1):=by rw [<-List.drop_eq_getElem_cons hk,List.take_append_drop]
   have e2:(es.map cost).sum=((es.take k++es[k]::es.drop (k+1)).map cost).sum:=by rw [<-e1]
   rw [e2]
   simp only [List.map_append,List.map_cons,List.sum_append,List.sum_cons]
   omega
  refine (hst es[k] hmem K wr _ hJ h1 yai).mono ?_
  rintro r w' ⟨hr,hw⟩
  refine ⟨hr,?_⟩
  show Cw W x K w' c ((es.take (k+1)).foldl (λs e=>step e s) s)
  rw [List.take_add_one,List.getElem?_eq_getElem hk,List.foldl_append]
  exact hw) (hid h)
 rw [List.take_length] at key
 exact key
def z3g(W:World)(x:Cx)(c:Nat)(hs:List Hd)(ms:List HM):Prop:=∀K w s j es (hl:j<ms.length),Cw W x K w c s->hs[j]?=some ⟨.st .atomic,es⟩->es.length<=14->(∃f,f<=2/\ ∀e∈es,enW hs x f true e) ->
 Cl 124 #[ptr c,ptr ms[j].b] w λe w'=>∃b,e= .returned (ptr b)/\w.heap.size<=b/\NewBk w' b ((Jf hs 3 es).foldl x.seen bk0)/\Below w.heap.size w w'
def inB(b:Bool)(s:Ck):Prop:=(b=false->s.blk=none)/\(b=true->∃k,s.blk=some k/\k.again<100000000/\k.puts.length=6)
theorem Eh{s':Ck}(h:inB b s)(e:s'.blk=s.blk):inB b s':=⟨λq=>e.trans (h.1 q),λq=>by obtain ⟨k,hk,r⟩:=h.2 q;exact ⟨k,e.trans hk,r⟩⟩
theorem zyv(hE:Env W)(h:Cw W x K w c s){st:St}(hl:x.leafOk b st)(hb:inB b s)(hG:s.g+300<1000000):
  Cl 66 #[ptr c,stV st] w λr w'=>r= .returned (.tuple #[])/\Cw W x K w' c (x.leaf st s):=by
 rcases st with ⟨to,a⟩|⟨to,o,a,d⟩|⟨to,f,a⟩|⟨f,a,v⟩|a|⟨⟩|a|n
 ·exact zvw h hl.1 hl.2 hG
 ·exact zz9 h hE hl.1 hl.2.1 hl.2.2.1 hl.2.2.2 hG
 ·obtain ⟨h1,h2,⟨h3,i,n,h4,h5,h6⟩,h7⟩:=hl
  obtain ⟨k,hk,hA,hp⟩:=hb.2 h1
  have hi:i<k.puts.length:=yai
  cases hpi:k.puts[i] with
  |false=>exact zq9 h hk hA h2 h3 h7 h4 h5 ⟨by omega,by omega⟩ (by rw [List.getElem?_eq_getElem hi,hpi]) hG
  |true=>exact zra h hk hA h2 h3 h7 h4 h5 ⟨by omega,by omega⟩ (by rw [List.getElem?_eq_getElem hi,hpi]) hG
 ·obtain ⟨h1,⟨h3,i,n,h4,h5,h6⟩,h7,h8⟩:=hl
  exact zvx h h3 h7 h8 (by rw [h4];exact ⟨by simp,by simp;omega,by simp,by simp;omega⟩) hG
 ·cases hbb:b with
  |false=>exact zq8 h (hb.1 hbb) hl hG
  |true=>
   obtain ⟨k,hk,_⟩:=hb.2 hbb
   exact zq7 h hk hl hG
 ·exact hl.elim
 ·exact hl.elim
 ·exact hl.elim
end
theorem zh5(ws:Nat->List ByteArray): ∀(l:List Bool) (i:Nat) (s:Ck),(Qn (λi s=>s.add (ws i)) l i s).L.length<=s.L.length+l.length
 |[],_,s=>by simp [Qn]
 |a::r,i,s=>by
  simp only [Qn,List.length_cons]
  have:=zh5 ws r (i+1) (if a=true then s.add (ws i) else s)
  by_cases ha:a=true
  ·rw [if_pos ha] at this⊢;rw [Qx] at this;omega
  ·rw [if_neg ha] at this⊢;omega
theorem zkf(x:Cx)(hk:s.blk=some k): ∃n,(x.begin s).blk=some {k with again:=n}/\n<=s.L.length+k.chgs.length:=by
 refine ⟨(Qn (λi s=>s.add [Qh,y0,x.own (32+(i:Nat)),Zy (i:Nat)]) s.bk.chgs 0 s).L.length,?_,?_⟩
 ·exact z73
 ·have:=zh5 (λi=>[Qh,y0,x.own (32+(i:Nat)),Zy (i:Nat)]) s.bk.chgs 0 s
  rw [Sq hk] at this⊢
  exact this
section
variable{W:World}{x:Cx}{c:Nat}{hs:List Hd}{ms:List HM}
theorem z4h(hE:Env W)(hA:Ar hs ms W)(KN:z3g W x c hs ms): ∀(f:Nat),f<=3->∀(b:Bool) (e:En),enW hs x f b e->∀K w s,Cw W x K w c s->inB b s->s.loops+f<=10->s.g+300*wE hs f e+1000<1000000 ->
  Cl 66 #[ptr c,enV (Qu ms) e] w λr w'=>r= .returned (.tuple #[])/\Cw W x K w' c (cEn hs x f e s)
 |0,_,_, .inl _,he,K,w,s,h,hb,_,hG=>zyv hE h he hb (by simp only [wE] at hG;omega)
 |0,_,_, .inr _,he,_,_,_,_,_,_,_=>he.elim
 |f+1,_,_, .inl _,he,K,w,s,h,hb,_,hG=>zyv hE h he hb (by simp only [wE] at hG;omega)
 |f+1,hf,b, .inr j,he,K,w,s,h,hb,hlo,hG=>by
  obtain ⟨es,h14,he⟩:=he
  have hw: ∀k,hs[j]?=some ⟨k,es⟩->300*wE hs (f+1) (.inr j)=300+300*(es.map (wE hs f)).sum:=λk hj=>by
   simp only [wE,Jb,hj,Nat.mul_add]
  have hsum:=Is es (wE hs f) 300
  have hLg:=h.ok.l
  rcases he with ⟨hj,hbf,he⟩|⟨a,hj,ha,he⟩|⟨n,hj,hn,he⟩
  ·obtain ⟨hl,e1,e2⟩:=Eg hA hj
   have hd:=hA.hd j hl
   have hrow:=hd.row
   rw [e1] at hrow
   rw [hw _ hj] at hG
   have hkn:=zgq x (Jf hs 3 es) bk0 zkd
   have hblk: ∀s:Ck,(es.foldl (λs e=>cEn hs x f e s) s).blk=s.blk:=λs'=>Oq (f:=λs e=>cEn hs x f e s) es s' (λe he' s=>Xh hs x f true e (he e he') s (λq=>by cases q))
   have h1:=zrw x (s:={s with blk:=some ((Jf hs 3 es).foldl x.seen bk0)}) rfl hkn
   obtain ⟨n,h2,h3⟩:=zkf x (s:={s with blk:=some ((Jf hs 3 es).foldl x.seen bk0)}) rfl
   rw [hkn.c] at h3
   have hbody:=zke (f:=λs e=>cEn hs x f e s) (c:=λe=>300*wE hs f e) (I:=λ_=>True) es (x.begin {s with blk:=some ((Jf hs 3 es).foldl x.seen bk0)}) (λe he' s _=>⟨zrx hs x f true e (he e he') s (λq=>by cases q),trivial⟩) trivial
   rw [hsum] at hbody
   have hb2:=(hblk (x.begin {s with blk:=some ((Jf hs 3 es).foldl x.seen bk0)})).trans h2
   have hcg:=zml x hb2 hkn.u hkn.p hkn.g
   have hlob:=(zat x).lo {s with blk:=some ((Jf hs 3 es).foldl x.seen bk0)}
   have hst:cEn hs x (f+1) (.inr j) s=x.atomicC ((Jf hs 3 es).foldl x.seen bk0) (λs=>es.foldl (λs e=>cEn hs x f e s) s) s:=by
    simp only [cEn,hj]
    rfl
   rw [e2,hst]
   have hg0:({s with blk:=some ((Jf hs 3 es).foldl x.seen bk0)}:Ck).g=s.g:=rfl
   have hL0:({s with blk:=some ((Jf hs 3 es).foldl x.seen bk0)}:Ck).L=s.L:=rfl
   have hlo0:({s with blk:=some ((Jf hs 3 es).foldl x.seen bk0)}:Ck).loops=s.loops:=rfl
   rw [hg0] at h1
   rw [hL0] at h3
   rw [hlo0] at hlob
   refine zj4 (hid (zvz h (rv:=ms[j].rv) hd.rc (hid λw hw=>KN K w s j es hl hw hj h14 ⟨f,by omega,he⟩) (λs=>es.foldl (λs e=>cEn hs x f e s) s) (hid λw hw=>?_) hb2 ⟨rfl,rfl⟩ (by show n<_;omega) yai yai yai))
   refine zmn hrow h14 (λe s=>cEn hs x f e s) (λs=>inB true s/\s.loops+f<=10) (λe=>300*wE hs f e) (λe he' K w s h hi hG=>z4h hE hA KN f yai true e (he e he') K w s h hi.1 hi.2 hG) (λe he' s hi=>⟨⟨Eh hi.1 (Xh hs x f true e (he e he') s (λq=>by cases q)),by rw [(Fq hs x f e).lo];exact hi.2⟩,zrx hs x f true e (he e he') s (λq=>by cases q)⟩) hw ⟨⟨(λq=>by cases q),λ_=>⟨_,h2,by show n<_;omega,hkn.p⟩⟩,by omega⟩ (by rw [hsum];omega)
  ·obtain ⟨hl,e1,e2⟩:=Eg hA hj
   have hd:=hA.hd j hl
   have hrow:=hd.row
   have hkk:=hd.kind
   rw [e1] at hrow hkk
   rw [hw _ hj] at hG
   have hI0:inB b (s.add [yJz,x.val a]):=Eh hb rfl
   have hbody:=zke (f:=λs e=>cEn hs x f e s) (c:=λe=>300*wE hs f e) (I:=λs=>inB b s) es (s.add [yJz,x.val a]) (λe he' s hI=>⟨zrx hs x f b e (he e he') s hI.1,Eh hI (Xh hs x f b e (he e he') s hI.1)⟩) hI0
   rw [hsum] at hbody
   have hle:=(Oo (f:=λs e=>cEn hs x f e s) (λe=>Fq hs x f e) es).le (s.add [yJz,x.val a])
   have hst:cEn hs x (f+1) (.inr j) s=(es.foldl (λs e=>cEn hs x f e s) (s.add [yJz,x.val a])).land s.L.length:=by
    simp only [cEn,hj]
    rfl
   have hg0:(s.add [yJz,x.val a]).g=s.g+1:=rfl
   rw [hg0] at hbody
   rw [e2,hst]
   refine z0b h ha hd.rc hkk.1 hkk.2 (λs=>es.foldl (λs e=>cEn hs x f e s) s) (hid λK w hw=>?_) hle yai yai
   refine zmn hrow h14 (λe s=>cEn hs x f e s) (λs=>inB b s/\s.loops+f<=10) (λe=>300*wE hs f e) (λe he' K w s h hi hG=>z4h hE hA KN f yai b e (he e he') K w s h hi.1 hi.2 hG) (λe he' s hi=>⟨⟨Eh hi.1 (Xh hs x f b e (he e he') s hi.1.1),by rw [(Fq hs x f e).lo];exact hi.2⟩,zrx hs x f b e (he e he') s hi.1.1⟩) hw ⟨hI0,by show s.loops+f<=10;omega⟩ (by rw [hsum,hg0];omega)
  ·obtain ⟨hl,e1,e2⟩:=Eg hA hj
   have hd:=hA.hd j hl
   have hrow:=hd.row
   have hkk:=hd.kind
   rw [e1] at hrow hkk
   rw [hw _ hj] at hG
   have hI0:inB b (({s with loops:=s.loops+1}:Ck).add [Qh,y0,x.own (36+(s.loops:Int)),dec n]):=Eh hb rfl
   have hbody:=zke (f:=λs e=>cEn hs x f e s) (c:=λe=>300*wE hs f e) (I:=λs=>inB b s) es (({s with loops:=s.loops+1}:Ck).add [Qh,y0,x.own (36+(s.loops:Int)),dec n]) (λe he' s hI=>⟨zrx hs x f b e (he e he') s hI.1,Eh hI (Xh hs x f b e (he e he') s hI.1)⟩) hI0
   rw [hsum] at hbody
   have hle:=(Oo (f:=λs e=>cEn hs x f e s) (λe=>Fq hs x f e) es).le (({s with loops:=s.loops+1}:Ck).add [Qh,y0,x.own (36+(s.loops:Int)),dec n])
   rw [Qx] at hle
   have hlp:=(Oo (f:=λs e=>cEn hs x f e s) (λe=>Fq hs x f e) es).lo (({s with loops:=s.loops+1}:Ck).add [Qh,y0,x.own (36+(s.loops:Int)),dec n])
   have hst:cEn hs x (f+1) (.inr j) s=x.loopC n (λs=>es.foldl (λs e=>cEn hs x f e s) s) s:=by
    simp only [cEn,hj]
    rfl
   have hg0:(({s with loops:=s.loops+1}:Ck).add [Qh,y0,x.own (36+(s.loops:Int)),dec n]).g=s.g+1:=rfl
   rw [hg0] at hbody
   rw [e2,hst]
   refine zrd (hid (z24 h (rv:=ms[j].rv) ⟨by omega,by omega⟩ hd.rc hkk yai (λs=>es.foldl (λs e=>cEn hs x f e s) s) (hid λK w hw=>?_) hle hlp yai yai))
   refine zmn hrow h14 (λe s=>cEn hs x f e s) (λs=>inB b s/\s.loops+f<=10) (λe=>300*wE hs f e) (λe he' K w s h hi hG=>z4h hE hA KN f yai b e (he e he') K w s h hi.1 hi.2 hG) (λe he' s hi=>⟨⟨Eh hi.1 (Xh hs x f b e (he e he') s hi.1.1),by rw [(Fq hs x f e).lo];exact hi.2⟩,zrx hs x f b e (he e he') s hi.1.1⟩) hw ⟨hI0,by show s.loops+1+f<=10;omega⟩ (by rw [hsum,hg0];omega)
end
def Ck.endC(s:Ck):Ck:=
 if s.T=[] then s.add [Ex] else ((s.add [Ex]).lands s.T).add [zj1,dec 2]
def Ck.text(s:Ck):ByteArray:=Zt 10 s.L++⟨#[10]⟩
section
variable{W w w':World}{x:Cx}{K:List (Nat×Nat×Value)}{m:Cm}{c:Nat}{s:Ck}
theorem Cd.traps(h:Cd W x K m w c s): ∃a k,w.cell? ⟨c,6,none⟩=some (.slice a s.T.length k)/\m.tv= .slice a s.T.length k:=by
 obtain ⟨a,k,e⟩:=zc2 h.trow
 exact ⟨a,k,by rw [h.c6,e],e⟩
theorem z5n(h:Cw W x K w c s)(hG:s.g+s.T.length+200<10000000):
  Cl 33 #[ptr c] w λe w'=>e= .returned (.tuple #[])/\Cw W x K w' c s.endC:=by
 have H0:=hid h
 clear h
 by_cases hT:s.T=[]
 ·have hR:s.endC=s.add [Ex]:=if_pos hT
  rw [hR]
  clear hR
  go_enter Tryz.func33,Tryz.ntmps33
  go_wp2_with fail
  refine (Qp H0.out [Ex] yaj ⟨by decide,trivial⟩ yai).mono ?_
  rintro e w1 ⟨rfl,m,q⟩
  obtain ⟨a,k,c6,_⟩:=q.traps
  have hl:(s.add [Ex]).T.length=0:=by show s.T.length=0;rw [hT];rfl
  rw [hl] at c6
  have H1:=hid q
  clear q
  go_wp2
  (try simp only [Exit.inBlock,Exit.then])
  refine bodyPost_ret (results_none rfl _ _ _) rfl ?_
  exact ⟨rfl,m,H1.out⟩
 ·have hR:s.endC=((s.add [Ex]).lands s.T).add [zj1,dec 2]:=if_neg hT
  rw [hR]
  have hpos:0<s.T.length:=List.length_pos_iff.2 hT
  have hne:((s.T.length:Int)==0)=false:=yan
  have hne': ¬(s.T.length:Int)=0:=yai
  clear hR
  go_enter Tryz.func33,Tryz.ntmps33
  go_wp2_with fail
  refine (Qp H0.out [Ex] yaj ⟨by decide,trivial⟩ yai).mono ?_
  rintro e w1 ⟨rfl,m,q⟩
  obtain ⟨a,kc,c6,htv⟩:=q.traps
  have hTe:(s.add [Ex]).T=s.T:=rfl
  have hgT:(s.add [Ex]).g+s.T.length+100<10000000:=by show s.g+1+_+_<_;omega
  have H1:=hid q
  clear q H0
  generalize hS:s.add [Ex]=S at*
  rw [hTe] at c6 htv
  go_wp2
  go_loopw [20] (λv20 wr=>∃i:Nat,i<=s.T.length/\v20= .int .i64 i/\Hid (Cd W x K m wr c (S.lands (s.T.take i)))) (λv20 _=>s.T.length- (intOf v20).toNat)
  case atStart=>exact ⟨0,Nat.zero_le _,rfl,H1⟩
  case round=>
   obtain ⟨i,hi,rfl,hB⟩:=hrel
   by_cases hlt:i<s.T.length
   ·have hlt':(i:Int)<(s.T.length:Int):=by omega
    have hi0:(0:Int)<=(i:Int):=yai
    have hTi:(S.lands (s.T.take i)).T=s.T:=(zq6 _ _).trans hTe
    have r1:=hB.out.trow
    have r2:=hB.out.tl
    rw [hTi] at r1 r2
    obtain ⟨g,cap,bl,ba,e1,e2,h1,h2⟩:=zl7 r1 r2 hlt
    rw [htv] at e1
    injection e1 with e3 _ e4
    subst e3 e4
    have hun:=hB.out.ok.tb s.T[i] (by rw [hTi];exact List.getElem_mem hlt)
    have D1:=hid (zq0 hB.out h1 h2 hun (by rw [If];simp;omega))
    have hs:(S.lands (s.T.take i)).land s.T[i]=S.lands (s.T.take (i+1)):=by
     rw [<-zfm,List.take_add_one,List.getElem?_eq_getElem hlt];rfl
    rw [hs] at D1
    clear r1 r2 h1 h2 hun hs hTi
    go_wp2_with fail
    refine D1.out.mono ?_
    rintro e w1 ⟨rfl,q⟩
    have H2:=hid q
    clear q D1
    go_wp2
    go_roundw
    case rel=>exact ⟨i+1,by omega,by go_num,H2⟩
    case measure=>simp [intOf];omega
   ·have hlt': ¬(i:Int)<(s.T.length:Int):=by omega
    have hie:i=s.T.length:=yai
    rw [hie,List.take_length] at hB
    have H2:Hid (Cw W x K wr c (S.lands s.T)):=hid ⟨m,hB.out⟩
    have hg2:=If s.T S
    go_wp2_with fail
    go_region_law (first
     |(go_simp;go_at_call 68;refine (zag H2.out.drew 2 yai yai).mono ?_;rintro e w3 ⟨rfl,q⟩;have H3:=hid q;clear q)
     |(go_simp;go_at_call 67;refine (Qp H3.out [zj1,dec 2] yaj ⟨by decide,Sp _ yai yai,trivial⟩ yai).mono ?_;rintro e w4 ⟨rfl,q⟩;have H4:=hid q;clear q))
    go_wp2
    go_end0
    subst hS
    exact ⟨rfl,H4.out⟩
theorem zbz(B:Nat): ∀(ws:List ByteArray),(∀u∈ws,u.size<=B)->(Lib.join (ws.map (·.data.toList)) [10]).length<=(B+1)*ws.length
 |[],_=>by simp [Lib.join_nil]
 |[a],h=>by
  have h1:a.data.size<=B:=h a yaj
  simp only [List.map_cons,List.map_nil,Lib.join_one,List.length_cons,List.length_nil,Array.length_toList]
  omega
 |a::b::r,h=>by
  have ih:=zbz B (b::r) (λu hu=>h u (List.mem_cons_of_mem _ hu))
  have h1:a.data.size<=B:=h a yaj
  have e:Lib.join ((a::b::r).map (·.data.toList)) [10]=a.data.toList++[10]++Lib.join ((b::r).map (·.data.toList)) [10]:=by
   simp [Lib.join,List.intercalate]
  have e2:(B+1)*(a::b::r).length=(B+1)*(b::r).length+(B+1):=by rw [List.length_cons,Nat.mul_add,Nat.mul_one]
  rw [e,e2]
  simp only [List.length_append,List.length_cons,List.length_nil,Array.length_toList] at ih⊢
  omega
theorem zry(h:s.Ok)(hG:s.g<1000000):(Lib.join (s.L.map (·.data.toList)) [10]).length<=31000000000000:=by
 have h1:=zbz (200+30*s.g) s.L h.z
 have h2:=h.l
 have h3:(200+30*s.g+1)*s.L.length<=(200+30*s.g+1)*1000000:=Nat.mul_le_mul_left _ yai
 omega
theorem z3h(h:Cw W x K w c s)(hne:s.L≠[])(hG:s.g<1000000):
  Cl 35 #[ptr c] w λe w'=>e= .returned (.string s.text)/\Cw W x K w' c s:=by
 obtain ⟨m,hm⟩:=h
 have hsz:=zry hm.ok hG
 have hL:=hm.ok.l
 have hpos:0<s.L.length:=List.length_pos_iff.2 hne
 obtain ⟨g,cap,hlv,hcap,hcells,hgl⟩: ∃g cap,m.lv= .slice (some ⟨g,0,none⟩) s.L.length cap/\s.L.length<=cap/\(∀(j:Nat) u,s.L[j]?=some u->w.cell? ⟨g,0+j,none⟩=some (.string u))/\g<w.heap.size:=by
  rcases hm.lrow.2 with ⟨_,e⟩|⟨g,cap,cur,e,h1,h2,h3,h4,h5,h6⟩
  ·omega
  ·have hc:=hm.lrow.cells (g:=g) (by rw [e];rfl)
   refine ⟨g,cap,e,h3,λj u hu=>?_,(Array.getElem?_eq_some_iff.1 h2).1⟩
   have e1:=hc j (.string u) (by simp [hu])
   have e2:(⟨g,0,none⟩:Addr).add j=⟨g,0+j,none⟩:=by cases j<;>simp [Addr.add]
   rw [e2] at e1
   exact e1
 have c0:=hm.c0
 rw [hlv] at c0
 have KJ:Hid (Cl 70 #[.slice (some ⟨g,0,none⟩) s.L.length cap, .string ⟨#[10]⟩] w λe w'=>e= .returned (.string (Zt 10 s.L))/\Below w.heap.size w w'):=hid (Tryz.strings_Join g 0 cap s.L ⟨#[10]⟩ w hcells hgl yai hcap (by show (Lib.join (s.L.map (·.data.toList)) [10]).length<=_;omega))
 have hjs:(Zt 10 s.L).size=(Lib.join (s.L.map (·.data.toList)) [10]).length:=by simp [Zt,ByteArray.size]
 have hs1: ¬9223372036854775807<(Zt 10 s.L).size+1:=yai
 have H:=hid hm
 clear hm hcells hlv
 go_enter Tryz.func35,Tryz.ntmps35
 go_wp2_with fail
 refine KJ.out.mono ?_
 rintro e w1 ⟨rfl,b1⟩
 have H1:=hid (H.out.below b1)
 clear b1 H KJ c0
 clear hjs hsz
 generalize hjJ:Zt 10 s.L=J at*
 go_wp2
 go_ret
 subst hjJ
 exact ⟨rfl,m,H1.out⟩
end
end Go.Proofs.YtphcopbffecceaaGreatDoor
