import Derived.Test.YtphcopbffecceaaGreatDoorP36
import Derived.Laws.MakeOwn
import Derived.Deep.DeepCutAuto
set_option maxRecDepth 100000
set_option maxHeartbeats 16000000
namespace Go.Proofs.YtphcopbffecceaaGreatDoor
open Go.RowKit
variable{w w' w3:World}{D:Nat->Prop}{lab:Nat->Nat×Nat}{bm cp k mb n sz:Nat}{m:Nat->Int}{ts:List CT}{tv v:Value}{ic:Ic}{e:TypeId}{xs:List Value}{M:Nat->Nat->Prop}
section
variable(w:World)(b c:Nat)(u:ByteArray)(ws:List ByteArray)
theorem zx3(f:ByteArray)(hq:(f.toList==[63])=false)(hf:f.size<=5)(hl:ws.length≠f.size)(hb:b<w.heap.size)(hw:Hid (StrsAt w b (u::ws)))
  (hform:Hid (∀W,Cl 46 #[.string u] W λe w'=>e= .returned (.string f)/\Below W.heap.size W w')):
  Cl 26 #[.slice (some ⟨b,0,none⟩) (ws.length+1) c] w λe w'=>(∃i,e= .returned (.tuple #[Vm i, .bool false]))/\Below w.heap.size w w':=by
 have h0:w.cell? ⟨b,0,none⟩=some (.string u):=hw.out 0 yaj
 go_enter Tryz.func26,Tryz.ntmps26
 go_wp2_with fail
 generalize hA:w.alloc _=WA
 generalize hB:WA.alloc _=WB
 have sA:WA.heap.size=w.heap.size+1:=yb5
 have bA:Below w.heap.size w WB:=ydc
 have sB:WB.heap.size=w.heap.size+2:=by rw [<-hB];simp [sA]
 have dI:DIAt WB (w.heap.size+1) (Qr u):=ydd
 have dR:DIAt WB w.heap.size (Qr ⟨#[]⟩):=yde
 have fR: ∀j,WB.frozen? ⟨w.heap.size,j,none⟩=false:=ydf
 clear hA hB
 refine (hform.out WB).mono ?_
 rintro e W1 ⟨rfl,b1⟩
 obtain ⟨i0,i1,i2,i3,i4,i5,i6,i7,i8⟩:=dI.below b1 yai
 obtain ⟨r0,r1,r2,r3,r4,r5,r6,r7,r8⟩:=dR.below b1 yai
 have f: ∀j,W1.frozen? ⟨w.heap.size,j,none⟩=false:=λj=>(b1.frozen (p:=⟨w.heap.size,j,none⟩) yb6).trans (fR j)
 have f0:=f 0
 have f1:=f 1
 have f2:=f 2
 have f3:=f 3
 have f4:=f 4
 have f5:=f 5
 have f6:=f 6
 have f7:=f 7
 have f8:=f 8
 have B1:=hid b1
 have BA:=hid bA
 clear b1 bA f fR dI dR
 simp only [Qr] at i0 i1 i2 i3 i4 i5 i6 i7 i8 r0 r1 r2 r3 r4 r5 r6 r7 r8
 have hq': ¬f.toList=[63]:=by simpa using hq
 have hlen:((ws.length:Int)+1 !=1+(f.size:Int))=true:=yan
 go_wp2
 have hR:DIAt W1 w.heap.size (Qr ⟨#[]⟩):=⟨r0,r1,r2,r3,r4,r5,r6,r7,r8⟩
 obtain ⟨q0,q1,q2,q3,q4,q5,q6,q7,q8⟩:=Zj hR (Qr u)
 have hbel:=Jn (BA.out.trans (B1.out.mono yai)) (Nat.le_refl w.heap.size) (Qr u)
 refine ⟨rfl, .tuple #[Vm (Qr u), .bool false],?_,⟨_,rfl⟩,hbel⟩
 change (results _ _).run _ (Vf W1 w.heap.size (Qr u))= .ok _ (Vf W1 w.heap.size (Qr u))
 generalize Vf W1 w.heap.size (Qr u)=W' at*
 simp [results,Tryz.results26,go_sem,q0,q1,q2,q3,q4,q5,q6,q7,q8,Vm,Qr]
def zzc(u:ByteArray)(us:List ByteArray)(i:DI)(ok:Bool):Prop:=
 (ok=false/\(zbm u us=none\/ ∃ic x xs,zbm u us=some (ic,x::xs)))\/(ok=true/\ ∃ic,zbm u us=some (ic,[])/\i=dOf ic)
theorem znm(f:ByteArray)(g:List ByteArray->Option (Ic×List ByteArray))(hf:f.size<=5)(hq:(f.data.toList==[63])=false)(hb:b<w.heap.size)(hw:StrsAt w b (u::ws))
  (hlet: ∀j (h:j<f.size),f[j]=100\/f[j]=97\/f[j]=98\/f[j]=99\/f[j]=107\/f[j]=116\/f[j]=110)
  (hform: ∀W,Cl 46 #[.string u] W λe w'=>e= .returned (.string f)/\Below W.heap.size W w')
  (ha:zbi f.data.toList u g) (hg: ∀us,zbm u us=g us):
  Cl 26 #[.slice (some ⟨b,0,none⟩) (ws.length+1) c] w λe w'=>(∃i ok,e= .returned (.tuple #[Vm i, .bool ok])/\zzc u ws i ok)/\Below w.heap.size w w':=by
 have hq':(f.toList==[63])=false:=by rw [ByteArray.toList_eq];exact hq
 have hfl:f.data.toList.length=f.size:=ybz
 by_cases hl:ws.length=f.size
 ·refine (zt6 w b c u ws f hf hq' hb hw hl hlet hform).mono ?_
  rintro e w' ⟨rfl,hb'⟩
  refine ⟨⟨_,_,rfl,?_⟩,hb'⟩
  obtain ⟨h1,h2⟩:=(ha ws).2 yai
  cases hr:(Vn f.data.toList ws (Qr u)).2 with
  |false=>exact .inl ⟨rfl, .inl (by rw [hg];exact h1 hr)⟩
  |true=>
   obtain ⟨ic,h3,h4⟩:=h2 hr
   exact .inr ⟨rfl,ic,by rw [hg];exact h3,h4⟩
 ·refine (zx3 w b c u ws f hq' hf hl hb hw hform).mono ?_
  rintro e w' ⟨⟨i,rfl⟩,hb'⟩
  exact ⟨⟨i,false,rfl, .inl ⟨rfl,by rw [hg];exact (ha ws).1 yai⟩⟩,hb'⟩
theorem zx4(hb:b<w.heap.size)(hw:StrsAt w b (u::ws)):
  Cl 26 #[.slice (some ⟨b,0,none⟩) (ws.length+1) c] w λe w'=>(∃i ok,e= .returned (.tuple #[Vm i, .bool ok])/\zzc u ws i ok)/\Below w.heap.size w w':=by
 rcases zpu u with ⟨f,g,hF⟩|⟨h1,h2,h3⟩
 ·rcases hF with ⟨k,h,rfl,rfl⟩|⟨n,hn,h,hw',hf,rfl,ha,hg⟩
  ·have hg: ∀us,zbm u us=gop k us:=λus=>by unfold zbm;rw [h]
   obtain ⟨hk,hu⟩:=zhj h
   have ha:=zx1 k
   rw [hu] at ha
   refine znm w b c u ws ⟨#[100,97,98]⟩ (gop k) yal yal hb hw ?_ (λW=>zpn W u k hk (zpv h) hu) ha hg
   intro j hj
   have hj':j<3:=hj
   have hc:j=0\/j=1\/j=2:=yai
   rcases hc with rfl|rfl|rfl
   ·exact .inl rfl
   ·exact .inr (.inl rfl)
   ·exact .inr (.inr (.inl rfl))
  ·exact znm w b c u ws _ g (zub n hn) (zx2 n hn) hb hw (zi5 n hn) (λW=>zpo W u (zdk h) n hn hf hw') ha hg
 ·refine (zt5 w b c u ws hb hw (zdk h1) h2).mono ?_
  rintro e w' ⟨⟨i,rfl⟩,hb'⟩
  exact ⟨⟨i,false,rfl, .inl ⟨rfl, .inl (h3 ws)⟩⟩,hb'⟩
end
def Zw(ic:Ic):List Value:=[.string (dOf ic).word, .int .i64 (dOf ic).d, .bool (dOf ic).a.reg, .int .i64 (dOf ic).a.v, .bool (dOf ic).b.reg, .int .i64 (dOf ic).b.v, .bool (dOf ic).c.reg, .int .i64 (dOf ic).c.v, .int .i64 (dOf ic).k]
def zuc(q:List (Int×Int)):List Value:=q.flatMap λp=>[.int .i64 p.1, .int .i64 p.2]
structure CT where
 b:Nat
 rb:Nat
 cv:Value
 wv:Value
 ov:Value
 T:Th
 code:List Ic
structure CThAt(w:World)(t:CT):Prop where
 sh:w.shape? t.b=some (84,6)
 codec:w.cell? ⟨t.b,0,none⟩=some t.cv
 crow:w.ownsRow 0 88 9 t.cv t.code.length (t.code.flatMap Zw)
 pc:w.cell? ⟨t.b,1,none⟩=some (.int .i64 t.T.pl)
 regs:w.cell? ⟨t.b,2,none⟩=some (.slice (some ⟨t.rb,0,none⟩) 8 8)
 rsh:w.shape? t.rb=some (2,8)
 rcell: ∀j,j<8->w.cell? ⟨t.rb,j,none⟩=some (.int .i64 (t.T.r j))
 rfree: ∀j,j<8->w.frozen? ⟨t.rb,j,none⟩=false
 waits:w.cell? ⟨t.b,3,none⟩=some t.wv
 wrow:w.ownsRow 0 324 2 t.wv t.T.q.length (zuc t.T.q)
 outc:w.cell? ⟨t.b,4,none⟩=some t.ov
 orow:w.ownsRow 0 2 1 t.ov t.T.out.length (t.T.out.map (Value.int .i64))
 state:w.cell? ⟨t.b,5,none⟩=some (.int .i64 t.T.st)
 free: ∀j,j<6->w.frozen? ⟨t.b,j,none⟩=false
structure z5z(D:Nat->Prop)(lab:Nat->Nat×Nat)(i:Nat)(t:CT):Prop where
 b:lab t.b=(i+1,0)/\D t.b
 rb:lab t.rb=(i+1,1)/\D t.rb
 cv: ∀g,t.cv.ownBlock=some g->lab g=(i+1,2)/\D g
 wv: ∀g,t.wv.ownBlock=some g->lab g=(i+1,3)/\D g
 ov: ∀g,t.ov.ownBlock=some g->lab g=(i+1,4)/\D g
structure CMach(D:Nat->Prop)(lab:Nat->Nat×Nat)(w:World)(bm mb:Nat)(tv:Value)(m:Nat->Int)(ts:List CT):Prop where
 sh:w.shape? bm=some (37,2)
 memc:w.cell? ⟨bm,0,none⟩=some (.slice (some ⟨mb,0,none⟩) 256 256)
 tc:w.cell? ⟨bm,1,none⟩=some tv
 free: ∀j,j<2->w.frozen? ⟨bm,j,none⟩=false
 msh:w.shape? mb=some (2,256)
 mcell: ∀j,j<256->w.cell? ⟨mb,j,none⟩=some (.int .i64 (m j))
 mfree: ∀j,j<256->w.frozen? ⟨mb,j,none⟩=false
 trow:w.ownsRow 0 80 1 tv ts.length (ts.map λt=>ptr t.b)
 th: ∀i (h:i<ts.length),CThAt w ts[i]
 lb:lab bm=(0,0)/\D bm
 lm:lab mb=(0,1)/\D mb
 lt: ∀g,tv.ownBlock=some g->lab g=(0,2)/\D g
 lts: ∀i (h:i<ts.length),z5z D lab i ts[i]
theorem CThAt.keep{t:CT}(h:CThAt w t)(hc:Chg M w w')(hb: ∀i,¬M t.b i)(hr: ∀i,¬M t.rb i)(hcv: ∀g,t.cv.ownBlock=some g->∀i,¬M g i)(hwv: ∀g,t.wv.ownBlock=some g->∀i,¬M g i)(hov: ∀g,t.ov.ownBlock=some g->∀i,¬M g i):CThAt w' t:=by
 have lb:=Qd h.sh
 have lr:=Qd h.rsh
 exact {
  sh:=(hc.shape _ lb).trans h.sh
  codec:=(hc.cell _ _ lb (hb 0)).trans h.codec
  crow:=Qc h.crow hc hcv
  pc:=(hc.cell _ _ lb (hb 1)).trans h.pc
  regs:=(hc.cell _ _ lb (hb 2)).trans h.regs
  rsh:=(hc.shape _ lr).trans h.rsh
  rcell:=λj hj=>(hc.cell _ _ lr (hr j)).trans (h.rcell j hj)
  rfree:=λj hj=>(hc.frozen _ _ lr).trans (h.rfree j hj)
  waits:=(hc.cell _ _ lb (hb 3)).trans h.waits
  wrow:=Qc h.wrow hc hwv
  outc:=(hc.cell _ _ lb (hb 4)).trans h.outc
  orow:=Qc h.orow hc hov
  state:=(hc.cell _ _ lb (hb 5)).trans h.state
  free:=λj hj=>(hc.frozen _ _ lb).trans (h.free j hj)}
theorem CMach.keep(h:CMach D lab w bm mb tv m ts)(hc:Chg M w w')(hM: ∀k i,D k->¬M k i):CMach D lab w' bm mb tv m ts:=by
 have lb:=Qd h.sh
 have lm:=Qd h.msh
 exact {
  sh:=(hc.shape _ lb).trans h.sh
  memc:=(hc.cell _ _ lb (hM _ _ h.lb.2)).trans h.memc
  tc:=(hc.cell _ _ lb (hM _ _ h.lb.2)).trans h.tc
  free:=λj hj=>(hc.frozen _ _ lb).trans (h.free j hj)
  msh:=(hc.shape _ lm).trans h.msh
  mcell:=λj hj=>(hc.cell _ _ lm (hM _ _ h.lm.2)).trans (h.mcell j hj)
  mfree:=λj hj=>(hc.frozen _ _ lm).trans (h.mfree j hj)
  trow:=Qc h.trow hc (λg hg i=>hM _ _ (h.lt g hg).2)
  th:=λi hi=>(h.th i hi).keep hc (λ_=>hM _ _ (h.lts i hi).b.2) (λ_=>hM _ _ (h.lts i hi).rb.2) (λg hg _=>hM _ _ ((h.lts i hi).cv g hg).2) (λg hg _=>hM _ _ ((h.lts i hi).wv g hg).2) (λg hg _=>hM _ _ ((h.lts i hi).ov g hg).2)
  lb:=h.lb
  lm:=h.lm
  lt:=h.lt
  lts:=h.lts}
theorem CMach.below(h:CMach D lab w bm mb tv m ts)(hb:Below w.heap.size w w'):CMach D lab w' bm mb tv m ts:=
 h.keep (M:=λ_ _=>False) (Chg.of_below hb) (λ_ _ _ e=>e)
def Em(n:Nat):Array Value:=madeCells #[.int .i64 0] n
theorem zf2(n:Nat):(Em n).size=n:=size_madeCells _ _
theorem zi6(n j:Nat)(h:j<n):(Em n)[j]?=some (.int .i64 0):=by
 unfold Em madeCells
 simp [h,Nat.mod_one]
theorem zf3(n:Nat)(hn:n<=1000)(w:World):(Instr.makeSlice 34 (.int .i64 n) (.int .i64 n)).run Tryz.prog w= .ok (.slice (some ⟨w.heap.size,0,none⟩) n n) (w.alloc (.cells (Em n) 2)):=by
 obtain ⟨i0,hi,hz0,hz1,hz2⟩:=info_parts zqb
 have:=run_make (P:=Tryz.prog) w 34 2 i0 (.int .i64 0) Tryz.underlying34 hi hz0 .i64 .i64 n n yai (Int.le_refl _) (by rw [hz2];omega) yai
 rw [this,hz1]
 simp [Em]
 rfl
theorem z1r(w:World)(t:TypeId):w.ownsRow 0 t 9 (.slice none 0 0) 0 []:=⟨rfl, .inl ⟨rfl,rfl⟩⟩
def z4c(b rb:Nat):CT:=⟨b,rb, .slice none 0 0, .slice none 0 0, .slice none 0 0,Th.init,[]⟩
def zhg(w:World):World:=(((w.alloc (.cells (Em 8) 2)).alloc (.cells #[.slice none 0 0, .int .i64 0, .slice (some ⟨w.heap.size,0,none⟩) 8 8, .slice none 0 0, .slice none 0 0, .int .i64 0] 84)).alloc (.cells #[ptr (w.heap.size+1)] 80)).drew
theorem zet(w:World):(zhg w).heap.size=w.heap.size+3:=by simp [zhg]
theorem zdg(w:World):Chg (λ_ _=>False) w (zhg w):=((((Chg.refl _ w).alloc _).alloc _).alloc _).drew
theorem zcf(w:World)(o:Nat)(v:Value)(h:(#[Value.slice none 0 0, .int .i64 0, .slice (some ⟨w.heap.size,0,none⟩) 8 8, .slice none 0 0, .slice none 0 0, .int .i64 0])[o]?=some v):(zhg w).cell? ⟨w.heap.size+1,o,none⟩=some v:=by
 have hs:(w.alloc (.cells (Em 8) 2)).heap.size=w.heap.size+1:=yaj
 have:=World.cell?_alloc_new (w.alloc (.cells (Em 8) 2)) #[.slice none 0 0, .int .i64 0, .slice (some ⟨w.heap.size,0,none⟩) 8 8, .slice none 0 0, .slice none 0 0, .int .i64 0] 84 o
 rw [hs] at this
 exact (World.cell?_alloc_past _ _ _ yaj).trans (this.trans h)
theorem z1s(w:World):(zhg w).shape? (w.heap.size+1)=some (84,6):=by
 have hs:(w.alloc (.cells (Em 8) 2)).heap.size=w.heap.size+1:=yaj
 have:=Fi (w.alloc (.cells (Em 8) 2)) #[.slice none 0 0, .int .i64 0, .slice (some ⟨w.heap.size,0,none⟩) 8 8, .slice none 0 0, .slice none 0 0, .int .i64 0] 84
 rw [hs] at this
 exact (Jw (Below.heap_alloc _ _ _ yaj)).trans this
theorem z1t(w:World)(o:Nat):(zhg w).frozen? ⟨w.heap.size+1,o,none⟩=false:=by
 have hs:(w.alloc (.cells (Em 8) 2)).heap.size=w.heap.size+1:=yaj
 refine (World.frozen?_alloc_past _ _ _ yaj).trans ?_
 rw [<-hs]
 simp
theorem z1u(w:World)(j:Nat)(h:j<8):(zhg w).cell? ⟨w.heap.size,j,none⟩=some (.int .i64 0):=
 (World.cell?_alloc_past _ _ _ yan).trans ((World.cell?_alloc_past _ _ _ yaj).trans ((World.cell?_alloc_new w _ _ j).trans (zi6 8 j h)))
theorem z1v(w:World):(zhg w).shape? w.heap.size=some (2,8):=
 (Jw (Below.heap_alloc _ _ _ yan)).trans ((Jw (Below.heap_alloc _ _ _ yaj)).trans ((Fi w _ _).trans (by rw [zf2])))
theorem z1w(w:World)(j:Nat):(zhg w).frozen? ⟨w.heap.size,j,none⟩=false:=
 (World.frozen?_alloc_past _ _ _ yan).trans ((World.frozen?_alloc_past _ _ _ yaj).trans yaj)
theorem zx5(h:w.ownsRow 0 e 1 v n xs):(zhg w).ownsRow 0 e 1 v n xs:=Qc h (zdg w) (λ_ _ _ e=>e)
theorem zx6(w:World): ∀j u',[ptr (w.heap.size+1)][j]?=some u'->(zhg w).cell? ((⟨w.heap.size+1+1,0,none⟩:Addr).add j)=some u':=by
 have hs:((w.alloc (.cells (Em 8) 2)).alloc (.cells #[.slice none 0 0, .int .i64 0, .slice (some ⟨w.heap.size,0,none⟩) 8 8, .slice none 0 0, .slice none 0 0, .int .i64 0] 84)).heap.size=w.heap.size+1+1:=yaj
 have:=cell_one_new ((w.alloc (.cells (Em 8) 2)).alloc (.cells #[.slice none 0 0, .int .i64 0, .slice (some ⟨w.heap.size,0,none⟩) 8 8, .slice none 0 0, .slice none 0 0, .int .i64 0] 84)) (ptr (w.heap.size+1)) 80
 rw [hs] at this
 exact this
theorem Ev{l l':Nat×Nat}(h: ∀g,v.ownBlock=some g->lab g=l/\D g)(hk:lab k=l')(hl:l'≠l): ¬v.ownBlock=some k:=λe=>hl (hk.symm.trans (h k e).1)
theorem zi7{q:Nat}(h:CMach D lab w bm mb tv m ts)(hD: ∀k,w.heap.size<=k->D k)
  (ho:w3.ownsRow 0 80 1 (.slice (some ⟨q,0,none⟩) (ts.length+1) cp) (ts.length+1) ((ts.map λt=>ptr t.b)++[ptr (w.heap.size+1)]))
  (hc:Chg (λk _=>tv.ownBlock=some k) (zhg w) w3) (hg:tv.ownBlock=some q\/q=(zhg w).heap.size):
  ∃lab',CMach D lab' (w3.setCell ⟨bm,1,none⟩ (.slice (some ⟨q,0,none⟩) (ts.length+1) cp)) bm mb (.slice (some ⟨q,0,none⟩) (ts.length+1) cp) m (ts++[z4c (w.heap.size+1) w.heap.size])/\Chg (λk _=>D k) w (w3.setCell ⟨bm,1,none⟩ (.slice (some ⟨q,0,none⟩) (ts.length+1) cp)):=by
 have hn3:=zet w
 have lbm:=Qd h.sh
 have lmb:=Qd h.msh
 have htl: ∀k,tv.ownBlock=some k->k<w.heap.size:=λk hk=>(h.trow.lt k hk).2
 have hset:Chg (λk i=>k=bm/\i=1) w3 (w3.setCell ⟨bm,1,none⟩ (.slice (some ⟨q,0,none⟩) (ts.length+1) cp)):=(Chg.refl (λk i=>k=bm/\i=1) w3).setCell (b:=bm) (o:=1) (λ_=>⟨rfl,rfl⟩) _
 have hw3:Chg (λk _=>tv.ownBlock=some k) w w3:=((zdg w).mono (λ_ _ _ e=>e.elim)).trans hc
 have hall:Chg (λk i=>tv.ownBlock=some k\/(k=bm/\i=1)) w (w3.setCell ⟨bm,1,none⟩ (.slice (some ⟨q,0,none⟩) (ts.length+1) cp)):=(hw3.mono (λ_ _ _ e=> .inl e)).trans (hset.mono (λ_ _ _ e=> .inr e))
 have hs3:w.heap.size+3<=w3.heap.size:=by have:=hc.size;omega
 generalize hW:w3.setCell ⟨bm,1,none⟩ (.slice (some ⟨q,0,none⟩) (ts.length+1) cp)=W at*
 -- what is new
 have new: ∀k,w.heap.size<=k->k<w.heap.size+3->∀o,W.cell? ⟨k,o,none⟩=(zhg w).cell? ⟨k,o,none⟩:=λk h1 h2 o=>(hset.cell k o yai yai).trans (hc.cell k o yai (λe=>by have:=htl k e;omega))
 have newS: ∀k,k<w.heap.size+3->W.shape? k=(zhg w).shape? k:=λk h2=>(hset.shape k yai).trans (hc.shape k yai)
 have newF: ∀k,k<w.heap.size+3->∀o,W.frozen? ⟨k,o,none⟩=(zhg w).frozen? ⟨k,o,none⟩:=λk h2 o=>(hset.frozen k o yai).trans (hc.frozen k o yai)
 let lab':Nat->Nat×Nat:=λk=>if k=w.heap.size then (ts.length+1,1) else if k=w.heap.size+1 then (ts.length+1,0) else if k=q then (0,2) else lab k
 have hold: ∀k,k<w.heap.size->lab' k=lab k:=by
  intro k hk
  show (if k=w.heap.size then _ else if k=w.heap.size+1 then _ else if k=q then _ else _)=_
  rw [if_neg yai,if_neg yai]
  by_cases e:k=q
  ·rw [if_pos e]
   rcases hg with hg|hg
   ·rw [e];exact ((h.lt q hg).1).symm
   ·omega
  ·rw [if_neg e]
 have hqn:q≠w.heap.size/\q≠w.heap.size+1:=by
  rcases hg with hg|hg
  ·have:=htl q hg;omega
  ·omega
 have hqb:q≠bm:=by
  rcases hg with hg|hg
  ·intro e;exact Ev h.lt h.lb.1 yal (e▸hg)
  ·omega
 have labs: ∀i (hi:i<ts.length),z5z D lab' i ts[i]:=λi hi=>by
  have l:=h.lts i hi
  have t:=h.th i hi
  exact ⟨⟨(hold _ (Qd t.sh)).trans l.b.1,l.b.2⟩,⟨(hold _ (Qd t.rsh)).trans l.rb.1,l.rb.2⟩,λg hg=>⟨(hold _ (t.crow.lt g hg).2).trans (l.cv g hg).1,(l.cv g hg).2⟩,λg hg=>⟨(hold _ (t.wrow.lt g hg).2).trans (l.wv g hg).1,(l.wv g hg).2⟩,λg hg=>⟨(hold _ (t.orow.lt g hg).2).trans (l.ov g hg).1,(l.ov g hg).2⟩⟩
 have notM: ∀k l,lab k=l->l≠(0,2)->l≠(0,0)->∀i,¬(tv.ownBlock=some k\/(k=bm/\i=1)):=by
  rintro k l hk h1 h2 i (e|⟨e,_⟩)
  ·exact Ev h.lt hk h1 e
  ·exact h2 (hk.symm.trans (e▸h.lb.1))
 refine ⟨lab',⟨(hall.shape _ lbm).trans h.sh,(hall.cell _ _ lbm ?_).trans h.memc,?_,λj hj=>(hall.frozen _ _ lbm).trans (h.free j hj),(hall.shape _ lmb).trans h.msh,λj hj=>(hall.cell _ _ lmb (notM _ _ h.lm.1 yal yal _)).trans (h.mcell j hj),λj hj=>(hall.frozen _ _ lmb).trans (h.mfree j hj),?_,?_,⟨(hold _ lbm).trans h.lb.1,h.lb.2⟩,⟨(hold _ lmb).trans h.lm.1,h.lm.2⟩,?_,?_⟩,hall.mono ?_⟩
 ·rintro (e|e)
  ·exact Ev h.lt h.lb.1 yal e
  ·omega
 ·rw [<-hW]
  refine Qg (u:=tv) ((hw3.cell _ _ lbm (Ev h.lt h.lb.1 yal)).trans h.tc) rfl
 ·have:=Qc ho hset (λg hg' i e=>by simp [Value.ownBlock] at hg';omega)
  simpa [z4c] using this
 ·intro i hi
  by_cases hi':i<ts.length
  ·rw [List.getElem_append_left hi']
   have l:=h.lts i hi'
   have ne: ∀k x,lab k=(i+1,x)->∀j,¬(tv.ownBlock=some k\/(k=bm/\j=1)):=λk x hk j=>notM k _ hk yaj yaj j
   exact (h.th i hi').keep hall (ne _ _ l.b.1) (ne _ _ l.rb.1) (λg hg=>ne _ _ (l.cv g hg).1) (λg hg=>ne _ _ (l.wv g hg).1) (λg hg=>ne _ _ (l.ov g hg).1)
  ·obtain rfl:i=ts.length:=by simp at hi;omega
   rw [List.getElem_append_right (Nat.le_refl _)]
   simp only [Nat.sub_self,List.getElem_cons_zero]
   exact {
    sh:=(newS _ ya8).trans (z1s w)
    codec:=(new _ ybe ya8 0).trans (zcf w 0 _ rfl)
    crow:=z1r _ _
    pc:=(new _ ybe ya8 1).trans (zcf w 1 _ rfl)
    regs:=(new _ ybe ya8 2).trans (zcf w 2 _ rfl)
    rsh:=(newS _ yb6).trans (z1v w)
    rcell:=λj hj=>(new _ (Nat.le_refl _) yb6 j).trans (z1u w j hj)
    rfree:=λj _=>(newF _ yb6 j).trans (z1w w j)
    waits:=(new _ ybe ya8 3).trans (zcf w 3 _ rfl)
    wrow:=⟨rfl, .inl ⟨rfl,rfl⟩⟩
    outc:=(new _ ybe ya8 4).trans (zcf w 4 _ rfl)
    orow:=⟨rfl, .inl ⟨rfl,rfl⟩⟩
    state:=(new _ ybe ya8 5).trans (zcf w 5 _ rfl)
    free:=λj _=>(newF _ ya8 j).trans (z1t w j)}
 ·intro g hg'
  simp [Value.ownBlock] at hg'
  subst hg'
  refine ⟨?_,?_⟩
  ·show (if q=w.heap.size then _ else if q=w.heap.size+1 then _ else if q=q then _ else _)=_
   rw [if_neg hqn.1,if_neg hqn.2,if_pos rfl]
  ·rcases hg with hg|hg
   ·exact (h.lt q hg).2
   ·exact hD q yai
 ·intro i hi
  by_cases hi':i<ts.length
  ·rw [List.getElem_append_left hi']
   exact labs i hi'
  ·obtain rfl:i=ts.length:=by simp at hi;omega
   rw [List.getElem_append_right (Nat.le_refl _)]
   simp only [Nat.sub_self,List.getElem_cons_zero]
   have none_own: ∀g,(Value.slice none 0 0).ownBlock≠some g:=λg e=>by simp [Value.ownBlock] at e
   refine ⟨⟨?_,hD _ ybe⟩,⟨?_,hD _ (Nat.le_refl _)⟩,λg e=>absurd e (none_own g),λg e=>absurd e (none_own g),λg e=>absurd e (none_own g)⟩
   ·show (if w.heap.size+1=w.heap.size then _ else if w.heap.size+1=w.heap.size+1 then _ else _)=_
    rw [if_neg yai,if_pos rfl]
   ·show (if w.heap.size=w.heap.size then _ else _)=_
    rw [if_pos rfl]
 ·rintro k i hk (e|⟨rfl,_⟩)
  ·exact (h.lt k e).2
  ·exact h.lb.2
theorem zud(h:CMach D lab w bm mb tv m ts)(hc:Chg (λk _=>tv.ownBlock=some k) (zhg w) w3):w3.cell? ⟨bm,1,none⟩=some tv:=
 (hc.cell bm 1 (by rw [zet];have:=Qd h.sh;omega) (Ev h.lt h.lb.1 yal)).trans (((zdg w).cell bm 1 (Qd h.sh) (λe=>e)).trans h.tc)
theorem zue(h:CMach D lab w bm mb tv m ts)(hc:Chg (λk _=>tv.ownBlock=some k) (zhg w) w3):w3.frozen? ⟨bm,1,none⟩=false:=
 (hc.frozen bm 1 (by rw [zet];have:=Qd h.sh;omega)).trans (((zdg w).frozen bm 1 (Qd h.sh)).trans (h.free 1 yai))
section
variable{D:Nat->Prop}{lab:Nat->Nat×Nat}{w:World}{bm mb bw c:Nat}{tv:Value}{m:Nat->Int}{ts:List CT}{us:List ByteArray}{u:ByteArray}
theorem zpw(h:CMach D lab w bm mb tv m ts)(hw:StrsAt w bw [Vj])(h3:ts.length=3):
  Cl 14 #[ptr bm, .slice (some ⟨bw,0,none⟩) 1 c] w λe w'=>e= .returned (.int .i64 5)/\w'=w:=by
 have hc:=h.tc
 have h0:w.cell? ⟨bw,0,none⟩=some (.string ⟨#[116,104,114,101,97,100]⟩):=hw 0 yaj
 obtain ⟨ta,tk,rfl⟩: ∃ta tk,tv= .slice ta ts.length tk:=z8l
 rw [h3] at hc
 have H:=hid h
 clear h hw
 go_enter Tryz.func14,Tryz.ntmps14
 go_wp2
 go_ret
 exact ⟨rfl,rfl⟩
theorem zi8:(Tryz.prog.info? 80).map (λi=>(i.zero,i.size,i.bytes))=some (some (.pointer none),1,8):=yak
theorem zln(h:CMach D lab w bm mb tv m ts)(hD: ∀k,w.heap.size<=k->D k)(hw:StrsAt w bw [Vj])(h3:ts.length<3):
  Cl 14 #[ptr bm, .slice (some ⟨bw,0,none⟩) 1 c] w λe w'=>e= .returned (.int .i64 0)/\(∃lab' tv' t,CMach D lab' w' bm mb tv' m (ts++[t])/\t.T=Th.init/\t.code=[])/\Chg (λk _=>D k) w w':=by
 obtain ⟨i0,hi,hz0,hz1,hz2⟩:=info_parts zi8
 have hc:=h.tc
 have hfc:=h.free 1 yai
 have h0:w.cell? ⟨bw,0,none⟩=some (.string ⟨#[116,104,114,101,97,100]⟩):=hw 0 yaj
 obtain ⟨ta,tk,rfl⟩: ∃ta tk,tv= .slice ta ts.length tk:=z8l
 have hlb:=Qd h.sh
 have hlb1:bm<w.heap.size+1:=yai
 have hlb2:bm<w.heap.size+1+1:=yai
 have hn3: ¬(ts.length:Int)=3:=yai
 have hmk: ∀w,(Instr.makeSlice 34 (.int .i64 8) (.int .i64 8)).run Tryz.prog w= .ok (.slice (some ⟨w.heap.size,0,none⟩) 8 8) (w.alloc (.cells (Em 8) 2)):=λw=>zf3 8 yal w
 have hl1:ts.length+1<=maxLen:=yap
 have hl2:(ts.length+1)*8<=140737488355328:=yai
 have H:=hid h
 clear h hw
 go_enter Tryz.func14,Tryz.ntmps14
 go_wp2_with fail
 go_region_law (refine zqj rfl (.tmp 33) (.tmp 37) 35 rfl 80 i0 (.pointer none) 8 Tryz.underlying35 hi hz0 hz1 hz2 rfl (.slice ta ts.length tk) ts.length (ts.map λt=>ptr t.b) rfl ?own ⟨w.heap.size+1+1,0,none⟩ (ptr (w.heap.size+1)) rfl ?cel rfl hl1 hl2 ?_;(case own=>exact zx5 H.out.trow);(case cel=>exact zx6 w);intro q cp w3 ho hch hg;have hcb:=(zud H.out hch);have hfb:=(zue H.out hch);have HO:=hid ho;have HC:=hid hch;have HG:=hid hg;clear ho hch hg)
 all_goals
  go_wp2
  go_ret
  obtain ⟨lab',h1,h2⟩:=zi7 H.out hD HO.out HC.out HG.out
  exact ⟨rfl,⟨lab',_,_,h1,rfl,rfl⟩,h2⟩
end
theorem zx7:(Tryz.prog.info? 88).map (λi=>(i.zero,i.size,i.bytes))=some (some (.agg #[.string ⟨#[]⟩, .int .i64 0, .bool false, .int .i64 0, .bool false, .int .i64 0, .bool false, .int .i64 0, .int .i64 0]),9,80):=yak
section
variable{D:Nat->Prop}{lab:Nat->Nat×Nat}{w:World}{bm mb bw c:Nat}{tv:Value}{m:Nat->Int}{ts:List CT}{us:List ByteArray}{u:ByteArray}
def zcg(u:ByteArray)(us:List ByteArray):Prop:=us≠[]\/u≠Vj
theorem Oy(hN:zcg u us):(¬((us.length:Int)+1=1))\/((us.length:Int)+1=1/\(u.toList==[116,104,114,101,97,100])=false):=by
 by_cases e:us=[]
 ·exact .inr ⟨by rw [e];rfl,zzk (hN.resolve_left (λh=>h e))⟩
 ·have:=List.length_pos_iff.2 e;exact .inl yai
theorem Gf(h:w.ownsRow 0 e sz v n xs): ∃ta tk,v= .slice ta n tk:=by
 rcases h.2 with ⟨e1,e2⟩|⟨g',cap',cur,e1,_⟩
 ·exact ⟨none,0,by rw [e1,e2]⟩
 ·exact ⟨_,_,e1⟩
theorem zeu(h:CMach D lab w bm mb tv m ts)(hN:zcg u us)(hw:StrsAt w bw (u::us))
  (hins:Hid (Cl 26 #[.slice (some ⟨bw,0,none⟩) (us.length+1) c] w λe w'=>(∃i,e= .returned (.tuple #[Vm i, .bool false]))/\Below w.heap.size w w')):
  Cl 14 #[ptr bm, .slice (some ⟨bw,0,none⟩) (us.length+1) c] w λe w'=>e= .returned (.int .i64 2)/\Below w.heap.size w w':=by
 have hc:=h.tc
 have h0:w.cell? ⟨bw,0,none⟩=some (.string u):=hw 0 yaj
 obtain ⟨ta,tk,rfl⟩:=Gf h.trow
 have H:=hid h
 clear h hw
 rcases Oy hN with h1|⟨h1,h2⟩
 all_goals
  go_enter Tryz.func14,Tryz.ntmps14
  go_wp2_with fail
  refine hins.out.mono ?_
  rintro e W1 ⟨⟨i,rfl⟩,b1⟩
  unfold Vm
  have B1:=hid b1
  clear b1 hins
  go_wp2
  go_ret
  exact ⟨rfl,B1.out.alloc B1.out.size _⟩
theorem zpx(h:CMach D lab w bm mb tv m [])(hN:zcg u us)(hw:StrsAt w bw (u::us))
  (hins:Hid (Cl 26 #[.slice (some ⟨bw,0,none⟩) (us.length+1) c] w λe w'=>(∃i,e= .returned (.tuple #[Vm i, .bool true]))/\Below w.heap.size w w')):
  Cl 14 #[ptr bm, .slice (some ⟨bw,0,none⟩) (us.length+1) c] w λe w'=>e= .returned (.int .i64 3)/\Below w.heap.size w w':=by
 have hc:=h.tc
 have h0:w.cell? ⟨bw,0,none⟩=some (.string u):=hw 0 yaj
 obtain ⟨ta,tk,rfl⟩:=Gf h.trow
 change w.cell? ⟨bm,1,none⟩=some (.slice ta 0 tk) at hc
 have H:=hid h
 clear h hw
 rcases Oy hN with h1|⟨h1,h2⟩
 all_goals
  go_enter Tryz.func14,Tryz.ntmps14
  go_wp2_with fail
  refine hins.out.mono ?_
  rintro e W1 ⟨⟨i,rfl⟩,b1⟩
  unfold Vm
  have B1:=hid b1
  clear b1 hins
  go_wp2
  go_ret
  exact ⟨rfl,B1.out.alloc B1.out.size _⟩
theorem znn{W:World}{ta:Option Addr}{tk:Nat}(h:CMach D lab W bm mb (.slice ta ts.length tk) m ts)(hk:ts.length=k+1): ∃tg,ta=some ⟨tg,0,none⟩/\W.cell? ⟨tg,k,none⟩=some (ptr (ts[k]'(by omega)).b)/\tg<W.heap.size:=by
 rcases h.trow.2 with ⟨e1,e2⟩|⟨g',cap',cur,e1,_⟩
 ·omega
 ·simp only [Value.slice.injEq] at e1
  obtain ⟨rfl,_,rfl⟩:=e1
  obtain ⟨q1,_,q3⟩:=Qm h.trow k yai
  refine ⟨g',rfl,?_,q3⟩
  rw [q1]
  simp [List.getElem?_eq_getElem (show k<ts.length by omega)]
theorem zuf(h:CMach D lab w bm mb tv m ts)(k:Nat)(hk:ts.length=k+1)(hf:(ts[k]'(by omega)).code.length=4000)(hN:zcg u us)(hw:StrsAt w bw (u::us))(hk3:k<3)
  (hins:Hid (Cl 26 #[.slice (some ⟨bw,0,none⟩) (us.length+1) c] w λe w'=>(∃i,e= .returned (.tuple #[Vm i, .bool true]))/\Below w.heap.size w w')):
  Cl 14 #[ptr bm, .slice (some ⟨bw,0,none⟩) (us.length+1) c] w λe w'=>e= .returned (.int .i64 5)/\Below w.heap.size w w':=by
 have hc:=h.tc
 have h0:w.cell? ⟨bw,0,none⟩=some (.string u):=hw 0 yaj
 obtain ⟨ta,tk,rfl⟩:=Gf h.trow
 have H:=hid h
 clear h hw
 rw [hk] at hc
 have hkk:wrap64 (((k+1:Nat):Int)- 1)=(k:Int):=yao
 have hk0: ¬(k:Int)<0:=yai
 rcases Oy hN with h1|⟨h1,h2⟩
 all_goals
  go_enter Tryz.func14,Tryz.ntmps14
  go_wp2_with fail
  refine hins.out.mono ?_
  rintro e W1 ⟨⟨i,rfl⟩,b1⟩
  unfold Vm
  have H1:=H.out.below b1
  obtain ⟨tg,rfl,p1,p2⟩:=znn H1 hk
  have hth:=H1.th k yai
  have c0:=hth.codec
  obtain ⟨ca,ck,hcv⟩:=Gf hth.crow
  rw [hcv,hf] at c0
  have hc1:=H1.tc
  rw [hk] at hc1
  have hl1:=Qd H1.sh
  have hl2:=Qd hth.sh
  have B1:=hid b1
  clear b1 hins H1 hth hcv
  generalize (ts[k]'(by omega)).b=tb at*
  go_wp2
  go_ret
  exact ⟨rfl,B1.out.alloc B1.out.size _⟩
end
theorem zev{g:Nat}(h:CMach D lab w bm mb tv m ts)(hD: ∀k,w.heap.size<=k->D k)(hk:k<ts.length)
  (ho:w3.ownsRow 0 88 9 (.slice (some ⟨g,0,none⟩) (ts[k].code.length+1) cp) (ts[k].code.length+1) (ts[k].code.flatMap Zw++Zw ic))
  (hc:Chg (λj _=>ts[k].cv.ownBlock=some j) w w3) (hg:ts[k].cv.ownBlock=some g\/g=w.heap.size):
  ∃lab',CMach D lab' (w3.setCell ⟨ts[k].b,0,none⟩ (.slice (some ⟨g,0,none⟩) (ts[k].code.length+1) cp)) bm mb tv m (ts.set k {ts[k] with cv:= .slice (some ⟨g,0,none⟩) (ts[k].code.length+1) cp,code:=ts[k].code++[ic]})/\Chg (λj _=>D j) w (w3.setCell ⟨ts[k].b,0,none⟩ (.slice (some ⟨g,0,none⟩) (ts[k].code.length+1) cp)):=by
 have lbm:=Qd h.sh
 have lmb:=Qd h.msh
 have hth:=h.th k hk
 have hlk:=h.lts k hk
 have ltb:=Qd hth.sh
 have hcl: ∀j,ts[k].cv.ownBlock=some j->j<w.heap.size:=λj hj=>(hth.crow.lt j hj).2
 have hset:Chg (λj i=>j=ts[k].b/\i=0) w3 (w3.setCell ⟨ts[k].b,0,none⟩ (.slice (some ⟨g,0,none⟩) (ts[k].code.length+1) cp)):=(Chg.refl (λj i=>j=ts[k].b/\i=0) w3).setCell (b:=ts[k].b) (o:=0) (λ_=>⟨rfl,rfl⟩) _
 have hall:Chg (λj i=>ts[k].cv.ownBlock=some j\/(j=ts[k].b/\i=0)) w (w3.setCell ⟨ts[k].b,0,none⟩ (.slice (some ⟨g,0,none⟩) (ts[k].code.length+1) cp)):=(hc.mono (λ_ _ _ e=> .inl e)).trans (hset.mono (λ_ _ _ e=> .inr e))
 have hgb:g≠ts[k].b:=by
  rcases hg with hg|hg
  ·intro e;exact Ev hlk.cv hlk.b.1 yaj (e▸hg)
  ·omega
 have hcod:(w3.setCell ⟨ts[k].b,0,none⟩ (.slice (some ⟨g,0,none⟩) (ts[k].code.length+1) cp)).cell? ⟨ts[k].b,0,none⟩=some (.slice (some ⟨g,0,none⟩) (ts[k].code.length+1) cp):=
  Qg ((hc.cell _ _ ltb (Ev hlk.cv hlk.b.1 yaj)).trans hth.codec) rfl
 generalize hW:w3.setCell ⟨ts[k].b,0,none⟩ (.slice (some ⟨g,0,none⟩) (ts[k].code.length+1) cp)=W at*
 let lab':Nat->Nat×Nat:=λj=>if j=g then (k+1,2) else lab j
 have hold: ∀j,j<w.heap.size->lab' j=lab j:=by
  intro j hj
  show (if j=g then _ else _)=_
  by_cases e:j=g
  ·rw [if_pos e]
   rcases hg with hg|hg
   ·rw [e];exact ((hlk.cv g hg).1).symm
   ·omega
  ·rw [if_neg e]
 have labs: ∀i (hi:i<ts.length),z5z D lab' i ts[i]:=λi hi=>by
  have l:=h.lts i hi
  have t:=h.th i hi
  exact ⟨⟨(hold _ (Qd t.sh)).trans l.b.1,l.b.2⟩,⟨(hold _ (Qd t.rsh)).trans l.rb.1,l.rb.2⟩,λg hg=>⟨(hold _ (t.crow.lt g hg).2).trans (l.cv g hg).1,(l.cv g hg).2⟩,λg hg=>⟨(hold _ (t.wrow.lt g hg).2).trans (l.wv g hg).1,(l.wv g hg).2⟩,λg hg=>⟨(hold _ (t.orow.lt g hg).2).trans (l.ov g hg).1,(l.ov g hg).2⟩⟩
 have notM: ∀j l,lab j=l->l≠(k+1,2)->l≠(k+1,0)->∀i,¬(ts[k].cv.ownBlock=some j\/(j=ts[k].b/\i=0)):=by
  rintro j l hj h1 h2 i (e|⟨e,_⟩)
  ·exact Ev hlk.cv hj h1 e
  ·exact h2 (hj.symm.trans (e▸hlk.b.1))
 have keepT: ∀o,o≠0->W.cell? ⟨ts[k].b,o,none⟩=w.cell? ⟨ts[k].b,o,none⟩:=λo ho'=>hall.cell _ _ ltb (by rintro (e|e);exact Ev hlk.cv hlk.b.1 yaj e;omega)
 refine ⟨lab',⟨(hall.shape _ lbm).trans h.sh,(hall.cell _ _ lbm (notM _ _ h.lb.1 yaj yaj _)).trans h.memc,(hall.cell _ _ lbm (notM _ _ h.lb.1 yaj yaj _)).trans h.tc,λj hj=>(hall.frozen _ _ lbm).trans (h.free j hj),(hall.shape _ lmb).trans h.msh,λj hj=>(hall.cell _ _ lmb (notM _ _ h.lm.1 yaj yaj _)).trans (h.mcell j hj),λj hj=>(hall.frozen _ _ lmb).trans (h.mfree j hj),?_,?_,⟨(hold _ lbm).trans h.lb.1,h.lb.2⟩,⟨(hold _ lmb).trans h.lm.1,h.lm.2⟩,λq hq=>⟨(hold _ (h.trow.lt q hq).2).trans (h.lt q hq).1,(h.lt q hq).2⟩,?_⟩,hall.mono ?_⟩
 ·have hr:=Qc h.trow hall (λq hq i=>notM _ _ (h.lt q hq).1 yaj yaj i)
  have e:(ts.set k {ts[k] with cv:= .slice (some ⟨g,0,none⟩) (ts[k].code.length+1) cp,code:=ts[k].code++[ic]}).map (λt=>ptr t.b)=ts.map λt=>ptr t.b:=by
   rw [List.map_set]
   apply List.ext_getElem
   ·simp
   ·intro j h1 h2
    rw [List.getElem_set]
    split
    ·rename_i e;subst e;simp
    ·rfl
  rw [e,List.length_set]
  exact hr
 ·intro i hi
  have hi':i<ts.length:=ybk
  rw [List.getElem_set]
  by_cases e:k=i
  ·subst e
   rw [if_pos rfl]
   exact {
    sh:=(hall.shape _ ltb).trans hth.sh
    codec:=hcod
    crow:=by
     have:=Qc ho hset (λq hq i e=>by simp [Value.ownBlock] at hq;omega)
     simpa using this
    pc:=(keepT 1 yal).trans hth.pc
    regs:=(keepT 2 yal).trans hth.regs
    rsh:=(hall.shape _ (Qd hth.rsh)).trans hth.rsh
    rcell:=λj hj=>(hall.cell _ _ (Qd hth.rsh) (notM _ _ hlk.rb.1 yaj yaj _)).trans (hth.rcell j hj)
    rfree:=λj hj=>(hall.frozen _ _ (Qd hth.rsh)).trans (hth.rfree j hj)
    waits:=(keepT 3 yal).trans hth.waits
    wrow:=Qc hth.wrow hall (λq hq i=>notM _ _ (hlk.wv q hq).1 yaj yaj i)
    outc:=(keepT 4 yal).trans hth.outc
    orow:=Qc hth.orow hall (λq hq i=>notM _ _ (hlk.ov q hq).1 yaj yaj i)
    state:=(keepT 5 yal).trans hth.state
    free:=λj hj=>(hall.frozen _ _ ltb).trans (hth.free j hj)}
  ·rw [if_neg e]
   have l:=h.lts i hi'
   have ne: ∀q x,lab q=(i+1,x)->∀j,¬(ts[k].cv.ownBlock=some q\/(q=ts[k].b/\j=0)):=λq x hq j=>notM q _ hq yan yan j
   exact (h.th i hi').keep hall (ne _ _ l.b.1) (ne _ _ l.rb.1) (λg hg=>ne _ _ (l.cv g hg).1) (λg hg=>ne _ _ (l.wv g hg).1) (λg hg=>ne _ _ (l.ov g hg).1)
 ·intro i hi
  have hi':i<ts.length:=ybk
  rw [List.getElem_set]
  by_cases e:k=i
  ·subst e
   rw [if_pos rfl]
   have l:=labs k hk
   refine ⟨l.b,l.rb,?_,l.wv,l.ov⟩
   intro q hq
   simp [Value.ownBlock] at hq
   subst hq
   refine ⟨?_,?_⟩
   ·show (if g=g then _ else _)=_
    rw [if_pos rfl]
   ·rcases hg with hg|hg
    ·exact (hlk.cv g hg).2
    ·exact hD g yai
  ·rw [if_neg e]
   exact labs i hi'
 ·rintro j i hj (e|⟨rfl,_⟩)
  ·exact (hlk.cv j e).2
  ·exact hlk.b.2
def zno(w:World)(ic:Ic):World:=((w.alloc (.cells #[.string (dOf ic).word, .int .i64 (dOf ic).d, .bool (dOf ic).a.reg, .int .i64 (dOf ic).a.v, .bool (dOf ic).b.reg, .int .i64 (dOf ic).b.v, .bool (dOf ic).c.reg, .int .i64 (dOf ic).c.v, .int .i64 (dOf ic).k] 88)).alloc (.cells #[.string (dOf ic).word, .int .i64 (dOf ic).d, .bool (dOf ic).a.reg, .int .i64 (dOf ic).a.v, .bool (dOf ic).b.reg, .int .i64 (dOf ic).b.v, .bool (dOf ic).c.reg, .int .i64 (dOf ic).c.v, .int .i64 (dOf ic).k] 88)).drew
theorem Uq(w:World)(ic:Ic):Chg (λ_ _=>False) w (zno w ic):=(((Chg.refl _ w).alloc _).alloc _).drew
theorem Gg(w:World)(ic:Ic):(zno w ic).heap.size=w.heap.size+2:=by simp [zno]
theorem zx8(h:w.ownsRow 0 e sz v n xs):(zno w ic).ownsRow 0 e sz v n xs:=Qc h (Uq w ic) (λ_ _ _ e=>e)
theorem zew(h:CMach D lab w bm mb tv m ts)(ic:Ic):CMach D lab (zno w ic) bm mb tv m ts:=h.keep (Uq w ic) (λ_ _ _ e=>e)
theorem zch(w:World)(ic:Ic): ∀j u',(Zw ic)[j]?=some u'->(zno w ic).cell? ((⟨w.heap.size+1,0,none⟩:Addr).add j)=some u':=by
 intro j u' hj
 have hs:(w.alloc (.cells #[.string (dOf ic).word, .int .i64 (dOf ic).d, .bool (dOf ic).a.reg, .int .i64 (dOf ic).a.v, .bool (dOf ic).b.reg, .int .i64 (dOf ic).b.v, .bool (dOf ic).c.reg, .int .i64 (dOf ic).c.v, .int .i64 (dOf ic).k] 88)).heap.size=w.heap.size+1:=yaj
 have:=World.cell?_alloc_new (w.alloc (.cells #[.string (dOf ic).word, .int .i64 (dOf ic).d, .bool (dOf ic).a.reg, .int .i64 (dOf ic).a.v, .bool (dOf ic).b.reg, .int .i64 (dOf ic).b.v, .bool (dOf ic).c.reg, .int .i64 (dOf ic).c.v, .int .i64 (dOf ic).k] 88)) (Zw ic).toArray 88 j
 rw [hs] at this
 have e:(⟨w.heap.size+1,0,none⟩:Addr).add j=⟨w.heap.size+1,j,none⟩:=by simp [Addr.add];omega
 rw [e]
 refine Eq.trans ?_ (this.trans ?_)
 ·rfl
 ·simpa using hj
theorem Oe(ic:Ic): ∀u'∈Zw ic,u'.oneCell'=true:=by
 intro u' hu
 simp only [Zw,List.mem_cons,List.not_mem_nil,or_false] at hu
 rcases hu with rfl|rfl|rfl|rfl|rfl|rfl|rfl|rfl|rfl<;>rfl
theorem zx9(h:CMach D lab w bm mb tv m ts)(hk:k<ts.length)(hc:Chg (λj _=>ts[k].cv.ownBlock=some j) (zno w ic) w3):w3.cell? ⟨ts[k].b,0,none⟩=some ts[k].cv:=
 (hc.cell _ 0 (by rw [Gg];have:=Qd (h.th k hk).sh;omega) (Ev (h.lts k hk).cv (h.lts k hk).b.1 yaj)).trans (((Uq w ic).cell _ 0 (Qd (h.th k hk).sh) (λe=>e)).trans (h.th k hk).codec)
theorem zya(h:CMach D lab w bm mb tv m ts)(hk:k<ts.length)(hc:Chg (λj _=>ts[k].cv.ownBlock=some j) (zno w ic) w3):w3.frozen? ⟨ts[k].b,0,none⟩=false:=
 (hc.frozen _ 0 (by rw [Gg];have:=Qd (h.th k hk).sh;omega)).trans (((Uq w ic).frozen _ 0 (Qd (h.th k hk).sh)).trans ((h.th k hk).free 0 yai))
theorem z4d(h:CMach D lab w bm mb tv m ts)(hk:k<ts.length)(hc:Chg (λj _=>ts[k].cv.ownBlock=some j) (zno w ic) w3):w3.cell? ⟨bm,1,none⟩=some tv:=
 (hc.cell _ 1 (by rw [Gg];have:=Qd h.sh;omega) (Ev (h.lts k hk).cv h.lb.1 yaj)).trans (((Uq w ic).cell _ 1 (Qd h.sh) (λe=>e)).trans h.tc)
theorem z4e{tg tk:Nat}(h:CMach D lab w bm mb (.slice (some ⟨tg,0,none⟩) n tk) m ts)(hk:k<ts.length)(htg:tg<w.heap.size)(hv:w.cell? ⟨tg,k,none⟩=some v)(hc:Chg (λj _=>ts[k].cv.ownBlock=some j) (zno w ic) w3):w3.cell? ⟨tg,k,none⟩=some v:=
 (hc.cell _ k (by rw [Gg];omega) (Ev (h.lts k hk).cv (h.lt tg rfl).1 yaj)).trans (((Uq w ic).cell _ k htg (λe=>e)).trans hv)
section
variable{D:Nat->Prop}{lab:Nat->Nat×Nat}{w:World}{bm mb bw c:Nat}{tv:Value}{m:Nat->Int}{ts:List CT}{us:List ByteArray}{u:ByteArray}
theorem zyb(h:CMach D lab w bm mb tv m ts)(hD: ∀k,w.heap.size<=k->D k)(k:Nat)(hk:ts.length=k+1)(hf:(ts[k]'(by omega)).code.length<4000)(hN:zcg u us)(hw:StrsAt w bw (u::us))(ic:Ic)(hk3:k<3)
  (hins:Hid (Cl 26 #[.slice (some ⟨bw,0,none⟩) (us.length+1) c] w λe w'=>e= .returned (.tuple #[Vm (dOf ic), .bool true])/\Below w.heap.size w w')):
  Cl 14 #[ptr bm, .slice (some ⟨bw,0,none⟩) (us.length+1) c] w λe w'=>e= .returned (.int .i64 0)/\(∃lab' cv,CMach D lab' w' bm mb tv m (ts.set k {ts[k]'(by omega) with cv:=cv,code:=(ts[k]'(by omega)).code++[ic]}))/\Chg (λj _=>D j) w w':=by
 obtain ⟨i0,hi,hz0,hz1,hz2⟩:=info_parts zx7
 have hc:=h.tc
 have h0:w.cell? ⟨bw,0,none⟩=some (.string u):=hw 0 yaj
 obtain ⟨ta,tk,rfl⟩:=Gf h.trow
 have H:=hid h
 clear h hw
 unfold Vm at hins
 rw [hk] at hc
 have hkk:wrap64 (((k+1:Nat):Int)- 1)=(k:Int):=yao
 have hk0: ¬(k:Int)<0:=yai
 have hkb:(k:Int)<(k:Int)+1:=yai
 go_enter Tryz.func14,Tryz.ntmps14
 go_upto_region 2 with fail
 go_cut [22] (λs22 wx=>s22= .bool false/\wx=w)
 case first=>
  rcases Oy hN with h1|⟨h1,h2⟩
  all_goals
   go_wp2_with fail
   go_meet
   case rel=>exact ⟨rfl,rfl⟩
 case rest=>
  obtain ⟨rfl,rfl⟩:=hcut
  go_wp2_with fail
  refine hins.out.mono ?_
  rintro e W1 ⟨rfl,b1⟩
  have H1:=H.out.below b1
  obtain ⟨tg,rfl,p1,p2⟩:=znn H1 hk
  have hth:=H1.th k yai
  have c0:=hth.codec
  have f0:=hth.free 0 yai
  obtain ⟨ca,ck,hcv⟩:=Gf hth.crow
  rw [hcv] at c0
  have hne: ¬((ts[k]'(by omega)).code.length:Int)=4000:=yai
  have hc1:=H1.tc
  rw [hk] at hc1
  have hl1:=Qd H1.sh
  have hl2:=Qd hth.sh
  have hl3:bm<W1.heap.size+1:=yai
  have hl4:(ts[k]'(by omega)).b<W1.heap.size+1:=yai
  have hl5:tg<W1.heap.size+1:=yai
  have B1:=hid b1
  have HH1:=hid H1
  have hkl:k<ts.length:=yai
  have HO1:=hid (zx8 (ic:=ic) hth.crow)
  rw [hcv] at HO1
  have hm1:(ts[k]'(by omega)).code.length+1<=maxLen:=yap
  have hm2:((ts[k]'(by omega)).code.length+1)*80<=140737488355328:=yai
  clear b1 hins H1 hth
  have HCB:Hid (∀w3,Chg (λj _=>(Value.slice ca (ts[k]'(by omega)).code.length ck).ownBlock=some j) (zno W1 ic) w3->w3.cell? ⟨(ts[k]'(by omega)).b,0,none⟩=some (.slice ca (ts[k]'(by omega)).code.length ck)):=hid (by rw [<-hcv];exact λw3 hch=>zx9 HH1.out hkl hch)
  have HFB:Hid (∀w3,Chg (λj _=>(Value.slice ca (ts[k]'(by omega)).code.length ck).ownBlock=some j) (zno W1 ic) w3->w3.frozen? ⟨(ts[k]'(by omega)).b,0,none⟩=false):=hid (by rw [<-hcv];exact λw3 hch=>zya HH1.out hkl hch)
  have HBM:Hid (∀w3,Chg (λj _=>(Value.slice ca (ts[k]'(by omega)).code.length ck).ownBlock=some j) (zno W1 ic) w3->w3.cell? ⟨bm,1,none⟩=some (.slice (some ⟨tg,0,none⟩) (k+1) tk)):=hid (by rw [<-hcv,<-hk];exact λw3 hch=>z4d HH1.out hkl hch)
  have HTG:Hid (∀w3,Chg (λj _=>(Value.slice ca (ts[k]'(by omega)).code.length ck).ownBlock=some j) (zno W1 ic) w3->w3.cell? ⟨tg,k,none⟩=some (ptr (ts[k]'(by omega)).b)):=hid (by rw [<-hcv];exact λw3 hch=>z4e HH1.out hkl p2 p1 hch)
  have hxb:(ts[k]'(by omega)).b≠bm:=λe=>by have h1:=(HH1.out.lts k hkl).b.1;rw [e,HH1.out.lb.1] at h1;simp at h1
  have hxt:(ts[k]'(by omega)).b≠tg:=λe=>by have h1:=(HH1.out.lts k hkl).b.1;rw [e,(HH1.out.lt tg rfl).1] at h1;simp at h1
  have HCV:=hid hcv
  clear hcv
  generalize hTb:(ts[k]'(by omega)).b=tb at*
  generalize hTl:(ts[k]'(by omega)).code.length=tl at*
  go_upto_region 12 with fail
  go_cut [61] (λs61 wx=>s61= .bool false/\wx=W1.alloc (.cells #[.string (dOf ic).word, .int .i64 (dOf ic).d, .bool (dOf ic).a.reg, .int .i64 (dOf ic).a.v, .bool (dOf ic).b.reg, .int .i64 (dOf ic).b.v, .bool (dOf ic).c.reg, .int .i64 (dOf ic).c.v, .int .i64 (dOf ic).k] 88))
  case first=>
   go_wp2_with fail
   go_meet
   case rel=>exact ⟨by rw [show ((tl:Int)==4000)=false from by simpa using hne],rfl⟩
  obtain ⟨rfl,rfl⟩:=hcut
  go_wp2_with fail
  refine wp_region_held_drew (S:=(λw'=>w'.cell? ⟨bm,1,none⟩=some (.slice (some ⟨tg,0,none⟩) (k+1) tk)/\w'.cell? ⟨tg,k,none⟩=some (ptr tb))) yak ?_ (λhHeld=>?_)
  ·(try dsimp only);go_keep
  refine Qa 0 (h:=Qa 1 (h:=Qa 2 (h:=Qa 3 (h:=Qa 4 (h:=Qa 5 (h:=Qa 6 (h:=Qa 7 (h:=Qa 8 (h:=Qa 9 (h:=Qa 10 (h:=Qa 11 (h:=Qa 12 (h:=Qa 13 (h:=Qa 14 (h:=Qa 15 (h:=?_))))))))))))))))
  refine z6u [16,17] (.cons rfl (λKQ hKQ=>?_) (.cons rfl (λKQ hKQ=>?_) .nil))
  go_simp
  refine hKQ.out _ _ ?_ (λhHeld=>?_)
  ·(try dsimp only);go_keep
  clear hKQ KQ
  refine z6u [17] (.cons rfl (λKQ hKQ=>?_) .nil)
  go_simp
  refine hKQ.out _ _ ?_ (λhHeld=>?_)
  ·(try dsimp only);go_keep
  clear hKQ KQ
  refine z6u [18] (.cons rfl (λKQ hKQ=>?_) .nil)
  go_simp
  rotate_left
  go_simp
  refine hKQ.out _ _ ?_ (λhHeld=>?_)
  ·(try dsimp only);go_keep
  clear hKQ KQ
  refine z6u [16,18] (.cons rfl (λKQ hKQ=>?_) (.cons rfl (λKQ hKQ=>?_) .nil))
  go_simp
  refine hKQ.out _ _ ?_ (λhHeld=>?_)
  ·(try dsimp only);go_keep
  clear hKQ KQ
  refine z6u [18] (.cons rfl (λKQ hKQ=>?_) .nil)
  go_simp
  rotate_left
  go_simp
  refine hKQ.out _ _ ?_ (λhHeld=>?_)
  ·(try dsimp only);go_keep
  clear hKQ KQ
  refine z6u [16] (.cons rfl (λKQ hKQ=>?_) .nil)
  go_simp
  rotate_left
  all_goals
   refine hKQ.out _ _ ?_ (λhHeld=>?_)
   ·(try dsimp only);go_keep
   clear hKQ KQ
   refine z6u [19] (.cons rfl (λKQ hKQ=>?_) .nil)
   (refine Je rfl (.tmp 78) (.tmp 80) 81 rfl 88 i0 (.agg #[.string ⟨#[]⟩, .int .i64 0, .bool false, .int .i64 0, .bool false, .int .i64 0, .bool false, .int .i64 0, .int .i64 0]) 9 80 yal Tryz.underlying81 hi hz0 hz1 hz2 rfl (.slice ca tl ck) tl ((ts[k]'(by omega)).code.flatMap Zw) rfl ?own ⟨W1.heap.size+1,0,none⟩ (Zw ic) rfl rfl ?cel (Oe ic) hm1 hm2 ?_;(case own=>exact HO1.out);(case cel=>exact zch W1 ic);intro q cp w3 ho hch hg;have hcb:=HCB.out w3 hch;have hfb:=HFB.out w3 hch;have hbb:=HBM.out w3 hch;have htt:=HTG.out w3 hch;have HO:=hid ho;have HC:=hid hch;have HG:=hid hg;clear ho hch hg)
   refine hKQ.out _ _ ?_ (λhHeld=>?_)
   ·(try dsimp only);go_keep
   clear hKQ KQ
   refine Qa 20 (h:=Qa 21 (h:=?_))
   refine z6u [22] (.cons rfl (λKQ hKQ=>?_) .nil)
   go_simp
   refine hKQ.out _ _ ?_ (λhHeld=>?_)
   ·(try dsimp only);go_keep
   clear hKQ KQ
   refine wpAnyH_done yak ?_ _
   go_wp2
   go_ret
   subst hTb
   subst hTl
   rw [<-HCV.out] at HC HG
   obtain ⟨lab',r1,r2⟩:=zev (zew HH1.out ic) (λj hj=>hD j (by rw [Gg] at hj;have:=B1.out.size;omega)) hkl HO.out HC.out HG.out
   exact ⟨rfl,⟨lab',_,r1⟩,((Chg.of_below B1.out).trans ((Uq W1 ic).mono (λ_ _ _ e=>e.elim))).trans r2⟩
end
end Go.Proofs.YtphcopbffecceaaGreatDoor
