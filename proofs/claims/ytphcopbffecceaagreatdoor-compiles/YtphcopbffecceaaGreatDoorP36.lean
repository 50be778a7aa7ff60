import Derived.Test.YtphcopbffecceaaGreatDoorP35
set_option maxRecDepth 100000
set_option maxHeartbeats 4000000
namespace Go.Proofs.YtphcopbffecceaaGreatDoor
open Go.RowKit
variable{b k m n:Nat}{i:DI}{W W' w:World}{us:List ByteArray}{u:ByteArray}
def z58(x:Vl):Value:= .agg #[.bool x.reg, .int .i64 x.v]
def zbo(u:ByteArray):Vl×Bool:=match Jt u with
 |some r=>(⟨true,r⟩,true)
 |none=>(⟨false,(Qk u).getD 0⟩,(Qk u).isSome)
section
variable(w:World)(u:ByteArray)
theorem zxx(r:Nat)(h:Hid (Jt u=some r)):
  Cl 47 #[.string u] w λe w'=>e= .returned (.tuple #[.agg #[.bool true, .int .i64 r], .bool true])/\Below w.heap.size w w':=by
 have K:=λW=>El W u
 rw [h.out] at K
 simp only [Option.getD_some,Option.isSome_some] at K
 have K:=hid K
 have hr:r<8:=by
  have h:=h.out
  unfold Jt at h
  split at h
  ·split at h
   ·rename_i hc;simp at h;omega
   ·simp at h
  ·simp at h
 go_enter Tryz.func47,Tryz.ntmps47
 go_wp2_with fail
 refine (K.out _).mono ?_
 rintro e W1 ⟨rfl,rfl⟩
 go_wp2
 refine ⟨rfl, .tuple #[.agg #[.bool true, .int .i64 r], .bool true],?_,rfl,(Below.refl _ w).alloc (Nat.le_refl _) _⟩
 simp [results,Tryz.results47,go_sem]
theorem zxy(v:Int)(ok:Bool)(h:Hid (Jt u=none))(h1:Hid ((Qk u).getD 0=v))(h2:Hid ((Qk u).isSome=ok)):
  Cl 47 #[.string u] w λe w'=>e= .returned (.tuple #[.agg #[.bool false, .int .i64 v], .bool ok])/\Below w.heap.size w w':=by
 have K:=λW=>El W u
 rw [h.out] at K
 simp only [Option.getD_none,Option.isSome_none] at K
 have K:=hid K
 have K2:=λW=>Ym W u
 unfold Oc at K2
 rw [h1.out,h2.out] at K2
 have K2:=hid K2
 go_enter Tryz.func47,Tryz.ntmps47
 go_wp2_with fail
 refine (K.out _).mono ?_
 rintro e W1 ⟨rfl,rfl⟩
 go_wp2_with fail
 refine (K2.out _).mono ?_
 rintro e W2 ⟨rfl,rfl⟩
 go_wp2
 refine ⟨rfl, .tuple #[.agg #[.bool false, .int .i64 v], .bool ok],?_,rfl,(Below.refl _ w).alloc (Nat.le_refl _) _⟩
 simp [results,Tryz.results47,go_sem]
theorem zxz:Cl 47 #[.string u] w λe w'=>e= .returned (.tuple #[z58 (zbo u).1, .bool (zbo u).2])/\Below w.heap.size w w':=by
 unfold zbo
 cases h:Jt u with
 |some r=>exact zxx w u r h
 |none=>exact zxy w u _ _ h rfl rfl
end
structure DI where
 word:ByteArray
 d:Int
 a:Vl
 b:Vl
 c:Vl
 k:Int
def Vm(i:DI):Value:= .agg #[.string i.word, .int .i64 i.d, .bool i.a.reg, .int .i64 i.a.v, .bool i.b.reg, .int .i64 i.b.v, .bool i.c.reg, .int .i64 i.c.v, .int .i64 i.k]
def Qz(x:UInt8)(u:ByteArray)(i:DI):DI×Bool:=
 if x=100 then ({i with d:=((Jt u).getD 0:Nat)},(Jt u).isSome)
 else if x=97 then ({i with a:=(zbo u).1},(zbo u).2)
 else if x=98 then ({i with b:=(zbo u).1},(zbo u).2)
 else if x=99 then ({i with c:=(zbo u).1},(zbo u).2)
 else if x=107 then ({i with k:=(Qk u).getD 0},(Qk u).isSome)
 else if x=116 then ({i with k:=(Qk u).getD 0},(Qk u).isSome&&decide (0<=(Qk u).getD 0)&&decide ((Qk u).getD 0<=4000))
 else ({i with k:=(Qk u).getD 0},(Qk u).isSome&&decide (1<=(Qk u).getD 0)&&decide ((Qk u).getD 0<=9))
def Vn:List UInt8->List ByteArray->DI->DI×Bool
 |x::f,u::ws,i=>if (Qz x u i).2=true then Vn f ws (Qz x u i).1 else ((Qz x u i).1,false)
 |_,_,i=>(i,true)
def Qr(u:ByteArray):DI:=⟨u,0,⟨false,0⟩,⟨false,0⟩,⟨false,0⟩,0⟩
structure DIAt(w:World)(n:Nat)(i:DI):Prop where
 c0:w.cell? ⟨n,0,none⟩=some (.string i.word)
 c1:w.cell? ⟨n,1,none⟩=some (.int .i64 i.d)
 c2:w.cell? ⟨n,2,none⟩=some (.bool i.a.reg)
 c3:w.cell? ⟨n,3,none⟩=some (.int .i64 i.a.v)
 c4:w.cell? ⟨n,4,none⟩=some (.bool i.b.reg)
 c5:w.cell? ⟨n,5,none⟩=some (.int .i64 i.b.v)
 c6:w.cell? ⟨n,6,none⟩=some (.bool i.c.reg)
 c7:w.cell? ⟨n,7,none⟩=some (.int .i64 i.c.v)
 c8:w.cell? ⟨n,8,none⟩=some (.int .i64 i.k)
theorem DIAt.below{w':World}(h:DIAt w n i)(hb:Below m w w')(hn:n<m):DIAt w' n i:=
 have k: ∀o v,w.cell? ⟨n,o,none⟩=some v->w'.cell? ⟨n,o,none⟩=some v:=λo _ e=>(hb.cell (p:=⟨n,o,none⟩) hn).trans e
 ⟨k _ _ h.c0,k _ _ h.c1,k _ _ h.c2,k _ _ h.c3,k _ _ h.c4,k _ _ h.c5,k _ _ h.c6,k _ _ h.c7,k _ _ h.c8⟩
theorem DIAt.new(w:World)(i:DI)(t:TypeId):DIAt (w.alloc (.cells #[.string i.word, .int .i64 i.d, .bool i.a.reg, .int .i64 i.a.v, .bool i.b.reg, .int .i64 i.b.v, .bool i.c.reg, .int .i64 i.c.v, .int .i64 i.k] t)) w.heap.size i:=
 ⟨World.cell?_alloc_new _ _ _ 0,World.cell?_alloc_new _ _ _ 1,World.cell?_alloc_new _ _ _ 2,World.cell?_alloc_new _ _ _ 3,World.cell?_alloc_new _ _ _ 4,World.cell?_alloc_new _ _ _ 5,World.cell?_alloc_new _ _ _ 6,World.cell?_alloc_new _ _ _ 7,World.cell?_alloc_new _ _ _ 8⟩
def Vf(w:World)(n:Nat)(i:DI):World:=((((((((w.setCell ⟨n,0,none⟩ (.string i.word)).setCell ⟨n,1,none⟩ (.int .i64 i.d)).setCell ⟨n,2,none⟩ (.bool i.a.reg)).setCell ⟨n,3,none⟩ (.int .i64 i.a.v)).setCell ⟨n,4,none⟩ (.bool i.b.reg)).setCell ⟨n,5,none⟩ (.int .i64 i.b.v)).setCell ⟨n,6,none⟩ (.bool i.c.reg)).setCell ⟨n,7,none⟩ (.int .i64 i.c.v)).setCell ⟨n,8,none⟩ (.int .i64 i.k)
theorem Qe{o i:Nat}{v u:Value}(h:w.cell? ⟨k,i,none⟩=some u)(e:k≠b\/i≠o):(w.setCell ⟨b,o,none⟩ v).cell? ⟨k,i,none⟩=some u:=(Qb e).trans h
theorem Zj{j:DI}(h:DIAt w n j)(i:DI):DIAt (Vf w n i) n i:=by
 obtain ⟨h0,h1,h2,h3,h4,h5,h6,h7,h8⟩:=h
 unfold Vf
 constructor
 ·exact Qe (Qe (Qe (Qe (Qe (Qe (Qe (Qe (Qg h0 rfl) yai) yai) yai) yai) yai) yai) yai) yai
 ·exact Qe (Qe (Qe (Qe (Qe (Qe (Qe (Qg (Qe h1 yai) rfl) yai) yai) yai) yai) yai) yai) yai
 ·exact Qe (Qe (Qe (Qe (Qe (Qe (Qg (Qe (Qe h2 yai) yai) rfl) yai) yai) yai) yai) yai) yai
 ·exact Qe (Qe (Qe (Qe (Qe (Qg (Qe (Qe (Qe h3 yai) yai) yai) rfl) yai) yai) yai) yai) yai
 ·exact Qe (Qe (Qe (Qe (Qg (Qe (Qe (Qe (Qe h4 yai) yai) yai) yai) rfl) yai) yai) yai) yai
 ·exact Qe (Qe (Qe (Qg (Qe (Qe (Qe (Qe (Qe h5 yai) yai) yai) yai) yai) rfl) yai) yai) yai
 ·exact Qe (Qe (Qg (Qe (Qe (Qe (Qe (Qe (Qe h6 yai) yai) yai) yai) yai) yai) rfl) yai) yai
 ·exact Qe (Qg (Qe (Qe (Qe (Qe (Qe (Qe (Qe h7 yai) yai) yai) yai) yai) yai) yai) rfl) yai
 ·exact Qg (Qe (Qe (Qe (Qe (Qe (Qe (Qe (Qe h8 yai) yai) yai) yai) yai) yai) yai) yai) rfl
theorem Jn{a:World}(h:Below m a w)(hn:m<=n)(i:DI):Below m a (Vf w n i):=
 ((((((((h.setCell hn _).setCell hn _).setCell hn _).setCell hn _).setCell hn _).setCell hn _).setCell hn _).setCell hn _).setCell hn _
theorem DIAt.setA(h:DIAt W n i)(x:Vl):DIAt ((W.setCell ⟨n,2,none⟩ (.bool x.reg)).setCell ⟨n,3,none⟩ (.int .i64 x.v)) n {i with a:=x}:=
 ⟨Qe (Qe h.c0 yai) yai,Qe (Qe h.c1 yai) yai,Qe (Qg h.c2 rfl) yai,Qg (Qe h.c3 yai) rfl,Qe (Qe h.c4 yai) yai,Qe (Qe h.c5 yai) yai,Qe (Qe h.c6 yai) yai,Qe (Qe h.c7 yai) yai,Qe (Qe h.c8 yai) yai⟩
theorem DIAt.setB(h:DIAt W n i)(x:Vl):DIAt ((W.setCell ⟨n,4,none⟩ (.bool x.reg)).setCell ⟨n,5,none⟩ (.int .i64 x.v)) n {i with b:=x}:=
 ⟨Qe (Qe h.c0 yai) yai,Qe (Qe h.c1 yai) yai,Qe (Qe h.c2 yai) yai,Qe (Qe h.c3 yai) yai,Qe (Qg h.c4 rfl) yai,Qg (Qe h.c5 yai) rfl,Qe (Qe h.c6 yai) yai,Qe (Qe h.c7 yai) yai,Qe (Qe h.c8 yai) yai⟩
theorem DIAt.setC(h:DIAt W n i)(x:Vl):DIAt ((W.setCell ⟨n,6,none⟩ (.bool x.reg)).setCell ⟨n,7,none⟩ (.int .i64 x.v)) n {i with c:=x}:=
 ⟨Qe (Qe h.c0 yai) yai,Qe (Qe h.c1 yai) yai,Qe (Qe h.c2 yai) yai,Qe (Qe h.c3 yai) yai,Qe (Qe h.c4 yai) yai,Qe (Qe h.c5 yai) yai,Qe (Qg h.c6 rfl) yai,Qg (Qe h.c7 yai) rfl,Qe (Qe h.c8 yai) yai⟩
theorem DIAt.setK(h:DIAt W n i)(x:Int):DIAt (W.setCell ⟨n,8,none⟩ (.int .i64 x)) n {i with k:=x}:=
 ⟨Qe h.c0 yai,Qe h.c1 yai,Qe h.c2 yai,Qe h.c3 yai,Qe h.c4 yai,Qe h.c5 yai,Qe h.c6 yai,Qe h.c7 yai,Qg h.c8 rfl⟩
theorem DIAt.setD(h:DIAt W n i)(x:Int):DIAt (W.setCell ⟨n,1,none⟩ (.int .i64 x)) n {i with d:=x}:=
 ⟨Qe h.c0 yai,Qg h.c1 rfl,Qe h.c2 yai,Qe h.c3 yai,Qe h.c4 yai,Qe h.c5 yai,Qe h.c6 yai,Qe h.c7 yai,Qe h.c8 yai⟩
theorem Ug(W:World)(n o:Nat)(v:Value):Chg (λk _=>k=n) W (W.setCell ⟨n,o,none⟩ v):=(Chg.refl (λk (_:Nat)=>k=n) W).setCell (b:=n) (o:=o) (λ_=>rfl) v
theorem zce(W:World)(n o o':Nat)(v v':Value):Chg (λk _=>k=n) W ((W.setCell ⟨n,o,none⟩ v).setCell ⟨n,o',none⟩ v'):=((Chg.refl (λk (_:Nat)=>k=n) W).setCell (b:=n) (o:=o) (λ_=>rfl) v).setCell (b:=n) (o:=o') (λ_=>rfl) v'
theorem zt4(f:ByteArray)(ws:List ByteArray)(i:DI)(j:Nat)(h:j<f.size)(h2:j<ws.length):
  Vn (f.data.toList.drop j) (ws.drop j) i=if (Qz f[j] ws[j] i).2=true then Vn (f.data.toList.drop (j+1)) (ws.drop (j+1)) (Qz f[j] ws[j] i).1 else ((Qz f[j] ws[j] i).1,false):=by
 have hj:j<f.data.toList.length:=ycb
 rw [List.drop_eq_getElem_cons hj,List.drop_eq_getElem_cons h2,Vn]
 simp [ByteArray.getElem_eq_getElem_data]
structure InsInv(w:World)(b:Nat)(us:List ByteArray)(W:World)(i:DI):Prop where
 ins:DIAt W (w.heap.size+1) i
 res:DIAt W w.heap.size (Qr ⟨#[]⟩)
 fi: ∀j,W.frozen? ⟨w.heap.size+1,j,none⟩=false
 fr: ∀j,W.frozen? ⟨w.heap.size,j,none⟩=false
 bel:Below w.heap.size w W
 siz:w.heap.size+2<=W.heap.size
 strs:StrsAt W b us
theorem InsInv.below(h:InsInv w b us W i)(hb:b<w.heap.size)(hB:Below W.heap.size W W'):InsInv w b us W' i where
 ins:=h.ins.below hB yco
 res:=h.res.below hB yco
 fi:=λj=>(hB.frozen (p:=⟨w.heap.size+1,j,none⟩) (by show w.heap.size+1<_;have:=h.siz;omega)).trans (h.fi j)
 fr:=λj=>(hB.frozen (p:=⟨w.heap.size,j,none⟩) (by show w.heap.size<_;have:=h.siz;omega)).trans (h.fr j)
 bel:=h.bel.trans (hB.mono yco)
 siz:=Nat.le_trans h.siz hB.size
 strs:=h.strs.keep (n:=W.heap.size) yco hB
theorem InsInv.chg{i':DI}(h:InsInv w b us W i)(hb:b<w.heap.size)(hc:Chg (λk _=>k=w.heap.size+1) W W')(hi:DIAt W' (w.heap.size+1) i'):InsInv w b us W' i':=by
 have hs:=h.siz
 have k: ∀o v,W.cell? ⟨w.heap.size,o,none⟩=some v->W'.cell? ⟨w.heap.size,o,none⟩=some v:=λo _ e=>(hc.cell _ o yai yai).trans e
 have r:=h.res
 exact ⟨hi,⟨k _ _ r.c0,k _ _ r.c1,k _ _ r.c2,k _ _ r.c3,k _ _ r.c4,k _ _ r.c5,k _ _ r.c6,k _ _ r.c7,k _ _ r.c8⟩,λj=>(hc.frozen _ j yai).trans (h.fi j),λj=>(hc.frozen _ j yai).trans (h.fr j),h.bel.trans (hc.below yai (λk i e=>by omega)),Nat.le_trans hs hc.size,λj hj=>(hc.cell b j yai yai).trans (h.strs j hj)⟩
section
variable(w:World)(b c:Nat)(u:ByteArray)(ws:List ByteArray)
theorem zt5(hb:b<w.heap.size)(hw:Hid (StrsAt w b (u::ws)))(hv:Hid (∀j,j<12->Jc j≠u))(hs:Hid (∀j (h:j<Xy.length),Xy[j]≠u)):
  Cl 26 #[.slice (some ⟨b,0,none⟩) (ws.length+1) c] w λe w'=>(∃i,e= .returned (.tuple #[Vm i, .bool false]))/\Below w.heap.size w w':=by
 have h0:w.cell? ⟨b,0,none⟩=some (.string u):=hw.out 0 yaj
 go_enter Tryz.func26,Tryz.ntmps26
 go_wp2_with fail
 generalize hA:w.alloc _=WA
 generalize hB:WA.alloc _=WB
 have sA:WA.heap.size=w.heap.size+1:=yb5
 have bA:Below w.heap.size w WB:=ydc
 have sB:WB.heap.size=w.heap.size+2:=by rw [<-hB];simp [sA]
 have dI:DIAt WB (w.heap.size+1) (Qr u):=ydd
 have dR:DIAt WB w.heap.size (Qr ⟨#[]⟩):=yde
 have fR: ∀j,WB.frozen? ⟨w.heap.size,j,none⟩=false:=ydf
 clear hA hB
 refine (zpp WB u hv hs).mono ?_
 rintro e W1 ⟨rfl,b1⟩
 obtain ⟨i0,i1,i2,i3,i4,i5,i6,i7,i8⟩:=dI.below b1 yai
 obtain ⟨r0,r1,r2,r3,r4,r5,r6,r7,r8⟩:=dR.below b1 yai
 have f: ∀j,W1.frozen? ⟨w.heap.size,j,none⟩=false:=λj=>(b1.frozen (p:=⟨w.heap.size,j,none⟩) yb6).trans (fR j)
 have f0:=f 0
 have f1:=f 1
 have f2:=f 2
 have f3:=f 3
 have f4:=f 4
 have f5:=f 5
 have f6:=f 6
 have f7:=f 7
 have f8:=f 8
 have B1:=hid b1
 have BA:=hid bA
 clear b1 bA f fR dI dR
 simp only [Qr] at i0 i1 i2 i3 i4 i5 i6 i7 i8 r0 r1 r2 r3 r4 r5 r6 r7 r8
 go_wp2
 have hR:DIAt W1 w.heap.size (Qr ⟨#[]⟩):=⟨r0,r1,r2,r3,r4,r5,r6,r7,r8⟩
 obtain ⟨q0,q1,q2,q3,q4,q5,q6,q7,q8⟩:=Zj hR (Qr u)
 have hbel:=Jn (BA.out.trans (B1.out.mono yai)) (Nat.le_refl w.heap.size) (Qr u)
 refine ⟨rfl, .tuple #[Vm (Qr u), .bool false],?_,⟨_,rfl⟩,hbel⟩
 change (results _ _).run _ (Vf W1 w.heap.size (Qr u))= .ok _ (Vf W1 w.heap.size (Qr u))
 generalize Vf W1 w.heap.size (Qr u)=W' at*
 simp [results,Tryz.results26,go_sem,q0,q1,q2,q3,q4,q5,q6,q7,q8,Vm,Qr]
theorem zt6(f:ByteArray)(hf:f.size<=5)(hq:(f.toList==[63])=false)(hb:b<w.heap.size)(hw:Hid (StrsAt w b (u::ws)))(hl:ws.length=f.size)
  (hlet:Hid (∀j (h:j<f.size),f[j]=100\/f[j]=97\/f[j]=98\/f[j]=99\/f[j]=107\/f[j]=116\/f[j]=110))
  (hform:Hid (∀W,Cl 46 #[.string u] W λe w'=>e= .returned (.string f)/\Below W.heap.size W w')):
  Cl 26 #[.slice (some ⟨b,0,none⟩) (ws.length+1) c] w λe w'=>e= .returned (.tuple #[Vm (Vn f.data.toList ws (Qr u)).1, .bool (Vn f.data.toList ws (Qr u)).2])/\Below w.heap.size w w':=by
 have h0:w.cell? ⟨b,0,none⟩=some (.string u):=hw.out 0 yaj
 generalize hRR:Vn f.data.toList ws (Qr u)=RR
 have HRR:Hid (Vn (f.data.toList.drop 0) (ws.drop 0) (Qr u)=RR):=hid (by simpa using hRR)
 clear hRR
 go_enter Tryz.func26,Tryz.ntmps26
 go_wp2_with fail
 generalize hA:w.alloc _=WA
 generalize hB:WA.alloc _=WB
 have sA:WA.heap.size=w.heap.size+1:=yb5
 have bA:Below w.heap.size w WB:=ydc
 have sB:WB.heap.size=w.heap.size+2:=by rw [<-hB];simp [sA]
 have dI:DIAt WB (w.heap.size+1) (Qr u):=ydd
 have dR:DIAt WB w.heap.size (Qr ⟨#[]⟩):=yde
 have fR: ∀j,WB.frozen? ⟨w.heap.size,j,none⟩=false:=ydf
 have fI: ∀j,WB.frozen? ⟨w.heap.size+1,j,none⟩=false:=by intro j;rw [<-hB,<-sA];simp
 have hI:InsInv w b (u::ws) WB (Qr u):=⟨dI,dR,fI,fR,bA,by omega,hw.out.keep hb bA⟩
 clear hA hB bA dI dR fR fI
 refine (hform.out WB).mono ?_
 rintro e W1 ⟨rfl,b1⟩
 have HI:=hid (hI.below hb b1)
 have hq': ¬f.toList=[63]:=by simpa using hq
 have hlen:((f.size:Int)+1 !=1+(f.size:Int))=false:=yan
 clear hform h0 b1 hI sA sB hw
 go_wp2
 go_loopw [6] (λv6 wr=>∃(j:Nat) (i:DI),j<=f.size/\v6= .int .i64 j/\Hid (InsInv w b (u::ws) wr i)/\Hid (Vn (f.data.toList.drop j) (ws.drop j) i=RR)) (λv6 _=>f.size- (intOf v6).toNat)
 case atStart=>exact ⟨0,Qr u,by omega,rfl,HI,HRR⟩
 case round=>
  clear HI HRR
  obtain ⟨j,i,hj,rfl,HI,HRR⟩:=hrel
  by_cases hlt:j<f.size
  ·have hlt':(j:Int)<(f.size:Int):=by omega
   have hjw:j<ws.length:=yai
   have hx:wr.cell? ⟨b,1+j,none⟩=some (.string ws[j]):=by
    have:=HI.out.strs (1+j) yan
    rw [this]
    simp [Nat.add_comm 1 j]
   have HST:=hid (HRR.out.symm.trans (zt4 f ws i j hlt hjw))
   have hlj:=hlet.out j hlt
   generalize hxw:ws[j]=x at hx HST
   clear hxw HRR
   go_wp2_with fail
   have hvd:=zxz wr x
   generalize hvx:zbo x=vx at hvd
   obtain ⟨xv,vok⟩:=vx
   refine hvd.mono ?_
   rintro e W2 ⟨rfl,b2⟩
   have HI2:=hid (HI.out.below hb b2)
   clear b2 hvd HI hx
   unfold z58
   go_wp2_with fail
   generalize hV:W2.alloc _=W3
   have v0:W3.cell? ⟨W2.heap.size,0,none⟩=some (.bool xv.reg):=by rw [<-hV];exact World.cell?_alloc_new _ _ _ 0
   have v1:W3.cell? ⟨W2.heap.size,1,none⟩=some (.int .i64 xv.v):=by rw [<-hV];exact World.cell?_alloc_new _ _ _ 1
   have HI3:=hid (HI2.out.below hb (W':=W3) (by rw [<-hV];exact (Below.refl _ W2).alloc (Nat.le_refl _) _))
   have hn2:w.heap.size+2<=W2.heap.size:=HI2.out.siz
   clear hV HI2
   have hnm:=Ym W3 x
   unfold Oc at hnm
   generalize hna:(Qk x).getD 0=na at hnm
   generalize hnb:(Qk x).isSome=nok at hnm
   refine hnm.mono ?_
   rintro e W4 ⟨rfl,hW⟩
   subst hW
   have HVX:=hid hvx
   have HNA:=hid hna
   have HNB:=hid hnb
   clear hnm hvx hna hnb
   obtain ⟨i0,i1,i2,i3,i4,i5,i6,i7,i8⟩:=HI3.out.ins
   obtain ⟨r0,r1,r2,r3,r4,r5,r6,r7,r8⟩:=HI3.out.res
   have g0:=HI3.out.fi 0
   have g1:=HI3.out.fi 1
   have g2:=HI3.out.fi 2
   have g3:=HI3.out.fi 3
   have g4:=HI3.out.fi 4
   have g5:=HI3.out.fi 5
   have g6:=HI3.out.fi 6
   have g7:=HI3.out.fi 7
   have g8:=HI3.out.fi 8
   have f0:=HI3.out.fr 0
   have f1:=HI3.out.fr 1
   have f2:=HI3.out.fr 2
   have f3:=HI3.out.fr 3
   have f4:=HI3.out.fr 4
   have f5:=HI3.out.fr 5
   have f6:=HI3.out.fr 6
   have f7:=HI3.out.fr 7
   have f8:=HI3.out.fr 8
   rcases hlj with hc|hc|hc|hc|hc|hc|hc
   ·rw [hc] at HST
    have hc':(f[j].toNat:Int)=100:=ybc
    clear hc
    have hrg:=El W4 x
    generalize hra:(((Jt x).getD 0:Nat):Int)=rv at hrg
    generalize hrb:(Jt x).isSome=rok at hrg
    have HRA:=hid hra
    have HRB:=hid hrb
    have HRG:=hid hrg
    clear hra hrb hrg
    cases rok with
    |true=>
     have HS:Hid (Qz 100 x i=({i with d:=rv},true)):=hid (by simp [Qz,HRA.out,HRB.out])
     go_wp2_with fail
     refine HRG.out.mono ?_
     rintro e W5 ⟨rfl,hW5⟩
     rw [hW5]
     clear hW5
     go_wp2
     have hI2:InsInv w b (u::ws) (W4.setCell ⟨w.heap.size+1,1,none⟩ (.int .i64 rv)) {i with d:=rv}:=HI3.out.chg hb (Ug _ _ _ _) (HI3.out.ins.setD _)
     refine ⟨⟨j+1,{i with d:=rv},by omega,by go_num,hid hI2,hid ?_⟩,by simp [intOf];omega⟩
     rw [HST.out,if_pos ybb,HS.out]
    |false=>
     have HS:Hid (Qz 100 x i=({i with d:=rv},false)):=hid (by simp [Qz,HRA.out,HRB.out])
     go_wp2_with fail
     refine HRG.out.mono ?_
     rintro e W5 ⟨rfl,hW5⟩
     rw [hW5]
     clear hW5
     go_wp2
     have hI2:InsInv w b (u::ws) (W4.setCell ⟨w.heap.size+1,1,none⟩ (.int .i64 rv)) {i with d:=rv}:=HI3.out.chg hb (Ug _ _ _ _) (HI3.out.ins.setD _)
     obtain ⟨z0,z1,z2,z3,z4,z5,z6,z7,z8⟩:=Zj hI2.res {i with d:=rv}
     have hbel:=Jn hI2.bel (Nat.le_refl w.heap.size) {i with d:=rv}
     have hRR:RR=({i with d:=rv},false):=yaz
     subst hRR
     refine ⟨rfl, .tuple #[Vm {i with d:=rv}, .bool false],?_,rfl,hbel⟩
     change (results _ _).run _ (Vf (W4.setCell ⟨w.heap.size+1,1,none⟩ (.int .i64 rv)) w.heap.size {i with d:=rv})= .ok _ (Vf (W4.setCell ⟨w.heap.size+1,1,none⟩ (.int .i64 rv)) w.heap.size {i with d:=rv})
     generalize Vf (W4.setCell ⟨w.heap.size+1,1,none⟩ (.int .i64 rv)) w.heap.size {i with d:=rv}=W' at*
     simp [results,Tryz.results26,go_sem,z0,z1,z2,z3,z4,z5,z6,z7,z8,Vm]
   ·rw [hc] at HST
    have hc':(f[j].toNat:Int)=97:=ybc
    clear hc
    cases vok with
    |true=>
     have HS:Hid (Qz 97 x i=({i with a:=xv},true)):=hid ybt
     go_wp2
     have hI2:InsInv w b (u::ws) ((W4.setCell ⟨w.heap.size+1,2,none⟩ (.bool xv.reg)).setCell ⟨w.heap.size+1,3,none⟩ (.int .i64 xv.v)) {i with a:=xv}:=HI3.out.chg hb (zce _ _ _ _ _ _) (HI3.out.ins.setA _)
     refine ⟨⟨j+1,{i with a:=xv},by omega,by go_num,hid hI2,hid ?_⟩,by simp [intOf];omega⟩
     rw [HST.out,if_pos ybb,HS.out]
    |false=>
     have HS:Hid (Qz 97 x i=({i with a:=xv},false)):=hid ybt
     go_wp2
     have hI2:InsInv w b (u::ws) ((W4.setCell ⟨w.heap.size+1,2,none⟩ (.bool xv.reg)).setCell ⟨w.heap.size+1,3,none⟩ (.int .i64 xv.v)) {i with a:=xv}:=HI3.out.chg hb (zce _ _ _ _ _ _) (HI3.out.ins.setA _)
     obtain ⟨z0,z1,z2,z3,z4,z5,z6,z7,z8⟩:=Zj hI2.res {i with a:=xv}
     have hbel:=Jn hI2.bel (Nat.le_refl w.heap.size) {i with a:=xv}
     have hRR:RR=({i with a:=xv},false):=yaz
     subst hRR
     refine ⟨rfl, .tuple #[Vm {i with a:=xv}, .bool false],?_,rfl,hbel⟩
     change (results _ _).run _ (Vf ((W4.setCell ⟨w.heap.size+1,2,none⟩ (.bool xv.reg)).setCell ⟨w.heap.size+1,3,none⟩ (.int .i64 xv.v)) w.heap.size {i with a:=xv})= .ok _ (Vf ((W4.setCell ⟨w.heap.size+1,2,none⟩ (.bool xv.reg)).setCell ⟨w.heap.size+1,3,none⟩ (.int .i64 xv.v)) w.heap.size {i with a:=xv})
     generalize Vf ((W4.setCell ⟨w.heap.size+1,2,none⟩ (.bool xv.reg)).setCell ⟨w.heap.size+1,3,none⟩ (.int .i64 xv.v)) w.heap.size {i with a:=xv}=W' at*
     simp [results,Tryz.results26,go_sem,z0,z1,z2,z3,z4,z5,z6,z7,z8,Vm]
   ·rw [hc] at HST
    have hc':(f[j].toNat:Int)=98:=ybc
    clear hc
    cases vok with
    |true=>
     have HS:Hid (Qz 98 x i=({i with b:=xv},true)):=hid ybt
     go_wp2
     have hI2:InsInv w b (u::ws) ((W4.setCell ⟨w.heap.size+1,4,none⟩ (.bool xv.reg)).setCell ⟨w.heap.size+1,5,none⟩ (.int .i64 xv.v)) {i with b:=xv}:=HI3.out.chg hb (zce _ _ _ _ _ _) (HI3.out.ins.setB _)
     refine ⟨⟨j+1,{i with b:=xv},by omega,by go_num,hid hI2,hid ?_⟩,by simp [intOf];omega⟩
     rw [HST.out,if_pos ybb,HS.out]
    |false=>
     have HS:Hid (Qz 98 x i=({i with b:=xv},false)):=hid ybt
     go_wp2
     have hI2:InsInv w b (u::ws) ((W4.setCell ⟨w.heap.size+1,4,none⟩ (.bool xv.reg)).setCell ⟨w.heap.size+1,5,none⟩ (.int .i64 xv.v)) {i with b:=xv}:=HI3.out.chg hb (zce _ _ _ _ _ _) (HI3.out.ins.setB _)
     obtain ⟨z0,z1,z2,z3,z4,z5,z6,z7,z8⟩:=Zj hI2.res {i with b:=xv}
     have hbel:=Jn hI2.bel (Nat.le_refl w.heap.size) {i with b:=xv}
     have hRR:RR=({i with b:=xv},false):=yaz
     subst hRR
     refine ⟨rfl, .tuple #[Vm {i with b:=xv}, .bool false],?_,rfl,hbel⟩
     change (results _ _).run _ (Vf ((W4.setCell ⟨w.heap.size+1,4,none⟩ (.bool xv.reg)).setCell ⟨w.heap.size+1,5,none⟩ (.int .i64 xv.v)) w.heap.size {i with b:=xv})= .ok _ (Vf ((W4.setCell ⟨w.heap.size+1,4,none⟩ (.bool xv.reg)).setCell ⟨w.heap.size+1,5,none⟩ (.int .i64 xv.v)) w.heap.size {i with b:=xv})
     generalize Vf ((W4.setCell ⟨w.heap.size+1,4,none⟩ (.bool xv.reg)).setCell ⟨w.heap.size+1,5,none⟩ (.int .i64 xv.v)) w.heap.size {i with b:=xv}=W' at*
     simp [results,Tryz.results26,go_sem,z0,z1,z2,z3,z4,z5,z6,z7,z8,Vm]
   ·rw [hc] at HST
    have hc':(f[j].toNat:Int)=99:=ybc
    clear hc
    cases vok with
    |true=>
     have HS:Hid (Qz 99 x i=({i with c:=xv},true)):=hid ybt
     go_wp2
     have hI2:InsInv w b (u::ws) ((W4.setCell ⟨w.heap.size+1,6,none⟩ (.bool xv.reg)).setCell ⟨w.heap.size+1,7,none⟩ (.int .i64 xv.v)) {i with c:=xv}:=HI3.out.chg hb (zce _ _ _ _ _ _) (HI3.out.ins.setC _)
     refine ⟨⟨j+1,{i with c:=xv},by omega,by go_num,hid hI2,hid ?_⟩,by simp [intOf];omega⟩
     rw [HST.out,if_pos ybb,HS.out]
    |false=>
     have HS:Hid (Qz 99 x i=({i with c:=xv},false)):=hid ybt
     go_wp2
     have hI2:InsInv w b (u::ws) ((W4.setCell ⟨w.heap.size+1,6,none⟩ (.bool xv.reg)).setCell ⟨w.heap.size+1,7,none⟩ (.int .i64 xv.v)) {i with c:=xv}:=HI3.out.chg hb (zce _ _ _ _ _ _) (HI3.out.ins.setC _)
     obtain ⟨z0,z1,z2,z3,z4,z5,z6,z7,z8⟩:=Zj hI2.res {i with c:=xv}
     have hbel:=Jn hI2.bel (Nat.le_refl w.heap.size) {i with c:=xv}
     have hRR:RR=({i with c:=xv},false):=yaz
     subst hRR
     refine ⟨rfl, .tuple #[Vm {i with c:=xv}, .bool false],?_,rfl,hbel⟩
     change (results _ _).run _ (Vf ((W4.setCell ⟨w.heap.size+1,6,none⟩ (.bool xv.reg)).setCell ⟨w.heap.size+1,7,none⟩ (.int .i64 xv.v)) w.heap.size {i with c:=xv})= .ok _ (Vf ((W4.setCell ⟨w.heap.size+1,6,none⟩ (.bool xv.reg)).setCell ⟨w.heap.size+1,7,none⟩ (.int .i64 xv.v)) w.heap.size {i with c:=xv})
     generalize Vf ((W4.setCell ⟨w.heap.size+1,6,none⟩ (.bool xv.reg)).setCell ⟨w.heap.size+1,7,none⟩ (.int .i64 xv.v)) w.heap.size {i with c:=xv}=W' at*
     simp [results,Tryz.results26,go_sem,z0,z1,z2,z3,z4,z5,z6,z7,z8,Vm]
   ·rw [hc] at HST
    have hc':(f[j].toNat:Int)=107:=ybc
    clear hc
    cases nok with
    |true=>
     have HS:Hid (Qz 107 x i=({i with k:=na},true)):=hid ycp
     go_wp2
     have hI2:InsInv w b (u::ws) (W4.setCell ⟨w.heap.size+1,8,none⟩ (.int .i64 na)) {i with k:=na}:=HI3.out.chg hb (Ug _ _ _ _) (HI3.out.ins.setK _)
     refine ⟨⟨j+1,{i with k:=na},by omega,by go_num,hid hI2,hid ?_⟩,by simp [intOf];omega⟩
     rw [HST.out,if_pos ybb,HS.out]
    |false=>
     have HS:Hid (Qz 107 x i=({i with k:=na},false)):=hid ycp
     go_wp2
     have hI2:InsInv w b (u::ws) (W4.setCell ⟨w.heap.size+1,8,none⟩ (.int .i64 na)) {i with k:=na}:=HI3.out.chg hb (Ug _ _ _ _) (HI3.out.ins.setK _)
     obtain ⟨z0,z1,z2,z3,z4,z5,z6,z7,z8⟩:=Zj hI2.res {i with k:=na}
     have hbel:=Jn hI2.bel (Nat.le_refl w.heap.size) {i with k:=na}
     have hRR:RR=({i with k:=na},false):=yaz
     subst hRR
     refine ⟨rfl, .tuple #[Vm {i with k:=na}, .bool false],?_,rfl,hbel⟩
     change (results _ _).run _ (Vf (W4.setCell ⟨w.heap.size+1,8,none⟩ (.int .i64 na)) w.heap.size {i with k:=na})= .ok _ (Vf (W4.setCell ⟨w.heap.size+1,8,none⟩ (.int .i64 na)) w.heap.size {i with k:=na})
     generalize Vf (W4.setCell ⟨w.heap.size+1,8,none⟩ (.int .i64 na)) w.heap.size {i with k:=na}=W' at*
     simp [results,Tryz.results26,go_sem,z0,z1,z2,z3,z4,z5,z6,z7,z8,Vm]
   ·rw [hc] at HST
    have hc':(f[j].toNat:Int)=116:=ybc
    clear hc
    cases nok with
    |true=>
     by_cases hlo:0<=na
     ·by_cases hhi:na<=4000
      ·have HS:Hid (Qz 116 x i=({i with k:=na},true)):=hid ycq
       go_wp2
       have hI2:InsInv w b (u::ws) (W4.setCell ⟨w.heap.size+1,8,none⟩ (.int .i64 na)) {i with k:=na}:=HI3.out.chg hb (Ug _ _ _ _) (HI3.out.ins.setK _)
       refine ⟨⟨j+1,{i with k:=na},by omega,by go_num,hid hI2,hid ?_⟩,by simp [intOf];omega⟩
       rw [HST.out,if_pos ybb,HS.out]
      ·have HS:Hid (Qz 116 x i=({i with k:=na},false)):=hid ycq
       go_wp2
       case roundEnd=>exfalso;rename_i hx;simp at hx;omega
       have hI2:InsInv w b (u::ws) (W4.setCell ⟨w.heap.size+1,8,none⟩ (.int .i64 na)) {i with k:=na}:=HI3.out.chg hb (Ug _ _ _ _) (HI3.out.ins.setK _)
       obtain ⟨z0,z1,z2,z3,z4,z5,z6,z7,z8⟩:=Zj hI2.res {i with k:=na}
       have hbel:=Jn hI2.bel (Nat.le_refl w.heap.size) {i with k:=na}
       have hRR:RR=({i with k:=na},false):=yaz
       subst hRR
       refine ⟨rfl, .tuple #[Vm {i with k:=na}, .bool false],?_,rfl,hbel⟩
       change (results _ _).run _ (Vf (W4.setCell ⟨w.heap.size+1,8,none⟩ (.int .i64 na)) w.heap.size {i with k:=na})= .ok _ (Vf (W4.setCell ⟨w.heap.size+1,8,none⟩ (.int .i64 na)) w.heap.size {i with k:=na})
       generalize Vf (W4.setCell ⟨w.heap.size+1,8,none⟩ (.int .i64 na)) w.heap.size {i with k:=na}=W' at*
       simp [results,Tryz.results26,go_sem,z0,z1,z2,z3,z4,z5,z6,z7,z8,Vm]
     ·have HS:Hid (Qz 116 x i=({i with k:=na},false)):=hid (by simp [Qz,HNA.out,HNB.out,hlo])
      go_wp2
      have hI2:InsInv w b (u::ws) (W4.setCell ⟨w.heap.size+1,8,none⟩ (.int .i64 na)) {i with k:=na}:=HI3.out.chg hb (Ug _ _ _ _) (HI3.out.ins.setK _)
      obtain ⟨z0,z1,z2,z3,z4,z5,z6,z7,z8⟩:=Zj hI2.res {i with k:=na}
      have hbel:=Jn hI2.bel (Nat.le_refl w.heap.size) {i with k:=na}
      have hRR:RR=({i with k:=na},false):=yaz
      subst hRR
      refine ⟨rfl, .tuple #[Vm {i with k:=na}, .bool false],?_,rfl,hbel⟩
      change (results _ _).run _ (Vf (W4.setCell ⟨w.heap.size+1,8,none⟩ (.int .i64 na)) w.heap.size {i with k:=na})= .ok _ (Vf (W4.setCell ⟨w.heap.size+1,8,none⟩ (.int .i64 na)) w.heap.size {i with k:=na})
      generalize Vf (W4.setCell ⟨w.heap.size+1,8,none⟩ (.int .i64 na)) w.heap.size {i with k:=na}=W' at*
      simp [results,Tryz.results26,go_sem,z0,z1,z2,z3,z4,z5,z6,z7,z8,Vm]
    |false=>
     have HS:Hid (Qz 116 x i=({i with k:=na},false)):=hid ycp
     go_wp2
     have hI2:InsInv w b (u::ws) (W4.setCell ⟨w.heap.size+1,8,none⟩ (.int .i64 na)) {i with k:=na}:=HI3.out.chg hb (Ug _ _ _ _) (HI3.out.ins.setK _)
     obtain ⟨z0,z1,z2,z3,z4,z5,z6,z7,z8⟩:=Zj hI2.res {i with k:=na}
     have hbel:=Jn hI2.bel (Nat.le_refl w.heap.size) {i with k:=na}
     have hRR:RR=({i with k:=na},false):=yaz
     subst hRR
     refine ⟨rfl, .tuple #[Vm {i with k:=na}, .bool false],?_,rfl,hbel⟩
     change (results _ _).run _ (Vf (W4.setCell ⟨w.heap.size+1,8,none⟩ (.int .i64 na)) w.heap.size {i with k:=na})= .ok _ (Vf (W4.setCell ⟨w.heap.size+1,8,none⟩ (.int .i64 na)) w.heap.size {i with k:=na})
     generalize Vf (W4.setCell ⟨w.heap.size+1,8,none⟩ (.int .i64 na)) w.heap.size {i with k:=na}=W' at*
     simp [results,Tryz.results26,go_sem,z0,z1,z2,z3,z4,z5,z6,z7,z8,Vm]
   ·rw [hc] at HST
    have hc':(f[j].toNat:Int)=110:=ybc
    clear hc
    cases nok with
    |true=>
     by_cases hlo:1<=na
     ·by_cases hhi:na<=9
      ·have HS:Hid (Qz 110 x i=({i with k:=na},true)):=hid ycq
       go_wp2
       have hI2:InsInv w b (u::ws) (W4.setCell ⟨w.heap.size+1,8,none⟩ (.int .i64 na)) {i with k:=na}:=HI3.out.chg hb (Ug _ _ _ _) (HI3.out.ins.setK _)
       refine ⟨⟨j+1,{i with k:=na},by omega,by go_num,hid hI2,hid ?_⟩,by simp [intOf];omega⟩
       rw [HST.out,if_pos ybb,HS.out]
      ·have HS:Hid (Qz 110 x i=({i with k:=na},false)):=hid ycq
       go_wp2
       case roundEnd=>exfalso;rename_i hx;simp at hx;omega
       have hI2:InsInv w b (u::ws) (W4.setCell ⟨w.heap.size+1,8,none⟩ (.int .i64 na)) {i with k:=na}:=HI3.out.chg hb (Ug _ _ _ _) (HI3.out.ins.setK _)
       obtain ⟨z0,z1,z2,z3,z4,z5,z6,z7,z8⟩:=Zj hI2.res {i with k:=na}
       have hbel:=Jn hI2.bel (Nat.le_refl w.heap.size) {i with k:=na}
       have hRR:RR=({i with k:=na},false):=yaz
       subst hRR
       refine ⟨rfl, .tuple #[Vm {i with k:=na}, .bool false],?_,rfl,hbel⟩
       change (results _ _).run _ (Vf (W4.setCell ⟨w.heap.size+1,8,none⟩ (.int .i64 na)) w.heap.size {i with k:=na})= .ok _ (Vf (W4.setCell ⟨w.heap.size+1,8,none⟩ (.int .i64 na)) w.heap.size {i with k:=na})
       generalize Vf (W4.setCell ⟨w.heap.size+1,8,none⟩ (.int .i64 na)) w.heap.size {i with k:=na}=W' at*
       simp [results,Tryz.results26,go_sem,z0,z1,z2,z3,z4,z5,z6,z7,z8,Vm]
     ·have HS:Hid (Qz 110 x i=({i with k:=na},false)):=hid (by simp [Qz,HNA.out,HNB.out,hlo])
      go_wp2
      have hI2:InsInv w b (u::ws) (W4.setCell ⟨w.heap.size+1,8,none⟩ (.int .i64 na)) {i with k:=na}:=HI3.out.chg hb (Ug _ _ _ _) (HI3.out.ins.setK _)
      obtain ⟨z0,z1,z2,z3,z4,z5,z6,z7,z8⟩:=Zj hI2.res {i with k:=na}
      have hbel:=Jn hI2.bel (Nat.le_refl w.heap.size) {i with k:=na}
      have hRR:RR=({i with k:=na},false):=yaz
      subst hRR
      refine ⟨rfl, .tuple #[Vm {i with k:=na}, .bool false],?_,rfl,hbel⟩
      change (results _ _).run _ (Vf (W4.setCell ⟨w.heap.size+1,8,none⟩ (.int .i64 na)) w.heap.size {i with k:=na})= .ok _ (Vf (W4.setCell ⟨w.heap.size+1,8,none⟩ (.int .i64 na)) w.heap.size {i with k:=na})
      generalize Vf (W4.setCell ⟨w.heap.size+1,8,none⟩ (.int .i64 na)) w.heap.size {i with k:=na}=W' at*
      simp [results,Tryz.results26,go_sem,z0,z1,z2,z3,z4,z5,z6,z7,z8,Vm]
    |false=>
     have HS:Hid (Qz 110 x i=({i with k:=na},false)):=hid ycp
     go_wp2
     have hI2:InsInv w b (u::ws) (W4.setCell ⟨w.heap.size+1,8,none⟩ (.int .i64 na)) {i with k:=na}:=HI3.out.chg hb (Ug _ _ _ _) (HI3.out.ins.setK _)
     obtain ⟨z0,z1,z2,z3,z4,z5,z6,z7,z8⟩:=Zj hI2.res {i with k:=na}
     have hbel:=Jn hI2.bel (Nat.le_refl w.heap.size) {i with k:=na}
     have hRR:RR=({i with k:=na},false):=yaz
     subst hRR
     refine ⟨rfl, .tuple #[Vm {i with k:=na}, .bool false],?_,rfl,hbel⟩
     change (results _ _).run _ (Vf (W4.setCell ⟨w.heap.size+1,8,none⟩ (.int .i64 na)) w.heap.size {i with k:=na})= .ok _ (Vf (W4.setCell ⟨w.heap.size+1,8,none⟩ (.int .i64 na)) w.heap.size {i with k:=na})
     generalize Vf (W4.setCell ⟨w.heap.size+1,8,none⟩ (.int .i64 na)) w.heap.size {i with k:=na}=W' at*
     simp [results,Tryz.results26,go_sem,z0,z1,z2,z3,z4,z5,z6,z7,z8,Vm]
  ·have hlt': ¬(j:Int)<(f.size:Int):=by omega
   obtain rfl:j=f.size:=yai
   have hRR:RR=(i,true):=by
    rw [<-HRR.out,List.drop_eq_nil_of_le ycz]
    rfl
   subst hRR
   obtain ⟨i0,i1,i2,i3,i4,i5,i6,i7,i8⟩:=HI.out.ins
   obtain ⟨r0,r1,r2,r3,r4,r5,r6,r7,r8⟩:=HI.out.res
   have f0:=HI.out.fr 0
   have f1:=HI.out.fr 1
   have f2:=HI.out.fr 2
   have f3:=HI.out.fr 3
   have f4:=HI.out.fr 4
   have f5:=HI.out.fr 5
   have f6:=HI.out.fr 6
   have f7:=HI.out.fr 7
   have f8:=HI.out.fr 8
   go_wp2
   obtain ⟨z0,z1,z2,z3,z4,z5,z6,z7,z8⟩:=Zj HI.out.res i
   have hbel:=Jn HI.out.bel (Nat.le_refl w.heap.size) i
   refine ⟨rfl, .tuple #[Vm i, .bool true],?_,rfl,hbel⟩
   change (results _ _).run _ (Vf wr w.heap.size i)= .ok _ (Vf wr w.heap.size i)
   generalize Vf wr w.heap.size i=W' at*
   simp [results,Tryz.results26,go_sem,z0,z1,z2,z3,z4,z5,z6,z7,z8,Vm]
end
abbrev zV:Vl:=⟨false,0⟩
def dOf(ic:Ic):DI:=match ic.k with
 |0=>⟨zyl,ic.d,ic.a,zV,zV,0⟩
 |1=>⟨Jc ic.op,ic.d,ic.a,ic.b,zV,0⟩
 |2=>⟨zf9,ic.d,ic.a,zV,zV,ic.n⟩
 |3=>⟨zae,0,ic.a,ic.b,zV,ic.n⟩
 |4=>⟨zqd,ic.d,ic.a,ic.b,ic.c,ic.n⟩
 |5=>⟨ze9,ic.d,ic.a,ic.b,zV,ic.n⟩
 |6=>⟨zff,0,zV,zV,zV,0⟩
 |7=>⟨zzh,0,ic.a,zV,zV,0⟩
 |8=>⟨zzi,0,zV,zV,zV,ic.n⟩
 |9=>⟨wJz,0,ic.a,zV,zV,ic.n⟩
 |_=>if ic.n=10 then ⟨znx,0,zV,zV,zV,0⟩ else ⟨zjn,0,zV,zV,zV,ic.n⟩
def zbi(f:List UInt8)(u:ByteArray)(g:List ByteArray->Option (Ic×List ByteArray)):Prop:=∀ws,
 (ws.length≠f.length->g ws=none\/ ∃ic x xs,g ws=some (ic,x::xs))/\
 (ws.length=f.length->((Vn f ws (Qr u)).2=false->g ws=none)/\((Vn f ws (Qr u)).2=true->∃ic,g ws=some (ic,[])/\(Vn f ws (Qr u)).1=dOf ic))
theorem Uo:zbp []=none:=rfl
theorem zbj:zhi []=none:=rfl
theorem zdf:zco []=none:=rfl
theorem zlk(lo hi:Int):gIn lo hi []=none:=rfl
theorem zbk:Ez []=none:=rfl
theorem Ja(x:ByteArray)(ws:List ByteArray):zbp (x::ws)=if (zbo x).2=true then some ((zbo x).1,ws) else none:=by
 show (match Jt x with|some r=>_|none=>_)=_
 unfold zbo
 cases Jt x with
 |some r=>simp
 |none=>cases h:Qk x<;>simp
theorem Qq(x:ByteArray)(ws:List ByteArray):zhi (x::ws)=if (Jt x).isSome=true then some ((Jt x).getD 0,ws) else none:=by
 show (Jt x).map _=_
 cases Jt x<;>simp
theorem Ji(x:ByteArray)(ws:List ByteArray):zco (x::ws)=if (Qk x).isSome=true then some ((Qk x).getD 0,ws) else none:=by
 show (Qk x).map _=_
 cases Qk x<;>simp
theorem Up(lo hi:Int)(x:ByteArray)(ws:List ByteArray):gIn lo hi (x::ws)=if ((Qk x).isSome&&decide (lo<=(Qk x).getD 0)&&decide ((Qk x).getD 0<=hi))=true then some ((Qk x).getD 0,ws) else none:=by
 unfold gIn
 rw [Ji]
 cases Qk x with
 |none=>simp
 |some v=>by_cases h1:lo<=v<;>by_cases h2:v<=hi<;>simp [h1,h2]
theorem Qv(x:ByteArray)(ws:List ByteArray):Ez (x::ws)=if (zbo x).2=true then (zco ws).map (λq=>(((zbo x).1,q.1),q.2)) else none:=by
 unfold Ez
 rw [Ja]
 split<;>simp
theorem zll:zbi [] zff zfh:=by
 intro ws
 rcases ws with _|⟨z,ws⟩
 ·refine ⟨λh=>absurd rfl h,λ_=>⟨λh=>?_,λ_=>?_⟩⟩
  ·simp [Vn,Qr] at h
  ·refine ⟨_,by simp [zfh];rfl,?_⟩
   simp [Vn,Qr,dOf]
 ·refine ⟨λ_=> .inr ?_,λh=>by simp at h⟩
  simp [zfh]
theorem zpq:zbi [] znx znz:=by
 intro ws
 rcases ws with _|⟨z,ws⟩
 ·refine ⟨λh=>absurd rfl h,λ_=>⟨λh=>?_,λ_=>?_⟩⟩
  ·simp [Vn,Qr] at h
  ·refine ⟨_,by simp [znz];rfl,?_⟩
   simp [Vn,Qr,dOf]
 ·refine ⟨λ_=> .inr ?_,λh=>by simp at h⟩
  simp [znz]
theorem zt7:zbi [97] zzh zqg:=by
 intro ws
 rcases ws with _|⟨x0,ws⟩
 ·exact ⟨λ_=> .inl (by simp [zqg,Uo]),λh=>by simp at h⟩
 cases h0:(zbo x0).2
 ·have hn:zqg (x0::ws)=none:=by simp [zqg,Ja,h0]
  have hr:(Vn [97] (x0::ws) (Qr zzh)).2=false:=ya2
  exact ⟨λ_=> .inl hn,λ_=>⟨λ_=>hn,λh=>by rw [hr] at h;cases h⟩⟩
 rcases ws with _|⟨z,ws⟩
 ·refine ⟨λh=>absurd rfl h,λ_=>⟨λh=>?_,λ_=>?_⟩⟩
  ·simp [Vn,Qz,Qr,h0] at h
  ·refine ⟨_,by simp [zqg,Ja,h0];rfl,?_⟩
   simp [Vn,Qz,Qr,dOf,h0]
 ·refine ⟨λ_=> .inr ?_,λh=>by simp at h⟩
  simp [zqg,Ja,h0]
theorem zt8:zbi [100,97] zyl zly:=by
 intro ws
 rcases ws with _|⟨x0,ws⟩
 ·exact ⟨λ_=> .inl (by simp [zly,zbj]),λh=>by simp at h⟩
 cases h0:(Jt x0).isSome
 ·have hn:zly (x0::ws)=none:=by simp [zly,Qq,h0]
  have hr:(Vn [100,97] (x0::ws) (Qr zyl)).2=false:=ya2
  exact ⟨λ_=> .inl hn,λ_=>⟨λ_=>hn,λh=>by rw [hr] at h;cases h⟩⟩
 rcases ws with _|⟨x1,ws⟩
 ·exact ⟨λ_=> .inl (by simp [zly,Uo,Qq,h0]),λh=>by simp at h⟩
 cases h1:(zbo x1).2
 ·have hn:zly (x0::x1::ws)=none:=by simp [zly,Qq,Ja,h0,h1]
  have hr:(Vn [100,97] (x0::x1::ws) (Qr zyl)).2=false:=ybd
  exact ⟨λ_=> .inl hn,λ_=>⟨λ_=>hn,λh=>by rw [hr] at h;cases h⟩⟩
 rcases ws with _|⟨z,ws⟩
 ·refine ⟨λh=>absurd rfl h,λ_=>⟨λh=>?_,λ_=>?_⟩⟩
  ·simp [Vn,Qz,Qr,h0,h1] at h
  ·refine ⟨_,by simp [zly,Qq,Ja,h0,h1];rfl,?_⟩
   simp [Vn,Qz,Qr,dOf,h0,h1]
 ·refine ⟨λ_=> .inr ?_,λh=>by simp at h⟩
  simp [zly,Qq,Ja,h0,h1]
theorem zt9:zbi [116] zzi zqh:=by
 intro ws
 rcases ws with _|⟨x0,ws⟩
 ·exact ⟨λ_=> .inl (by simp [zqh,zlk]),λh=>by simp at h⟩
 cases h0:((Qk x0).isSome&&decide (0<=(Qk x0).getD 0)&&decide ((Qk x0).getD 0<=4000))
 ·have hn:zqh (x0::ws)=none:=by simp [zqh,Up,h0]
  have hr:(Vn [116] (x0::ws) (Qr zzi)).2=false:=ya2
  exact ⟨λ_=> .inl hn,λ_=>⟨λ_=>hn,λh=>by rw [hr] at h;cases h⟩⟩
 rcases ws with _|⟨z,ws⟩
 ·refine ⟨λh=>absurd rfl h,λ_=>⟨λh=>?_,λ_=>?_⟩⟩
  ·simp [Vn,Qz,Qr,h0] at h
  ·refine ⟨_,by simp [zqh,Up,h0];rfl,?_⟩
   simp [Vn,Qz,Qr,dOf,h0]
 ·refine ⟨λ_=> .inr ?_,λh=>by simp at h⟩
  simp [zqh,Up,h0]
theorem zx0:zbi [97,116] wJz gjz:=by
 intro ws
 rcases ws with _|⟨x0,ws⟩
 ·exact ⟨λ_=> .inl (by simp [gjz,Uo]),λh=>by simp at h⟩
 cases h0:(zbo x0).2
 ·have hn:gjz (x0::ws)=none:=by simp [gjz,Ja,h0]
  have hr:(Vn [97,116] (x0::ws) (Qr wJz)).2=false:=ya2
  exact ⟨λ_=> .inl hn,λ_=>⟨λ_=>hn,λh=>by rw [hr] at h;cases h⟩⟩
 rcases ws with _|⟨x1,ws⟩
 ·exact ⟨λ_=> .inl (by simp [gjz,zlk,Ja,h0]),λh=>by simp at h⟩
 cases h1:((Qk x1).isSome&&decide (0<=(Qk x1).getD 0)&&decide ((Qk x1).getD 0<=4000))
 ·have hn:gjz (x0::x1::ws)=none:=by simp [gjz,Ja,Up,h0,h1]
  have hr:(Vn [97,116] (x0::x1::ws) (Qr wJz)).2=false:=ybd
  exact ⟨λ_=> .inl hn,λ_=>⟨λ_=>hn,λh=>by rw [hr] at h;cases h⟩⟩
 rcases ws with _|⟨z,ws⟩
 ·refine ⟨λh=>absurd rfl h,λ_=>⟨λh=>?_,λ_=>?_⟩⟩
  ·simp [Vn,Qz,Qr,h0,h1] at h
  ·refine ⟨_,by simp [gjz,Ja,Up,h0,h1];rfl,?_⟩
   simp [Vn,Qz,Qr,dOf,h0,h1]
 ·refine ⟨λ_=> .inr ?_,λh=>by simp at h⟩
  simp [gjz,Ja,Up,h0,h1]
theorem zlm:zbi [97,107,98] zae Xq:=by
 intro ws
 rcases ws with _|⟨x0,ws⟩
 ·exact ⟨λ_=> .inl (by simp [Xq,zbk]),λh=>by simp at h⟩
 cases h0:(zbo x0).2
 ·have hn:Xq (x0::ws)=none:=by simp [Xq,Qv,h0]
  have hr:(Vn [97,107,98] (x0::ws) (Qr zae)).2=false:=ya2
  exact ⟨λ_=> .inl hn,λ_=>⟨λ_=>hn,λh=>by rw [hr] at h;cases h⟩⟩
 rcases ws with _|⟨x1,ws⟩
 ·exact ⟨λ_=> .inl (by simp [Xq,zdf,Qv,h0]),λh=>by simp at h⟩
 cases h1:(Qk x1).isSome
 ·have hn:Xq (x0::x1::ws)=none:=by simp [Xq,Ji,Qv,h0,h1]
  have hr:(Vn [97,107,98] (x0::x1::ws) (Qr zae)).2=false:=ybd
  exact ⟨λ_=> .inl hn,λ_=>⟨λ_=>hn,λh=>by rw [hr] at h;cases h⟩⟩
 rcases ws with _|⟨x2,ws⟩
 ·exact ⟨λ_=> .inl (by simp [Xq,Uo,Ji,Qv,h0,h1]),λh=>by simp at h⟩
 cases h2:(zbo x2).2
 ·have hn:Xq (x0::x1::x2::ws)=none:=by simp [Xq,Ja,Ji,Qv,h0,h1,h2]
  have hr:(Vn [97,107,98] (x0::x1::x2::ws) (Qr zae)).2=false:=yb7
  exact ⟨λ_=> .inl hn,λ_=>⟨λ_=>hn,λh=>by rw [hr] at h;cases h⟩⟩
 rcases ws with _|⟨z,ws⟩
 ·refine ⟨λh=>absurd rfl h,λ_=>⟨λh=>?_,λ_=>?_⟩⟩
  ·simp [Vn,Qz,Qr,h0,h1,h2] at h
  ·refine ⟨_,by simp [Xq,Ja,Ji,Qv,h0,h1,h2];rfl,?_⟩
   simp [Vn,Qz,Qr,dOf,h0,h1,h2]
 ·refine ⟨λ_=> .inr ?_,λh=>by simp at h⟩
  simp [Xq,Ja,Ji,Qv,h0,h1,h2]
theorem zpr:zbi [100,97,107] zf9 Ia:=by
 intro ws
 rcases ws with _|⟨x0,ws⟩
 ·exact ⟨λ_=> .inl (by simp [Ia,zbj]),λh=>by simp at h⟩
 cases h0:(Jt x0).isSome
 ·have hn:Ia (x0::ws)=none:=by simp [Ia,Qq,h0]
  have hr:(Vn [100,97,107] (x0::ws) (Qr zf9)).2=false:=ya2
  exact ⟨λ_=> .inl hn,λ_=>⟨λ_=>hn,λh=>by rw [hr] at h;cases h⟩⟩
 rcases ws with _|⟨x1,ws⟩
 ·exact ⟨λ_=> .inl (by simp [Ia,zbk,Qq,h0]),λh=>by simp at h⟩
 cases h1:(zbo x1).2
 ·have hn:Ia (x0::x1::ws)=none:=by simp [Ia,Qq,Qv,h0,h1]
  have hr:(Vn [100,97,107] (x0::x1::ws) (Qr zf9)).2=false:=ybd
  exact ⟨λ_=> .inl hn,λ_=>⟨λ_=>hn,λh=>by rw [hr] at h;cases h⟩⟩
 rcases ws with _|⟨x2,ws⟩
 ·exact ⟨λ_=> .inl (by simp [Ia,zdf,Qq,Qv,h0,h1]),λh=>by simp at h⟩
 cases h2:(Qk x2).isSome
 ·have hn:Ia (x0::x1::x2::ws)=none:=by simp [Ia,Qq,Ji,Qv,h0,h1,h2]
  have hr:(Vn [100,97,107] (x0::x1::x2::ws) (Qr zf9)).2=false:=yb7
  exact ⟨λ_=> .inl hn,λ_=>⟨λ_=>hn,λh=>by rw [hr] at h;cases h⟩⟩
 rcases ws with _|⟨z,ws⟩
 ·refine ⟨λh=>absurd rfl h,λ_=>⟨λh=>?_,λ_=>?_⟩⟩
  ·simp [Vn,Qz,Qr,h0,h1,h2] at h
  ·refine ⟨_,by simp [Ia,Qq,Ji,Qv,h0,h1,h2];rfl,?_⟩
   simp [Vn,Qz,Qr,dOf,h0,h1,h2]
 ·refine ⟨λ_=> .inr ?_,λh=>by simp at h⟩
  simp [Ia,Qq,Ji,Qv,h0,h1,h2]
theorem zps:zbi [100,97,107,98] ze9 Fh:=by
 intro ws
 rcases ws with _|⟨x0,ws⟩
 ·exact ⟨λ_=> .inl (by simp [Fh,zbj]),λh=>by simp at h⟩
 cases h0:(Jt x0).isSome
 ·have hn:Fh (x0::ws)=none:=by simp [Fh,Qq,h0]
  have hr:(Vn [100,97,107,98] (x0::ws) (Qr ze9)).2=false:=ya2
  exact ⟨λ_=> .inl hn,λ_=>⟨λ_=>hn,λh=>by rw [hr] at h;cases h⟩⟩
 rcases ws with _|⟨x1,ws⟩
 ·exact ⟨λ_=> .inl (by simp [Fh,zbk,Qq,h0]),λh=>by simp at h⟩
 cases h1:(zbo x1).2
 ·have hn:Fh (x0::x1::ws)=none:=by simp [Fh,Qq,Qv,h0,h1]
  have hr:(Vn [100,97,107,98] (x0::x1::ws) (Qr ze9)).2=false:=ybd
  exact ⟨λ_=> .inl hn,λ_=>⟨λ_=>hn,λh=>by rw [hr] at h;cases h⟩⟩
 rcases ws with _|⟨x2,ws⟩
 ·exact ⟨λ_=> .inl (by simp [Fh,zdf,Qq,Qv,h0,h1]),λh=>by simp at h⟩
 cases h2:(Qk x2).isSome
 ·have hn:Fh (x0::x1::x2::ws)=none:=by simp [Fh,Qq,Ji,Qv,h0,h1,h2]
  have hr:(Vn [100,97,107,98] (x0::x1::x2::ws) (Qr ze9)).2=false:=yb7
  exact ⟨λ_=> .inl hn,λ_=>⟨λ_=>hn,λh=>by rw [hr] at h;cases h⟩⟩
 rcases ws with _|⟨x3,ws⟩
 ·exact ⟨λ_=> .inl (by simp [Fh,Uo,Qq,Ji,Qv,h0,h1,h2]),λh=>by simp at h⟩
 cases h3:(zbo x3).2
 ·have hn:Fh (x0::x1::x2::x3::ws)=none:=by simp [Fh,Qq,Ja,Ji,Qv,h0,h1,h2,h3]
  have hr:(Vn [100,97,107,98] (x0::x1::x2::x3::ws) (Qr ze9)).2=false:=by simp [Vn,Qz,Qr,h0,h1,h2,h3]
  exact ⟨λ_=> .inl hn,λ_=>⟨λ_=>hn,λh=>by rw [hr] at h;cases h⟩⟩
 rcases ws with _|⟨z,ws⟩
 ·refine ⟨λh=>absurd rfl h,λ_=>⟨λh=>?_,λ_=>?_⟩⟩
  ·simp [Vn,Qz,Qr,h0,h1,h2,h3] at h
  ·refine ⟨_,by simp [Fh,Qq,Ja,Ji,Qv,h0,h1,h2,h3];rfl,?_⟩
   simp [Vn,Qz,Qr,dOf,h0,h1,h2,h3]
 ·refine ⟨λ_=> .inr ?_,λh=>by simp at h⟩
  simp [Fh,Qq,Ja,Ji,Qv,h0,h1,h2,h3]
theorem zua:zbi [100,97,107,98,99] zqd zdj:=by
 intro ws
 rcases ws with _|⟨x0,ws⟩
 ·exact ⟨λ_=> .inl (by simp [zdj,zbj]),λh=>by simp at h⟩
 cases h0:(Jt x0).isSome
 ·have hn:zdj (x0::ws)=none:=by simp [zdj,Qq,h0]
  have hr:(Vn [100,97,107,98,99] (x0::ws) (Qr zqd)).2=false:=ya2
  exact ⟨λ_=> .inl hn,λ_=>⟨λ_=>hn,λh=>by rw [hr] at h;cases h⟩⟩
 rcases ws with _|⟨x1,ws⟩
 ·exact ⟨λ_=> .inl (by simp [zdj,zbk,Qq,h0]),λh=>by simp at h⟩
 cases h1:(zbo x1).2
 ·have hn:zdj (x0::x1::ws)=none:=by simp [zdj,Qq,Qv,h0,h1]
  have hr:(Vn [100,97,107,98,99] (x0::x1::ws) (Qr zqd)).2=false:=ybd
  exact ⟨λ_=> .inl hn,λ_=>⟨λ_=>hn,λh=>by rw [hr] at h;cases h⟩⟩
 rcases ws with _|⟨x2,ws⟩
 ·exact ⟨λ_=> .inl (by simp [zdj,zdf,Qq,Qv,h0,h1]),λh=>by simp at h⟩
 cases h2:(Qk x2).isSome
 ·have hn:zdj (x0::x1::x2::ws)=none:=by simp [zdj,Qq,Ji,Qv,h0,h1,h2]
  have hr:(Vn [100,97,107,98,99] (x0::x1::x2::ws) (Qr zqd)).2=false:=yb7
  exact ⟨λ_=> .inl hn,λ_=>⟨λ_=>hn,λh=>by rw [hr] at h;cases h⟩⟩
 rcases ws with _|⟨x3,ws⟩
 ·exact ⟨λ_=> .inl (by simp [zdj,Uo,Qq,Ji,Qv,h0,h1,h2]),λh=>by simp at h⟩
 cases h3:(zbo x3).2
 ·have hn:zdj (x0::x1::x2::x3::ws)=none:=by simp [zdj,Qq,Ja,Ji,Qv,h0,h1,h2,h3]
  have hr:(Vn [100,97,107,98,99] (x0::x1::x2::x3::ws) (Qr zqd)).2=false:=by simp [Vn,Qz,Qr,h0,h1,h2,h3]
  exact ⟨λ_=> .inl hn,λ_=>⟨λ_=>hn,λh=>by rw [hr] at h;cases h⟩⟩
 rcases ws with _|⟨x4,ws⟩
 ·exact ⟨λ_=> .inl (by simp [zdj,Uo,Qq,Ja,Ji,Qv,h0,h1,h2,h3]),λh=>by simp at h⟩
 cases h4:(zbo x4).2
 ·have hn:zdj (x0::x1::x2::x3::x4::ws)=none:=by simp [zdj,Qq,Ja,Ji,Qv,h0,h1,h2,h3,h4]
  have hr:(Vn [100,97,107,98,99] (x0::x1::x2::x3::x4::ws) (Qr zqd)).2=false:=by simp [Vn,Qz,Qr,h0,h1,h2,h3,h4]
  exact ⟨λ_=> .inl hn,λ_=>⟨λ_=>hn,λh=>by rw [hr] at h;cases h⟩⟩
 rcases ws with _|⟨z,ws⟩
 ·refine ⟨λh=>absurd rfl h,λ_=>⟨λh=>?_,λ_=>?_⟩⟩
  ·simp [Vn,Qz,Qr,h0,h1,h2,h3,h4] at h
  ·refine ⟨_,by simp [zdj,Qq,Ja,Ji,Qv,h0,h1,h2,h3,h4];rfl,?_⟩
   simp [Vn,Qz,Qr,dOf,h0,h1,h2,h3,h4]
 ·refine ⟨λ_=> .inr ?_,λh=>by simp at h⟩
  simp [zdj,Qq,Ja,Ji,Qv,h0,h1,h2,h3,h4]
theorem zx1(op:Nat):zbi [100,97,98] (Jc op) (gop op):=by
 intro ws
 rcases ws with _|⟨x0,ws⟩
 ·exact ⟨λ_=> .inl (by simp [gop,zbj]),λh=>by simp at h⟩
 cases h0:(Jt x0).isSome
 ·have hn:(gop op) (x0::ws)=none:=by simp [gop,Qq,h0]
  have hr:(Vn [100,97,98] (x0::ws) (Qr (Jc op))).2=false:=ya2
  exact ⟨λ_=> .inl hn,λ_=>⟨λ_=>hn,λh=>by rw [hr] at h;cases h⟩⟩
 rcases ws with _|⟨x1,ws⟩
 ·exact ⟨λ_=> .inl (by simp [gop,Uo,Qq,h0]),λh=>by simp at h⟩
 cases h1:(zbo x1).2
 ·have hn:(gop op) (x0::x1::ws)=none:=by simp [gop,Qq,Ja,h0,h1]
  have hr:(Vn [100,97,98] (x0::x1::ws) (Qr (Jc op))).2=false:=ybd
  exact ⟨λ_=> .inl hn,λ_=>⟨λ_=>hn,λh=>by rw [hr] at h;cases h⟩⟩
 rcases ws with _|⟨x2,ws⟩
 ·exact ⟨λ_=> .inl (by simp [gop,Uo,Qq,Ja,h0,h1]),λh=>by simp at h⟩
 cases h2:(zbo x2).2
 ·have hn:(gop op) (x0::x1::x2::ws)=none:=by simp [gop,Qq,Ja,h0,h1,h2]
  have hr:(Vn [100,97,98] (x0::x1::x2::ws) (Qr (Jc op))).2=false:=yb7
  exact ⟨λ_=> .inl hn,λ_=>⟨λ_=>hn,λh=>by rw [hr] at h;cases h⟩⟩
 rcases ws with _|⟨z,ws⟩
 ·refine ⟨λh=>absurd rfl h,λ_=>⟨λh=>?_,λ_=>?_⟩⟩
  ·simp [Vn,Qz,Qr,h0,h1,h2] at h
  ·refine ⟨_,by simp [gop,Qq,Ja,h0,h1,h2];rfl,?_⟩
   simp [Vn,Qz,Qr,dOf,h0,h1,h2]
 ·refine ⟨λ_=> .inr ?_,λh=>by simp at h⟩
  simp [gop,Qq,Ja,h0,h1,h2]
theorem zpt:zbi [110] zjn zgb:=by
 intro ws
 rcases ws with _|⟨x0,ws⟩
 ·exact ⟨λ_=> .inl (by simp [zgb,zlk]),λh=>by simp at h⟩
 cases h0:((Qk x0).isSome&&decide (1<=(Qk x0).getD 0)&&decide ((Qk x0).getD 0<=9))
 ·have hn:zgb (x0::ws)=none:=by simp [zgb,Up,h0]
  have hr:(Vn [110] (x0::ws) (Qr zjn)).2=false:=ya2
  exact ⟨λ_=> .inl hn,λ_=>⟨λ_=>hn,λh=>by rw [hr] at h;cases h⟩⟩
 rcases ws with _|⟨z,ws⟩
 ·refine ⟨λh=>absurd rfl h,λ_=>⟨λh=>?_,λ_=>?_⟩⟩
  ·simp [Vn,Qz,Qr,h0] at h
  ·refine ⟨_,by simp [zgb,Up,h0];rfl,?_⟩
   simp only [Bool.and_eq_true,decide_eq_true_eq] at h0
   have hne: ¬(Qk x0).getD 0=10:=yai
   simp [Vn,Qz,Qr,dOf,h0.1.1,h0.1.2,h0.2,hne]
 ·refine ⟨λ_=> .inr ?_,λh=>by simp at h⟩
  simp [zgb,Up,h0]
def z4b(u f:ByteArray)(g:List ByteArray->Option (Ic×List ByteArray)):Prop:=
 (∃k,zqi u=some k/\f=⟨#[100,97,98]⟩/\g=gop k)\/
 (∃(n:Nat) (hn:n<11),zqi u=none/\Xy[n]'hn=u/\(∀j (h:j<n),Xy[j]'(Nat.lt_trans h hn)≠u)/\f=Xz[n]'hn/\zbi (Xz[n]'hn).data.toList u g/\ ∀ws,zbm u ws=g ws)
theorem zi4(h:zqi u=none)(ws:List ByteArray):zbm u ws=(if u=zyl then zly ws else if u=zf9 then Ia ws else if u=zae then Xq ws else if u=zqd then zdj ws else if u=ze9 then Fh ws else if u=zff then zfh ws
  else if u=zzh then zqg ws else if u=zzi then zqh ws else if u=wJz then gjz ws else if u=zjn then zgb ws else if u=znx then znz ws else none):=by
 unfold zbm
 rw [h]
theorem zpu(u:ByteArray):(∃f g,z4b u f g)\/(zqi u=none/\(∀j (h:j<Xy.length),Xy[j]≠u)/\ ∀ws,zbm u ws=none):=by
 cases ho:zqi u with
 |some k=>exact .inl ⟨_,_, .inl ⟨k,ho,rfl,rfl⟩⟩
 |none=>
  have hi:=zi4 ho
  by_cases e0:u=zyl
  ·subst e0;exact .inl ⟨_,_, .inr ⟨0,by decide,ho,rfl,by decide,rfl,zt8,λws=>by rw [hi];rfl⟩⟩
  by_cases e1:u=zf9
  ·subst e1;exact .inl ⟨_,_, .inr ⟨1,by decide,ho,rfl,by decide,rfl,zpr,λws=>by rw [hi];rfl⟩⟩
  by_cases e2:u=zae
  ·subst e2;exact .inl ⟨_,_, .inr ⟨2,by decide,ho,rfl,by decide,rfl,zlm,λws=>by rw [hi];rfl⟩⟩
  by_cases e3:u=zqd
  ·subst e3;exact .inl ⟨_,_, .inr ⟨3,by decide,ho,rfl,by decide,rfl,zua,λws=>by rw [hi];rfl⟩⟩
  by_cases e4:u=ze9
  ·subst e4;exact .inl ⟨_,_, .inr ⟨4,by decide,ho,rfl,by decide,rfl,zps,λws=>by rw [hi];rfl⟩⟩
  by_cases e5:u=zff
  ·subst e5;exact .inl ⟨_,_, .inr ⟨5,by decide,ho,rfl,by decide,rfl,zll,λws=>by rw [hi];rfl⟩⟩
  by_cases e6:u=zzh
  ·subst e6;exact .inl ⟨_,_, .inr ⟨6,by decide,ho,rfl,by decide,rfl,zt7,λws=>by rw [hi];rfl⟩⟩
  by_cases e7:u=zzi
  ·subst e7;exact .inl ⟨_,_, .inr ⟨7,by decide,ho,rfl,by decide,rfl,zt9,λws=>by rw [hi];rfl⟩⟩
  by_cases e8:u=wJz
  ·subst e8;exact .inl ⟨_,_, .inr ⟨8,by decide,ho,rfl,by decide,rfl,zx0,λws=>by rw [hi];rfl⟩⟩
  by_cases e9:u=zjn
  ·subst e9;exact .inl ⟨_,_, .inr ⟨9,by decide,ho,rfl,by decide,rfl,zpt,λws=>by rw [hi];rfl⟩⟩
  by_cases e10:u=znx
  ·subst e10;exact .inl ⟨_,_, .inr ⟨10,by decide,ho,rfl,by decide,rfl,zpq,λws=>by rw [hi];rfl⟩⟩
  refine .inr ⟨rfl,?_,λws=>by rw [hi,if_neg e0,if_neg e1,if_neg e2,if_neg e3,if_neg e4,if_neg e5,if_neg e6,if_neg e7,if_neg e8,if_neg e9,if_neg e10]⟩
  intro j hj
  have hj':j<11:=hj
  have hc:j=0\/j=1\/j=2\/j=3\/j=4\/j=5\/j=6\/j=7\/j=8\/j=9\/j=10:=yai
  rcases hc with rfl|rfl|rfl|rfl|rfl|rfl|rfl|rfl|rfl|rfl|rfl
  ·exact λe=>e0 e.symm
  ·exact λe=>e1 e.symm
  ·exact λe=>e2 e.symm
  ·exact λe=>e3 e.symm
  ·exact λe=>e4 e.symm
  ·exact λe=>e5 e.symm
  ·exact λe=>e6 e.symm
  ·exact λe=>e7 e.symm
  ·exact λe=>e8 e.symm
  ·exact λe=>e9 e.symm
  ·exact λe=>e10 e.symm
theorem zpv(h:zqi u=some k): ∀j,j<k->Jc j≠u:=by
 intro j hj e
 unfold zqi at h
 obtain ⟨h1,xs,ys,h2,h3⟩:=List.find?_eq_some_iff_append.1 h
 have hk:xs.length=k:=by
  have hlen:xs.length<12:=ydt
  have:=congrArg (λl=>l[xs.length]?) h2
  simp [hlen] at this
  exact this
 have:xs[j]?=some j:=by
  have:=congrArg (λl=>l[j]?) h2
  simp [List.getElem?_append_left (show j<xs.length by omega)] at this
  rw [<-this]
  have:j<12:=ydt
  simp [this]
 have:=h3 j (List.mem_of_getElem? this)
 simp [e] at this
theorem zi5(n:Nat)(hn:n<11): ∀j (h:j<(Xz[n]'hn).size),(Xz[n]'hn)[j]=100\/(Xz[n]'hn)[j]=97\/(Xz[n]'hn)[j]=98\/(Xz[n]'hn)[j]=99\/(Xz[n]'hn)[j]=107\/(Xz[n]'hn)[j]=116\/(Xz[n]'hn)[j]=110:=by
 have key: ∀n (hn:n<11),∀b∈(Xz[n]'hn).data.toList,b=100\/b=97\/b=98\/b=99\/b=107\/b=116\/b=110:=yal
 intro j h
 refine key n hn _ ?_
 rw [ByteArray.getElem_eq_getElem_data]
 simp
theorem zub: ∀n (hn:n<11),(Xz[n]'hn).size<=5:=yal
theorem zx2: ∀n (hn:n<11),((Xz[n]'hn).data.toList==[63])=false:=yal
end Go.Proofs.YtphcopbffecceaaGreatDoor
