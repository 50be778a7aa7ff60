import Derived.Test.YtkenoofmkbghiaaGreatDoorB22
import Derived.ChangeKeysEq
import Derived.Test.YtkenoofmkbghiaaGreatDoorB27
set_option maxRecDepth 100000
set_option maxHeartbeats 4000000
namespace Go.Proofs.YtkenoofmkbghiaaGreatDoor
open Go.RowKit
variable{W W':World}{B b j:Nat}{s:St}{T e:TypeId}{bs:List Value}
def Cx.loopC(x:Cx)(n:Int)(body:Ck->Ck)(s:Ck):Ck:=
 let left:=x.own (36+(s.loops:Int))
 let s1:=({s with loops:=s.loops+1}:Ck).add [Qh,y0,left,dec n]
 let s3:=(((body s1).add [Qw,yR4,y0,left]).add [zyo,yR4,yR4,y1]).add [Qh,y0,left,yR4]
 let s4:=((s3.add [yJz,yR4]).back s1.L.length).land s3.L.length
 {s4 with loops:=s4.loops- 1}
section
variable{W w w':World}{x:Cx}{K:List (Nat×Nat×Value)}{m:Cm}{c:Nat}{s:Ck}{rv:Value}
theorem zbw(z:Int)(h0:0<=z)(h1:z<=1000):wrap64 z=z:=yul
theorem Cd.setLoops(h:Cd W x K m w c s)(n:Nat):Cd W x K m (w.setCell ⟨c,4,none⟩ (.int .i64 n)) c {s with loops:=n}:=by
 have lb:=h.lt
 have hset:Chg (λk j=>k=c/\j=4) w (w.setCell ⟨c,4,none⟩ (.int .i64 n)):=(Chg.refl _ w).setCell (λ_=>⟨rfl,rfl⟩) _
 have nk: ∀k l,m.lab k=l->l≠1->∀j,¬(k=c/\j=4):=λk l hk h1 j e=>h1 yvw
 have hM: ∀k j,k<w.heap.size->(k=c/\j=4)->m.lab k≠0:=by
  rintro k j _ ⟨rfl,_⟩
  rw [h.lc];omega
 have kc: ∀j,j≠4->¬(c=c/\j=4):=λj hj e=>hj e.2
 refine h.turn ⟨h.ok.l,h.ok.z,h.ok.t,h.ok.tb,h.ok.u⟩ hset (λk j hk e=>⟨hM k j hk e,λ_=>by omega⟩) (λ_ _=>rfl) (λk hk=>h.lz k yu1) ((hset.cell _ _ lb (kc 0 yue)).trans h.c0) (Qg h.c4 rfl) ((hset.cell _ _ lb (kc 5 yue)).trans h.c5) ((hset.cell _ _ lb (kc 6 yue)).trans h.c6) (Qc h.lrow hset (λq hq=>nk _ _ (h.llv q hq) yue)) (Qc h.trow hset (λq hq=>nk _ _ (h.ltv q hq) yue)) (h.tl.keep hset hM λ_ _ e=>e) (λk' hk'=>?_) h.llv h.ltv
 have hb:=h.bk k' hk'
 exact hb.keep hset hM (nk _ _ hb.lbk yue) (λq hq=>nk _ _ (hb.luv q hq) yue) (λ_ _=>rfl) rfl rfl rfl
theorem Cw.setLoops(h:Cw W x K w c s)(n:Nat):Cw W x K (w.setCell ⟨c,4,none⟩ (.int .i64 n)) c {s with loops:=n}:=let ⟨m,h⟩:=h;⟨m,h.setLoops n⟩
theorem Cw.free(h:Cw W x K w c s)(j:Nat):w.frozen? ⟨c,j,none⟩=false:=let ⟨_,h⟩:=h;h.free j
theorem z24(h:Cw W x K w c s){n:Int}(hn:0<=n/\n<=100)(hj0:W.cell? ⟨j,0,none⟩=some rv)(hj1:W.cell? ⟨j,1,none⟩=some (.int .i64 n))(hlo:s.loops<=10)
  (body:Ck->Ck) (KB:Hid (∀K w,Cw W x K w c (({s with loops:=s.loops+1}:Ck).add [Qh,y0,x.own (36+(s.loops:Int)),dec n])->Cl 40 #[ptr c,rv] w λe w'=>e= .returned (.tuple #[])/\Cw W x K w' c (body (({s with loops:=s.loops+1}:Ck).add [Qh,y0,x.own (36+(s.loops:Int)),dec n]))))
  (hbl:s.L.length+1<=(body (({s with loops:=s.loops+1}:Ck).add [Qh,y0,x.own (36+(s.loops:Int)),dec n])).L.length) (hbo:(body (({s with loops:=s.loops+1}:Ck).add [Qh,y0,x.own (36+(s.loops:Int)),dec n])).loops=s.loops+1) (hbg:(body (({s with loops:=s.loops+1}:Ck).add [Qh,y0,x.own (36+(s.loops:Int)),dec n])).g+100<10000000) (hG:s.g+300<1000000):
  Cl 109 #[ptr c,ptr j] w λe w'=>e= .returned (.tuple #[])/\Cw W x K w' c (x.loopC n body s):=by
 have hth:=h.th
 have hL:=h.ok.l
 have hR:x.loopC n body s={((((((body (({s with loops:=s.loops+1}:Ck).add [Qh,y0,x.own (36+(s.loops:Int)),dec n])).add [Qw,yR4,y0,x.own (36+(s.loops:Int))]).add [zyo,yR4,yR4,y1]).add [Qh,y0,x.own (36+(s.loops:Int)),yR4]).add [yJz,yR4]).back (s.L.length+1)).land ((((body (({s with loops:=s.loops+1}:Ck).add [Qh,y0,x.own (36+(s.loops:Int)),dec n])).add [Qw,yR4,y0,x.own (36+(s.loops:Int))]).add [zyo,yR4,yR4,y1]).add [Qh,y0,x.own (36+(s.loops:Int)),yR4]).L.length with loops:=s.loops}:=by
  simp only [Cx.loopC,Qx]
  congr 1
  show (body _).loops- 1=_
  rw [hbo];rfl
 rw [hR]
 have HJ:=hid (λ(K:List (Nat×Nat×Value)) (w:World) (s:Ck) (h:Cw W x K w c s)=>(⟨h.old hj0,h.old hj1⟩:w.cell? ⟨j,0,none⟩=some rv/\w.cell? ⟨j,1,none⟩=some (.int .i64 n)))
 have c4:=h.c4
 have H0:=hid h
 have lb:=h.lt
 have hsl:(x.own (36+(s.loops:Int))).size<=30:=Ea hth _ yue yue
 have hsn:(dec n).size<=30:=Sp _ yue yue
 have hOW:=hid (yjr h (36+(s.loops:Int)) yue yue)
 generalize hleft:x.own (36+(s.loops:Int))=left at*
 clear h hj0 hj1 hR hleft
 have hl0:(0:Int)<=(s.loops:Int):=yue
 have hl1:(s.loops:Int)<=10:=yue
 generalize hlo':(s.loops:Int)=lo at*
 have q1:=zbw (36+lo) yue yue
 have q2:=zbw (lo+1) yue yue
 have q3:wrap64 (lo+1- 1)=lo:=by rw [Int.add_sub_cancel];exact zbw _ yue yue
 go_enter Tryz.func109,Tryz.ntmps109
 go_wp2_with fail
 refine hOW.out.mono ?_
 rintro e w1 ⟨rfl,q⟩
 have d4:=q.c4
 rw [hlo'] at d4
 have df:=q.free 4
 have H1:=hid (q.setLoops (s.loops+1))
 have lb1:=q.lt
 clear q c4 hOW H0
 rw [show (((s.loops+1:Nat)):Int)=lo+1 from by omega] at H1
 go_wp2_with fail
 generalize hw1:w1.setCell ⟨c,4,none⟩ (.int .i64 (lo+1))=w2 at*
 obtain ⟨e0,e1⟩:=HJ.out _ _ _ H1.out
 clear d4 df hw1
 go_region_held3 (λw'=>w'.cell? ⟨j,1,none⟩=some (.int .i64 n)) (go_keep)
  (first
   |(go_at_call 72;refine (zag H1.out.drew n yue yue).mono ?_;rintro e w3 ⟨rfl,q⟩;have H3:=hid q;clear q;have f3:=(HJ.out _ _ _ H3.out).2)
   |(go_at_call 71;refine (Qp H3.out [Qh,y0,left,dec n] yuf ⟨by decide,by decide,hsl,hsn,trivial⟩ (by show s.g<_;omega)).mono ?_;rintro e w4 ⟨rfl,q⟩;have H4:=hid q;clear q;have f4:=(HJ.out _ _ _ H4.out).2))
 all_goals
  obtain ⟨g0,g1⟩:=HJ.out _ _ _ H4.out
  go_wp2_with fail
  refine (zbu H4.out).mono ?_
  rintro e w5 ⟨rfl,rfl⟩
  rw [show (({s with loops:=s.loops+1}:Ck).add [Qh,y0,left,dec n]).L.length=s.L.length+1 from by rw [Qx]]
  go_wp2_with fail
  refine (KB.out _ _ H4.out).mono ?_
  rintro e w6 ⟨rfl,q⟩
  have H6:=hid q
  clear q H4 KB
  generalize hbody:body (({s with loops:=s.loops+1}:Ck).add [Qh,y0,left,dec n])=B at*
  go_wp2_with fail
  refine (Qp H6.out [Qw,yR4,y0,left] yuf ⟨by decide,by decide,by decide,hsl,trivial⟩ yue).mono ?_
  rintro e w7 ⟨rfl,q⟩
  have H7:=hid q
  clear q H6
  go_wp2_with fail
  refine (Qp H7.out [zyo,yR4,yR4,y1] yuf ⟨by decide,by decide,by decide,by decide,trivial⟩ (by show B.g+1<_;omega)).mono ?_
  rintro e w8 ⟨rfl,q⟩
  have H8:=hid q
  clear q H7
  go_wp2_with fail
  refine (Qp H8.out [Qh,y0,left,yR4] yuf ⟨by decide,by decide,hsl,by decide,trivial⟩ (by show B.g+2<_;omega)).mono ?_
  rintro e w9 ⟨rfl,q⟩
  have H9:=hid q
  clear q H8
  go_wp2_with fail
  refine (Xo H9.out [yJz,yR4] yuf ⟨by decide,by decide,trivial⟩ (by show B.g+3<_;omega)).mono ?_
  rintro e w10 ⟨bl,ba,rfl,q⟩
  have H10:=hid q
  clear q H9
  go_wp2_with fail
  refine (zq1 H10.out (n:=s.L.length+1) yue (by show B.g+4<_;omega)).mono ?_
  rintro e w11 ⟨rfl,q⟩
  have H11:=hid q
  clear q H10
  go_wp2_with fail
  refine (Se H11.out (bl:=bl) (ba:=ba) (n:=(((B.add [Qw,yR4,y0,left]).add [zyo,yR4,yR4,y1]).add [Qh,y0,left,yR4]).L.length) yuf yuf (by simp only [Qx,zak];omega) (by show B.g+5<_;omega)).mono ?_
  rintro e w12 ⟨rfl,q⟩
  have d4:=q.c4
  have hlB:((((((B.add [Qw,yR4,y0,left]).add [zyo,yR4,yR4,y1]).add [Qh,y0,left,yR4]).add [yJz,yR4]).back (s.L.length+1)).land (((B.add [Qw,yR4,y0,left]).add [zyo,yR4,yR4,y1]).add [Qh,y0,left,yR4]).L.length).loops=s.loops+1:=hbo
  rw [hlB,show (((s.loops+1:Nat)):Int)=lo+1 from by omega] at d4
  have df:=q.free 4
  have H12:=hid ((q.setLoops s.loops).less (K':=K) (λp hp=>List.mem_cons_of_mem _ (List.mem_cons_of_mem _ hp)))
  rw [hlo'] at H12
  clear q H11
  go_wp2
  go_end0
  subst hbody
  exact ⟨rfl,H12.out⟩
end
section
variable{W w w':World}{x:Cx}{K:List (Nat×Nat×Value)}{m:Cm}{c:Nat}{s:Ck}
theorem zhs(x:Cx)(s:Ck):s.L.length<(x.undoC s).L.length:=by
 simp only [Cx.undoC,zak]
 have:=(Xj x).eachL s.bk.puts 0 (s.lands s.bk.undo)
 rw [zhq] at this
 omega
theorem zrb(x:Cx)(s:Ck):(x.undoC s).g<=s.g+s.bk.undo.length+s.bk.puts.length*6+1:=by
 have:=(Xj x).eachG s.bk.puts 0 (s.lands s.bk.undo)
 rw [If] at this
 show (Qn (λi=>x.unlockC i) s.bk.puts 0 (s.lands s.bk.undo)).g+1<=_
 omega
theorem zrc(x:Cx)(s:Ck){k:Bk}(hk:s.blk=some k): ∃k',(x.undoC s).blk=some k'/\k.sim k':=
 (Xj x).eachK s.bk.puts 0 (s.lands s.bk.undo) k ((Ig _ _).trans hk)
theorem zl8(h:Cw W x K w c s){k:Bk}(hk:s.blk=some k)(hA:k.again<100000000)(hG:s.g+1000<1000000):
  Cl 137 #[ptr c] w λe w'=>e= .returned (.tuple #[])/\Cw W x K w' c (x.commit s):=by
 obtain ⟨b,c5,hb⟩:=h.cells hk
 obtain ⟨p0,p1,p2,p3,p4,p5,hp⟩:=zn9 hb.n2
 obtain ⟨q0,q1,q2,q3,q4,q5,hq⟩:=zn9 hb.n1
 have hR:x.commit s=((x.undoC (((Qn (λi=>x.storeC i) [p0,p1,p2,p3,p4,p5] 0 (Qn (λi=>x.lookC i) [q0,q1,q2,q3,q4,q5] 0 (((Qn (λi=>x.lockC i) [p0,p1,p2,p3,p4,p5] 0 s).add [Xf,yR5,y0,dec 12,y1]).add [yjq,yR5,yR5,y1]))).add [Yn]).add [zaa])).land ((Qn (λi=>x.storeC i) [p0,p1,p2,p3,p4,p5] 0 (Qn (λi=>x.lookC i) [q0,q1,q2,q3,q4,q5] 0 (((Qn (λi=>x.lockC i) [p0,p1,p2,p3,p4,p5] 0 s).add [Xf,yR5,y0,dec 12,y1]).add [yjq,yR5,yR5,y1]))).add [Yn]).L.length):=by
  simp only [Cx.commit,Sq hk,hp,hq]
 rw [hR]
 have g0:=hb.p 0 p0 yun
 have g1:=hb.p 1 p1 yun
 have g2:=hb.p 2 p2 yun
 have g3:=hb.p 3 p3 yun
 have g4:=hb.p 4 p4 yun
 have g5:=hb.p 5 p5 yun
 simp only [Nat.reduceAdd] at g0 g1 g2 g3 g4 g5
 obtain ⟨k1,hk1,s1⟩:=(Id x).eachK [p0,p1,p2,p3,p4,p5] 0 s k hk
 have hg1:=(Id x).eachG [p0,p1,p2,p3,p4,p5] 0 s
 have H0:=hid h
 have hmf: ∀(fn:Fn) (first cap:Array Value) (w:World),(Instr.makeFunc fn first cap).run Tryz.prog w= .ok (.func fn first cap) w:=λ_ _ _ _=>rfl
 simp only [List.length_cons,List.length_nil] at hg1
 clear h hR hb
 go_enter Tryz.func137,Tryz.ntmps137
 go_wp2_with fail
 refine (zgk (λi=>x.lockC i) (Id x) zz5 (λi w s k hi h hk hG=>z2n h hk yue yue hG) H0.out hk yue).mono ?_
 rintro e w1 ⟨rfl,q⟩
 have H1:=hid q
 clear q g0 g1 g2 g3 g4 g5 c5
 generalize hS1:Qn (λi=>x.lockC i) [p0,p1,p2,p3,p4,p5] 0 s=S1 at*
 go_wp2_with fail
 go_region_law (first
  |(go_simp;go_at_call 157;refine (zqw H1.out.drew).mono ?_;rintro e w2 ⟨rfl,q⟩;have H2:=hid q;clear q)
  |(go_simp;go_at_call 71;refine (Qp H2.out [Xf,yR5,y0,dec 12,y1] yuf ⟨by decide,by decide,by decide,Sp _ yue yue,by decide,trivial⟩ yue).mono ?_;rintro e w3 ⟨rfl,q⟩;have H3:=hid q;clear q))
 go_wp2_with fail
 refine (Qp H3.out [yjq,yR5,yR5,y1] yuf ⟨by decide,by decide,by decide,by decide,trivial⟩ (by show S1.g+1<_;omega)).mono ?_
 rintro e w4 ⟨rfl,q⟩
 have hk2:((S1.add [Xf,yR5,y0,dec 12,y1]).add [yjq,yR5,yR5,y1]).blk=some k1:=hk1
 obtain ⟨b2,c5,hb⟩:=q.cells hk2
 have hq1:k1.gets=[q0,q1,q2,q3,q4,q5]:=s1.1.trans hq
 have g0:=hb.g 0 q0 yu7
 have g1:=hb.g 1 q1 yu7
 have g2:=hb.g 2 q2 yu7
 have g3:=hb.g 3 q3 yu7
 have g4:=hb.g 4 q4 yu7
 have g5:=hb.g 5 q5 yu7
 have H4:=hid q
 have hg2:((S1.add [Xf,yR5,y0,dec 12,y1]).add [yjq,yR5,yR5,y1]).g=S1.g+2:=rfl
 clear q hb H2 H3 H1
 generalize hS2:(S1.add [Xf,yR5,y0,dec 12,y1]).add [yjq,yR5,yR5,y1]=S2 at*
 obtain ⟨k3,hk3,s3⟩:=(Ie x).eachK [q0,q1,q2,q3,q4,q5] 0 S2 k1 hk2
 have hg3:=(Ie x).eachG [q0,q1,q2,q3,q4,q5] 0 S2
 simp only [List.length_cons,List.length_nil] at hg3
 go_wp2_with fail
 refine (zgk (λi=>x.lookC i) (Ie x) zz6 (λi w s k hi h hk hG=>z2o h hk yue yue hG) H4.out hk2 yue).mono ?_
 rintro e w5 ⟨rfl,q⟩
 clear g0 g1 g2 g3 g4 g5 c5
 obtain ⟨b3,c5,hb⟩:=q.cells hk3
 have hp3:k3.puts=[p0,p1,p2,p3,p4,p5]:=s3.2.1.trans (s1.2.1.trans hp)
 have g0:=hb.p 0 p0 yu8
 have g1:=hb.p 1 p1 yu8
 have g2:=hb.p 2 p2 yu8
 have g3:=hb.p 3 p3 yu8
 have g4:=hb.p 4 p4 yu8
 have g5:=hb.p 5 p5 yu8
 simp only [Nat.reduceAdd] at g0 g1 g2 g3 g4 g5
 have H5:=hid q
 clear q hb H4
 generalize hS3:Qn (λi=>x.lookC i) [q0,q1,q2,q3,q4,q5] 0 S2=S3 at*
 obtain ⟨k4,hk4,s4⟩:=(Fm x).eachK [p0,p1,p2,p3,p4,p5] 0 S3 k3 hk3
 have hg4:=(Fm x).eachG [p0,p1,p2,p3,p4,p5] 0 S3
 simp only [List.length_cons,List.length_nil] at hg4
 go_wp2_with fail
 refine (zgk (λi=>x.storeC i) (Fm x) zvt (λi w s k hi h hk hG=>zz2 h yue yue hG) H5.out hk3 yue).mono ?_
 rintro e w6 ⟨rfl,q⟩
 have H6:=hid q
 clear q g0 g1 g2 g3 g4 g5 c5 H5
 generalize hS4:Qn (λi=>x.storeC i) [p0,p1,p2,p3,p4,p5] 0 S3=S4 at*
 go_wp2_with fail
 refine (Qp H6.out [Yn] yuf ⟨by decide,trivial⟩ yue).mono ?_
 rintro e w7 ⟨rfl,q⟩
 have H7:=hid q
 clear q H6
 go_wp2_with fail
 refine (Xo H7.out [zaa] yuf ⟨by decide,trivial⟩ (by show S4.g+1<_;omega)).mono ?_
 rintro e w8 ⟨bl,ba,rfl,q⟩
 have hk8:((S4.add [Yn]).add [zaa]).blk=some k4:=hk4
 have hu:=(q.ok.u k4 hk8).1
 have hu':k4.undo.length<=S4.g+2:=hu
 have hn4:k4.puts.length=6:=by rw [s4.2.1,s3.2.1,s1.2.1,hp];rfl
 have ha4:k4.again=k.again:=s4.2.2.2.2.trans (s3.2.2.2.2.trans s1.2.2.2.2)
 have H8:=hid q
 clear q H7 hu
 go_wp2_with fail
 refine (z21 H8.out hk8 yue (by show S4.g+2+_+200<_;omega)).mono ?_
 rintro e w9 ⟨rfl,q⟩
 have H9:=hid q
 clear q H8
 have hl9:=zhs x ((S4.add [Yn]).add [zaa])
 have hg9:=zrb x ((S4.add [Yn]).add [zaa])
 rw [Sq hk8,hn4] at hg9
 have hg9':(x.undoC ((S4.add [Yn]).add [zaa])).g<=S4.g+2+k4.undo.length+6*6+1:=hg9
 go_wp2_with fail
 refine (Se H9.out (bl:=bl) (ba:=ba) (n:=(S4.add [Yn]).L.length) yuf yuf (by simp only [Qx] at hl9⊢;omega) yue).mono ?_
 rintro e w10 ⟨rfl,q⟩
 have H10:=hid q
 clear q H9
 go_wp2
 go_end0
 subst hS4 hS3 hS2 hS1
 exact ⟨rfl,H10.out.less (K':=K) (λp hp=>List.mem_cons_of_mem _ (List.mem_cons_of_mem _ hp))⟩
end
theorem z6b(p1 p2 p3 p4 p5:Bool)(w:World):(Op.eqItems 9999 4 (Tryz.prog.cellsOf 4) #[.bool true, .bool p1, .bool p2, .bool p3, .bool p4, .bool p5] #[.bool false, .bool false, .bool false, .bool false, .bool false, .bool false] (List.range 6)).run Tryz.prog w= .ok false w:=yug
theorem z6c(p2 p3 p4 p5:Bool)(w:World):(Op.eqItems 9999 4 (Tryz.prog.cellsOf 4) #[.bool false, .bool true, .bool p2, .bool p3, .bool p4, .bool p5] #[.bool false, .bool false, .bool false, .bool false, .bool false, .bool false] (List.range 6)).run Tryz.prog w= .ok false w:=yug
theorem z6d(p3 p4 p5:Bool)(w:World):(Op.eqItems 9999 4 (Tryz.prog.cellsOf 4) #[.bool false, .bool false, .bool true, .bool p3, .bool p4, .bool p5] #[.bool false, .bool false, .bool false, .bool false, .bool false, .bool false] (List.range 6)).run Tryz.prog w= .ok false w:=yug
theorem z6e(p4 p5:Bool)(w:World):(Op.eqItems 9999 4 (Tryz.prog.cellsOf 4) #[.bool false, .bool false, .bool false, .bool true, .bool p4, .bool p5] #[.bool false, .bool false, .bool false, .bool false, .bool false, .bool false] (List.range 6)).run Tryz.prog w= .ok false w:=yug
theorem z6f(p5:Bool)(w:World):(Op.eqItems 9999 4 (Tryz.prog.cellsOf 4) #[.bool false, .bool false, .bool false, .bool false, .bool true, .bool p5] #[.bool false, .bool false, .bool false, .bool false, .bool false, .bool false] (List.range 6)).run Tryz.prog w= .ok false w:=yug
theorem z6g(w:World):(Op.eqItems 9999 4 (Tryz.prog.cellsOf 4) #[.bool false, .bool false, .bool false, .bool false, .bool false, .bool true] #[.bool false, .bool false, .bool false, .bool false, .bool false, .bool false] (List.range 6)).run Tryz.prog w= .ok false w:=yug
theorem z6h(w:World):(Op.eqItems 9999 4 (Tryz.prog.cellsOf 4) #[.bool false, .bool false, .bool false, .bool false, .bool false, .bool false] #[.bool false, .bool false, .bool false, .bool false, .bool false, .bool false] (List.range 6)).run Tryz.prog w= .ok true w:=yug
theorem zvy: ∃i,Tryz.prog.info? 4=some i:=Option.isSome_iff_exists.1 yug
theorem eq6(w:World)(p0 p1 p2 p3 p4 p5:Bool):(Op.equalIn 10000 283 (.agg #[.bool p0, .bool p1, .bool p2, .bool p3, .bool p4, .bool p5]) (.agg #[.bool false, .bool false, .bool false, .bool false, .bool false, .bool false])).run Tryz.prog w= .ok (!(p0||p1||p2||p3||p4||p5)) w:=by
 obtain ⟨i,hi⟩:=zvy
 rw [run_equalIn_array w 9999 _ _ Tryz.underlying283 hi]
 cases p0 with
 |true=>exact z6b _ _ _ _ _ w
 |false=>
  cases p1 with
  |true=>exact z6c _ _ _ _ w
  |false=>
   cases p2 with
   |true=>exact z6d _ _ _ w
   |false=>
    cases p3 with
    |true=>exact z6e _ _ w
    |false=>
     cases p4 with
     |true=>exact z6f _ w
     |false=>
      cases p5 with
      |true=>exact z6g w
      |false=>
       exact z6h w
structure NewBk(w:World)(b:Nat)(k:Bk):Prop where
 sh:w.shape? b=some (286,19)
 cs:BkCells w b k
 un:w.cell? ⟨b,18,none⟩=some (.slice none 0 0)
 free: ∀j,w.frozen? ⟨b,j,none⟩=false
 u:k.undo=[]
def Cx.atomicC(x:Cx)(k:Bk)(body:Ck->Ck)(s:Ck):Ck:=
 let s2:=body (x.begin {s with blk:=some k})
 let s3:=if k.puts=[false,false,false,false,false,false] then s2 else x.commit s2
 let s4:=if k.gives=true then x.give s3 else s3
 {s4 with blk:=none}
section
variable{W w w':World}{x:Cx}{K:List (Nat×Nat×Value)}{m:Cm}{c:Nat}{s:Ck}{rv:Value}
theorem Cd.setBlk(h:Cd W x K m w c s)(hb:Below w.heap.size w w')(hn:w.heap.size<=b){k:Bk}(hk:NewBk w' b k):
  Cw W x K (w'.setCell ⟨c,5,none⟩ (ptr b)) c {s with blk:=some k}:=by
 have lb:=h.lt
 have lbb:=Qd hk.sh
 have hcb:b≠c:=yue
 have hset:Chg (λk j=>k=c/\j=5) w' (w'.setCell ⟨c,5,none⟩ (ptr b)):=(Chg.refl _ w').setCell (λ_=>⟨rfl,rfl⟩) _
 have hall:Chg (λk j=>k=c/\j=5) w (w'.setCell ⟨c,5,none⟩ (ptr b)):=(Chg.of_below hb).trans hset
 have nk: ∀k l,m.lab k=l->l≠1->∀j,¬(k=c/\j=5):=λk l hk h1 j e=>h1 yvw
 have hM: ∀k j,k<w.heap.size->(k=c/\j=5)->m.lab k≠0:=by
  rintro k j _ ⟨rfl,_⟩
  rw [h.lc];omega
 have hold: ∀k,k<w.heap.size->(if k=b then 4 else m.lab k)=m.lab k:=λk hk=>if_neg yue
 have kc: ∀j,j≠5->¬(c=c/\j=5):=λj hj e=>hj e.2
 have cc: ∀j,(w'.setCell ⟨c,5,none⟩ (ptr b)).cell? ⟨b,j,none⟩=w'.cell? ⟨b,j,none⟩:=λj=>Qb (.inl hcb)
 refine ⟨{m with lab:=λk=>if k=b then 4 else m.lab k,b:=b,uv:= .slice none 0 0,UV:=[]},h.turn ⟨h.ok.l,h.ok.z,h.ok.t,h.ok.tb,λk' hk'=>?_⟩ hall (λk j hk e=>⟨hM k j hk e,λ_=>by omega⟩) hold (λq hq=>?_) ((hall.cell _ _ lb (kc 0 yue)).trans h.c0) ((hall.cell _ _ lb (kc 4 yue)).trans h.c4) (Qg ((hb.cell (p:=⟨c,5,none⟩) lb).trans h.c5) rfl) ((hall.cell _ _ lb (kc 6 yue)).trans h.c6) (Qc h.lrow hall (λq hq=>nk _ _ (h.llv q hq) yue)) (Qc h.trow hall (λq hq=>nk _ _ (h.ltv q hq) yue)) (h.tl.keep hall hM λk hk e=>(hold k hk).trans e) (λk' hk'=>?_) (λq hq=>(hold q (h.lrow.lt q hq).2).trans (h.llv q hq)) (λq hq=>(hold q (h.trow.lt q hq).2).trans (h.ltv q hq))⟩
 ·cases hk'
  rw [hk.u]
  exact ⟨Nat.zero_le _,λn hn=>by simp at hn⟩
 ·show (if q=b then 4 else m.lab q)=0
  have:w'.heap.size<=q:=by simpa [Jq] using hq
  rw [if_neg yue]
  exact h.lz q (Nat.le_trans hb.size this)
 ·cases hk'
  exact {
   sh:=(Ui _ _ _ _).trans hk.sh
   g:=λi v hv=>(cc _).trans (hk.cs.g i v hv),p:=λi v hv=>(cc _).trans (hk.cs.p i v hv),ch:=λi v hv=>(cc _).trans (hk.cs.ch i v hv)
   gv:=(cc _).trans hk.cs.gv,ag:=(cc _).trans hk.cs.ag,un:=(cc _).trans hk.un
   free:=λj=>(World.frozen?_setCell _ _ _ _).trans (hk.free j)
   urow:=by rw [hk.u];exact ⟨rfl, .inl ⟨rfl,rfl⟩⟩
   ul:=by rw [hk.u];exact ⟨rfl,λi f n hf=>by simp at hf⟩
   lbk:=if_pos rfl,luv:=λg hg=>by simp [Value.ownBlock] at hg
   n1:=hk.cs.n1,n2:=hk.cs.n2,n3:=hk.cs.n3}
theorem Cw.c5any(h:Cw W x K w c s): ∃v,w.cell? ⟨c,5,none⟩=some v:=let ⟨_,h⟩:=h;⟨_,h.c5⟩
theorem Cw.noBlk(h:Cw W x K w c s):Cw W x K (w.setCell ⟨c,5,none⟩ (.pointer none)) c {s with blk:=none}:=by
 obtain ⟨m,h⟩:=h
 have lb:=h.lt
 have hset:Chg (λk j=>k=c/\j=5) w (w.setCell ⟨c,5,none⟩ (.pointer none)):=(Chg.refl _ w).setCell (λ_=>⟨rfl,rfl⟩) _
 have nk: ∀k l,m.lab k=l->l≠1->∀j,¬(k=c/\j=5):=λk l hk h1 j e=>h1 yvw
 have hM: ∀k j,k<w.heap.size->(k=c/\j=5)->m.lab k≠0:=by
  rintro k j _ ⟨rfl,_⟩
  rw [h.lc];omega
 have kc: ∀j,j≠5->¬(c=c/\j=5):=λj hj e=>hj e.2
 exact ⟨m,h.turn ⟨h.ok.l,h.ok.z,h.ok.t,h.ok.tb,λk' hk'=>by cases hk'⟩ hset (λk j hk e=>⟨hM k j hk e,λ_=>by omega⟩) (λ_ _=>rfl) (λk hk=>h.lz k yu1) ((hset.cell _ _ lb (kc 0 yue)).trans h.c0) ((hset.cell _ _ lb (kc 4 yue)).trans h.c4) (Qg h.c5 rfl) ((hset.cell _ _ lb (kc 6 yue)).trans h.c6) (Qc h.lrow hset (λq hq=>nk _ _ (h.llv q hq) yue)) (Qc h.trow hset (λq hq=>nk _ _ (h.ltv q hq) yue)) (h.tl.keep hset hM λ_ _ e=>e) (λk' hk'=>by cases hk') h.llv h.ltv⟩
theorem zfn(x:Cx){k:Bk}(hk:s.blk=some k): ∃k',(x.commit s).blk=some k'/\k.sim k':=by
 obtain ⟨k1,h1,s1⟩:=(Id x).eachK s.bk.puts 0 s k hk
 obtain ⟨k3,h3,s3⟩:=(Ie x).eachK s.bk.gets 0 (((Qn (λi=>x.lockC i) s.bk.puts 0 s).add [Xf,yR5,y0,dec 12,y1]).add [yjq,yR5,yR5,y1]) k1 h1
 obtain ⟨k4,h4,s4⟩:=(Fm x).eachK s.bk.puts 0 _ k3 h3
 obtain ⟨k5,h5,s5⟩:=zrc x (((Qn (λi=>x.storeC i) s.bk.puts 0 (Qn (λi=>x.lookC i) s.bk.gets 0 (((Qn (λi=>x.lockC i) s.bk.puts 0 s).add [Xf,yR5,y0,dec 12,y1]).add [yjq,yR5,yR5,y1]))).add [Yn]).add [zaa]) (k:=k4) h4
 exact ⟨k5,h5,s1.trans (s3.trans (s4.trans s5))⟩
theorem zvz(h:Cw W x K w c s)(hj0:W.cell? ⟨j,0,none⟩=some rv){k:Bk}
  (KN:Hid (∀w,Cw W x K w c s->Cl 135 #[ptr c,ptr j] w λe w'=>∃b,e= .returned (ptr b)/\w.heap.size<=b/\NewBk w' b k/\Below w.heap.size w w'))
  (body:Ck->Ck) (KB:Hid (∀w,Cw W x K w c (x.begin {s with blk:=some k})->Cl 40 #[ptr c,rv] w λe w'=>e= .returned (.tuple #[])/\Cw W x K w' c (body (x.begin {s with blk:=some k}))))
  {k2:Bk} (hb2:(body (x.begin {s with blk:=some k})).blk=some k2) (hs2:k2.puts=k.puts/\k2.gives=k.gives) (hA:k2.again<100000000) (hcg:(x.commit (body (x.begin {s with blk:=some k}))).g+200<10000000) (hbg:(body (x.begin {s with blk:=some k})).g+1000<1000000) (hG:s.g+1000<1000000):
  Cl 107 #[ptr c,ptr j] w λe w'=>e= .returned (.tuple #[])/\Cw W x K w' c (x.atomicC k body s):=by
 obtain ⟨m,hm⟩:=h
 have HS:=hid (λ(w':World) (hb:Below w.heap.size w w') (b:Nat) (hn:w.heap.size<=b) (hk:NewBk w' b k)=>hm.setBlk hb hn hk)
 have HC5:=hid (λ(w':World) (hb:Below w.heap.size w w')=>(⟨(hb.cell (p:=⟨c,5,none⟩) hm.lt).trans hm.c5,(hb.frozen (p:=⟨c,5,none⟩) hm.lt).trans (hm.free 5)⟩:w'.cell? ⟨c,5,none⟩=some (zjz m s)/\w'.frozen? ⟨c,5,none⟩=false))
 have KN1:=hid (KN.out w ⟨m,hm⟩)
 have HJ:=hid (λ(K:List (Nat×Nat×Value)) (w:World) (s:Ck) (h:Cw W x K w c s)=>h.old hj0)
 clear hm KN hj0
 generalize hS1:({s with blk:=some k}:Ck)=S1 at*
 have hk1:S1.blk=some k:=by rw [<-hS1]
 have hg1:S1.g=s.g:=by rw [<-hS1]
 generalize hB:body (x.begin S1)=B at*
 generalize hPost:x.atomicC k body s=Post at*
 go_enter Tryz.func107,Tryz.ntmps107
 go_wp2_with fail
 refine KN1.out.mono ?_
 rintro e w1 ⟨b,rfl,hn,hnb,hbl⟩
 obtain ⟨c5,f5⟩:=HC5.out _ hbl
 have H1:=hid (HS.out _ hbl _ hn hnb)
 clear hnb hbl KN1 HS HC5 hn
 go_wp2_with fail
 generalize hw1:w1.setCell ⟨c,5,none⟩ (ptr b)=w2 at*
 clear c5 f5 hw1
 refine (zz7 H1.out hk1 yue).mono ?_
 rintro e w3 ⟨rfl,q⟩
 have e0:=HJ.out _ _ _ q
 have H3:=hid q
 clear q H1
 go_wp2_with fail
 refine (KB.out _ H3.out).mono ?_
 rintro e w4 ⟨rfl,q⟩
 obtain ⟨b4,d5,hb4⟩:=q.cells hb2
 obtain ⟨p0,p1,p2,p3,p4,p5,hp⟩:=zn9 hb4.n2
 have g0:=hb4.p 0 p0 yun
 have g1:=hb4.p 1 p1 yun
 have g2:=hb4.p 2 p2 yun
 have g3:=hb4.p 3 p3 yun
 have g4:=hb4.p 4 p4 yun
 have g5:=hb4.p 5 p5 yun
 simp only [Nat.reduceAdd] at g0 g1 g2 g3 g4 g5
 have H4:=hid q
 have gv16:=hb4.gv
 clear q H3 e0 KB hb4
 have heq:=λw=>eq6 w p0 p1 p2 p3 p4 p5
 have hpk:k.puts=[p0,p1,p2,p3,p4,p5]:=hs2.1.symm.trans hp
 have f5:=H4.out.free 5
 cases hz:(p0||p1||p2||p3||p4||p5) with
 |false=>
  have hall:k.puts=[false,false,false,false,false,false]:=by rw [hpk];simp at hz;simp [hz]
  rw [hz] at heq
  cases hgb:k2.gives with
  |true=>
   have hP:Post={x.give B with blk:=none}:=by rw [<-hPost];simp only [Cx.atomicC,hS1,hB,hall,if_true,hs2.2.symm,hgb]
   have hgv:k2.gives=true:=hgb
   rw [hgv] at gv16
   go_wp2_with fail
   refine (zys H4.out yue).mono ?_
   rintro e w6 ⟨rfl,q⟩
   obtain ⟨v5,d7⟩:=q.c5any
   have f7:=q.free 5
   have H6:=hid q.noBlk
   clear q
   go_wp2
   go_end0
   subst hP
   exact ⟨rfl,H6.out⟩
  |false=>
   have hP:Post={B with blk:=none}:=yvx
   have hgv:k2.gives=false:=hgb
   rw [hgv] at gv16
   go_wp2_with fail
   go_end0
   subst hP
   exact ⟨rfl,H4.out.noBlk⟩
 |true=>
  have hall: ¬k.puts=[false,false,false,false,false,false]:=by rw [hpk];intro e;simp at e;simp [e] at hz
  rw [hz] at heq
  cases hgb:k2.gives with
  |true=>
   have hP:Post={x.give (x.commit B) with blk:=none}:=yvx
   have hgv:k2.gives=true:=hgb
   rw [hgv] at gv16
   go_wp2_with fail
   refine (zl8 H4.out hb2 hA yue).mono ?_
   rintro e w5 ⟨rfl,q⟩
   obtain ⟨k5,hk5,s5⟩:=zfn x hb2
   obtain ⟨b5,d6,hb5⟩:=q.cells hk5
   have v16:=hb5.gv
   rw [s5.2.2.2.1,hgv] at v16
   have f6:=q.free 5
   have H5:=hid q
   clear q d5 g0 g1 g2 g3 g4 g5 hb5 gv16 f5
   go_wp2_with fail
   refine (zys H5.out yue).mono ?_
   rintro e w6 ⟨rfl,q⟩
   obtain ⟨v5,d7⟩:=q.c5any
   have f7:=q.free 5
   have H6:=hid q.noBlk
   clear q
   go_wp2
   go_end0
   subst hP
   exact ⟨rfl,H6.out⟩
  |false=>
   have hP:Post={x.commit B with blk:=none}:=yvx
   have hgv:k2.gives=false:=hgb
   rw [hgv] at gv16
   go_wp2_with fail
   refine (zl8 H4.out hb2 hA yue).mono ?_
   rintro e w5 ⟨rfl,q⟩
   obtain ⟨k5,hk5,s5⟩:=zfn x hb2
   obtain ⟨b5,d6,hb5⟩:=q.cells hk5
   have v16:=hb5.gv
   rw [s5.2.2.2.1,hgv] at v16
   have f6:=q.free 5
   have H5:=hid q
   clear q d5 g0 g1 g2 g3 g4 g5 hb5 gv16 f5
   go_wp2_with fail
   go_end0
   subst hP
   exact ⟨rfl,H5.out.noBlk⟩
end
section
variable{w:World}{c j:Nat}{P:World->Prop}
theorem zj4(KA:Hid (Cl 107 #[ptr c,ptr j] w λe w'=>e= .returned (.tuple #[])/\P w')):
  Cl 70 #[ptr c, .iface 162 (ptr j)] w λe w'=>e= .returned (.tuple #[])/\P w':=by
 have t0:=Uv
 have t1:=Yl
 have t2:=Yv
 have t3:=Yw
 have t4:=Zm
 have t5:=Vh
 go_enter Tryz.func70,Tryz.ntmps70
 go_wp2_with fail
 refine KA.out.mono ?_
 rintro e w1 ⟨rfl,q⟩
 have H1:=hid q
 clear q KA
 go_wp2
 go_end0
 exact ⟨rfl,H1.out⟩
theorem zrd(KA:Hid (Cl 109 #[ptr c,ptr j] w λe w'=>e= .returned (.tuple #[])/\P w')):
  Cl 70 #[ptr c, .iface 209 (ptr j)] w λe w'=>e= .returned (.tuple #[])/\P w':=by
 have t0:=Ee
 have t1:=Xl
 have t2:=Uk
 have t3:=Ul
 have t4:=Yx
 have t5:=Zc
 have t6:=In
 have t7:=Fb
 go_enter Tryz.func70,Tryz.ntmps70
 go_wp2_with fail
 refine KA.out.mono ?_
 rintro e w1 ⟨rfl,q⟩
 have H1:=hid q
 clear q KA
 go_wp2
 go_end0
 exact ⟨rfl,H1.out⟩
end
def Cx.leaf(x:Cx):St->Ck->Ck
 | .inl (to,a),s=>s.add [zdp,x.local to,x.val a]
 | .inr (.inl (to,o,a,b)),s=>s.add [Jc o,x.local to,x.val a,x.val b]
 | .inr (.inr (.inl (to,of,a))),s=>x.get to of a s
 | .inr (.inr (.inr (.inl (of,a,v)))),s=>x.put of a v s
 | .inr (.inr (.inr (.inr (.inl a)))),s=>x.outC a s
 |_,s=>s
def Cx.held(x:Cx)(k:Bk)(body:Ck->Ck):St->Ck->Ck
 | .inr (.inr (.inr (.inr (.inr (.inl ()))))),s=>x.atomicC k body s
 | .inr (.inr (.inr (.inr (.inr (.inr (.inl a)))))),s=>(body (s.add [yJz,x.val a])).land s.L.length
 | .inr (.inr (.inr (.inr (.inr (.inr (.inr n)))))),s=>x.loopC n body s
 |_,s=>s
def cEn(hs:List Hd)(x:Cx):Nat->En->Ck->Ck
 |_, .inl st,s=>x.leaf st s
 |0, .inr _,s=>s
 |f+1, .inr j,s=>match hs[j]? with
  |some ⟨.inr st,es⟩=>x.held ((Jf hs 3 es).foldl x.seen bk0) (λs=>es.foldl (λs e=>cEn hs x f e s) s) st s
  |_=>s
structure Sane(f:Ck->Ck):Prop where
 lo: ∀s,(f s).loops=s.loops
 le: ∀s,s.L.length<=(f s).L.length
theorem Sane.id:Sane (λs=>s):=⟨λ_=>rfl,λ_=>Nat.le_refl _⟩
theorem Sane.comp{f g:Ck->Ck}(hf:Sane f)(hg:Sane g):Sane (λs=>g (f s)):=⟨λs=>(hg.lo _).trans (hf.lo s),λs=>Nat.le_trans (hf.le s) (hg.le _)⟩
theorem Sane.add(ws:List ByteArray):Sane (λs=>s.add ws):=⟨λ_=>rfl,λs=>by rw [Qx];omega⟩
theorem Um{f:Nat->Ck->Ck}(h: ∀i,Sane (f i)): ∀(l:List Bool) (i:Nat),Sane (Qn f l i)
 |[],_=>Sane.id
 |a::r,i=>by
  have ih:=Um h r (i+1)
  refine ⟨λs=>?_,λs=>?_⟩
  ·simp only [Qn]
   rw [ih.lo]
   by_cases ha:a=true
   ·rw [if_pos ha];exact (h i).lo s
   ·rw [if_neg ha]
  ·simp only [Qn]
   refine Nat.le_trans ?_ (ih.le _)
   by_cases ha:a=true
   ·rw [if_pos ha];exact (h i).le s
   ·rw [if_neg ha];exact Nat.le_refl _
theorem zru(s:Ck)(ws:List ByteArray):(s.add ws).loops=s.loops:=rfl
theorem z0j(s:Ck)(n:Nat):(s.land n).loops=s.loops:=rfl
theorem zrv(x:Cx)(to u:ByteArray)(n:Int)(s:Ck):(x.readC to u n s).loops=s.loops:=rfl
theorem zd4(x:Cx)(of:ByteArray)(a:PV):Sane (x.check of a):=⟨λs=>by unfold Cx.check;dsimp only;split<;>rfl,zdw x of a⟩
theorem zmf(x:Cx)(i:Int):Sane (x.lockC i):=⟨λ_=>rfl,λs=>by simp only [Cx.lockC,Qx,Vv,Ur];omega⟩
theorem zmg(x:Cx)(i:Int):Sane (x.lookC i):=⟨λ_=>rfl,λs=>by simp only [Cx.lookC,Qx,Vv,Ur,Sr];omega⟩
theorem zh1(x:Cx)(i:Int):Sane (x.storeC i):=⟨λ_=>rfl,λs=>by simp only [Cx.storeC,Qx,Vv];omega⟩
theorem zol(x:Cx)(i:Int):Sane (x.unlockC i):=⟨λ_=>rfl,λs=>by simp only [Cx.unlockC,Qx,Vv];omega⟩
theorem zgp(x:Cx):Sane x.give:=⟨λ_=>rfl,λs=>by simp only [Cx.give,Qx,Vv,zak];omega⟩
theorem z0k(x:Cx)(of:ByteArray)(a v:PV):Sane (x.put of a v):=
 ⟨λs=>(zd4 x of a).lo s,λs=>by simp only [Cx.put,Qx];have:=zdw x of a s;omega⟩
theorem z0l(x:Cx)(a:PV):Sane (x.outC a):=
 ⟨λs=>by unfold Cx.outC;split<;>rfl,λs=>by unfold Cx.outC;split<;>simp only [Qx]<;>omega⟩
theorem z0m(x:Cx)(to of:ByteArray)(a:PV):Sane (x.get to of a):=by
 refine ⟨λs=>?_,λs=>?_⟩
 ·unfold Cx.get
  dsimp only
  split
  ·rw [zrv];exact (zd4 x of a).lo s
  ·simp only [z0j,zrv,zru];exact (zd4 x of a).lo s
 ·unfold Cx.get
  dsimp only
  have:=zdw x of a s
  split
  ·rw [zgj];omega
  ·simp only [Vv,zgj,Qx];omega
theorem zmh: ∀(ns:List Nat) (s:Ck),(s.lands ns).loops=s.loops
 |[],_=>rfl
 |n::r,s=>(zmh r (s.land n)).trans rfl
theorem zmi(x:Cx):Sane x.undoC:=
 ⟨λs=>((Um (zol x ·) s.bk.puts 0).lo _).trans (zmh _ _),λs=>Nat.le_of_lt (zhs x s)⟩
theorem zby(x:Cx):Sane x.commit:=by
 refine ⟨λs=>?_,λs=>?_⟩
 ·refine ((zmi x).lo _).trans ?_
  refine ((Um (zh1 x ·) s.bk.puts 0).lo _).trans ?_
  refine ((Um (zmg x ·) s.bk.gets 0).lo _).trans ?_
  exact (Um (zmf x ·) s.bk.puts 0).lo s
 ·simp only [Cx.commit,Vv]
  refine Nat.le_trans ?_ ((zmi x).le _)
  simp only [Qx]
  have h1:=(Um (zh1 x ·) s.bk.puts 0).le (Qn (λi=>x.lookC i) s.bk.gets 0 (((Qn (λi=>x.lockC i) s.bk.puts 0 s).add [Xf,yR5,y0,dec 12,y1]).add [yjq,yR5,yR5,y1]))
  have h2:=(Um (zmg x ·) s.bk.gets 0).le (((Qn (λi=>x.lockC i) s.bk.puts 0 s).add [Xf,yR5,y0,dec 12,y1]).add [yjq,yR5,yR5,y1])
  have h3:=(Um (zmf x ·) s.bk.puts 0).le s
  simp only [Qx] at h2
  omega
theorem zmj(x:Cx)(st:St):Sane (x.leaf st):=by
 rcases st with ⟨to,a⟩|⟨to,o,a,b⟩|⟨to,f,a⟩|⟨f,a,v⟩|a|⟨⟩|a|n
 ·exact Sane.add _
 ·exact Sane.add _
 ·exact z0m x to f a
 ·exact z0k x f a v
 ·exact z0l x a
 ·exact Sane.id
 ·exact Sane.id
 ·exact Sane.id
theorem Oo{α:Type}{f:Ck->α->Ck}(h: ∀e,Sane (λs=>f s e)): ∀(es:List α),Sane (λs=>es.foldl f s)
 |[]=>Sane.id
 |e::r=>by
  have ih:=Oo h r
  exact ⟨λs=>(ih.lo (f s e)).trans ((h e).lo s),λs=>Nat.le_trans ((h e).le s) (ih.le (f s e))⟩
theorem Yz(ws:Nat->List ByteArray)(l:List Bool)(i:Nat):Sane (Qn (λi s=>s.add (ws i)) l i):=Um (λi=>Sane.add (ws i)) l i
theorem zat(x:Cx):Sane x.begin:=by
 refine ⟨λs=>?_,λs=>?_⟩
 ·show (Qn (λi s=>s.add [Qh,y0,x.own (12+(i:Nat)),y0]) s.bk.gets 0 _).loops=_
  rw [(Yz (λi=>[Qh,y0,x.own (12+(i:Nat)),y0]) s.bk.gets 0).lo,(Yz (λi=>[Qh,y0,x.own (6+(i:Nat)),y0]) s.bk.puts 0).lo,zru,zru,(Yz (λi=>[Qw,Zy (i:Nat),y0,x.own (32+(i:Nat))]) s.bk.chgs 0).lo]
  exact (Yz (λi=>[Qh,y0,x.own (32+(i:Nat)),Zy (i:Nat)]) s.bk.chgs 0).lo s
 ·simp only [Cx.begin,Qx]
  have h1:=(Yz (λi=>[Qh,y0,x.own (32+(i:Nat)),Zy (i:Nat)]) s.bk.chgs 0).le s
  have h2:=(Yz (λi=>[Qw,Zy (i:Nat),y0,x.own (32+(i:Nat))]) s.bk.chgs 0).le {Qn (λi s=>s.add [Qh,y0,x.own (32+(i:Nat)),Zy (i:Nat)]) s.bk.chgs 0 s with blk:=some {s.bk with again:=(Qn (λi s=>s.add [Qh,y0,x.own (32+(i:Nat)),Zy (i:Nat)]) s.bk.chgs 0 s).L.length}}
  refine Nat.le_trans ?_ (Nat.le_trans ((Yz (λi=>[Qh,y0,x.own (12+(i:Nat)),y0]) s.bk.gets 0).le _) (Nat.le_succ _))
  refine Nat.le_trans ?_ ((Yz (λi=>[Qh,y0,x.own (6+(i:Nat)),y0]) s.bk.puts 0).le _)
  simp only [Qx]
  have h3:s.L.length<=(Qn (λi s=>s.add [Qw,Zy (i:Nat),y0,x.own (32+(i:Nat))]) s.bk.chgs 0 {Qn (λi s=>s.add [Qh,y0,x.own (32+(i:Nat)),Zy (i:Nat)]) s.bk.chgs 0 s with blk:=some {s.bk with again:=(Qn (λi s=>s.add [Qh,y0,x.own (32+(i:Nat)),Zy (i:Nat)]) s.bk.chgs 0 s).L.length}}).L.length:=Nat.le_trans h1 h2
  exact Nat.le_trans h3 (Nat.le_add_right _ 2)
theorem zom(x:Cx)(k:Bk){body:Ck->Ck}(hb:Sane body):Sane (x.atomicC k body):=by
 refine ⟨λs=>?_,λs=>?_⟩
 ·have h0:(body (x.begin {s with blk:=some k})).loops=s.loops:=(hb.lo _).trans ((zat x).lo _)
  simp only [Cx.atomicC]
  split
  ·rw [(zgp x).lo]
   split
   ·exact h0
   ·rw [(zby x).lo];exact h0
  ·split
   ·exact h0
   ·rw [(zby x).lo];exact h0
 ·have h0:s.L.length<=(body (x.begin {s with blk:=some k})).L.length:=Nat.le_trans ((zat x).le {s with blk:=some k}) (hb.le _)
  have h1:=(zby x).le (body (x.begin {s with blk:=some k}))
  have h2:=(zgp x).le (body (x.begin {s with blk:=some k}))
  have h3:=(zgp x).le (x.commit (body (x.begin {s with blk:=some k})))
  simp only [Cx.atomicC]
  split<;>split<;>omega
theorem zwh(x:Cx)(n:Int){body:Ck->Ck}(hb:Sane body):Sane (x.loopC n body):=by
 refine ⟨λs=>?_,λs=>?_⟩
 ·show (body _).loops- 1=s.loops
  rw [hb.lo]
  rfl
 ·have h0:=hb.le (({s with loops:=s.loops+1}:Ck).add [Qh,y0,x.own (36+(s.loops:Int)),dec n])
  rw [Qx] at h0
  simp only [Cx.loopC,Vv,zak,Qx]
  have h1:s.L.length+1<=(body (({s with loops:=s.loops+1}:Ck).add [Qh,y0,x.own (36+(s.loops:Int)),dec n])).L.length:=h0
  omega
theorem zmk(x:Cx)(k:Bk){body:Ck->Ck}(hb:Sane body)(st:St):Sane (x.held k body st):=by
 rcases st with ⟨to,a⟩|⟨to,o,a,b⟩|⟨to,f,a⟩|⟨f,a,v⟩|a|⟨⟩|a|n
 ·exact Sane.id
 ·exact Sane.id
 ·exact Sane.id
 ·exact Sane.id
 ·exact Sane.id
 ·exact zom x k hb
 ·refine ⟨λs=>(hb.lo _).trans rfl,λs=>?_⟩
  have:=hb.le (s.add [yJz,x.val a])
  rw [Qx] at this
  show s.L.length<=((body (s.add [yJz,x.val a])).land s.L.length).L.length
  rw [Vv]
  omega
 ·exact zwh x n hb
theorem Fq(hs:List Hd)(x:Cx): ∀(f:Nat) (e:En),Sane (cEn hs x f e)
 |0, .inl st=>zmj x st
 |0, .inr _=>Sane.id
 |f+1, .inl st=>zmj x st
 |f+1, .inr j=>by
  have hb:=λes=>Oo (f:=λs e=>cEn hs x f e s) (λe=>Fq hs x f e) es
  refine ⟨λs=>?_,λs=>?_⟩
  ·simp only [cEn]
   split
   ·exact (zmk x _ (hb _) _).lo s
   ·rfl
  ·simp only [cEn]
   split
   ·exact (zmk x _ (hb _) _).le s
   ·exact Nat.le_refl _
def Undoes(U:Nat)(f:Nat->Ck->Ck):Prop:=∀i s k,s.blk=some k->∃k',(f i s).blk=some k'/\k.sim k'/\k'.undo.length<=k.undo.length+U
theorem Undoes.each{U:Nat}{f:Nat->Ck->Ck}(h:Undoes U f): ∀(l:List Bool) (i:Nat) (s:Ck) (k:Bk),s.blk=some k->∃k',(Qn f l i s).blk=some k'/\k.sim k'/\k'.undo.length<=k.undo.length+l.length*U
 |[],_,s,k,hk=>⟨k,hk,Bk.sim.refl k,by simp⟩
 |a::r,i,s,k,hk=>by
  simp only [Qn]
  have e:(a::r).length*U=r.length*U+U:=by rw [List.length_cons,Nat.add_mul,Nat.one_mul]
  by_cases ha:a=true
  ·obtain ⟨k1,h1,s1,u1⟩:=h i s k hk
   rw [if_pos ha]
   obtain ⟨k2,h2,s2,u2⟩:=h.each r (i+1) (f i s) k1 h1
   exact ⟨k2,h2,s1.trans s2,by omega⟩
  ·rw [if_neg ha]
   obtain ⟨k2,h2,s2,u2⟩:=h.each r (i+1) s k hk
   exact ⟨k2,h2,s2,by omega⟩
theorem zkb(x:Cx):Undoes 2 (λi=>x.lockC i):=λi s k hk=>⟨_,rfl,by simp [Bk.sim,Ck.bk,Ck.add,Ck.undoIf,hk],by simp [Ck.bk,Ck.add,Ck.undoIf,hk]⟩
theorem zkc(x:Cx):Undoes 1 (λi=>x.lookC i):=λi s k hk=>⟨_,rfl,by simp [Bk.sim,Ck.bk,Ck.add,Zu,hk],by simp [Ck.bk,Ck.add,Zu,hk]⟩
theorem zh2(x:Cx):Undoes 0 (λi=>x.storeC i):=λ_ _ k hk=>⟨k,hk,Bk.sim.refl k,Nat.le_refl _⟩
theorem zml(x:Cx){s:Ck}{k:Bk}(hk:s.blk=some k)(hu:k.undo=[])(h1:k.puts.length=6)(h2:k.gets.length=6):(x.commit s).g<=s.g+186:=by
 have hb:=Sq hk
 obtain ⟨k1,hk1,s1,u1⟩:=(zkb x).each s.bk.puts 0 s k hk
 have g1:=(Id x).eachG s.bk.puts 0 s
 obtain ⟨k3,hk3,s3,u3⟩:=(zkc x).each s.bk.gets 0 (((Qn (λi=>x.lockC i) s.bk.puts 0 s).add [Xf,yR5,y0,dec 12,y1]).add [yjq,yR5,yR5,y1]) k1 hk1
 have g3:=(Ie x).eachG s.bk.gets 0 (((Qn (λi=>x.lockC i) s.bk.puts 0 s).add [Xf,yR5,y0,dec 12,y1]).add [yjq,yR5,yR5,y1])
 obtain ⟨k4,hk4,s4,u4⟩:=(zh2 x).each s.bk.puts 0 (Qn (λi=>x.lookC i) s.bk.gets 0 (((Qn (λi=>x.lockC i) s.bk.puts 0 s).add [Xf,yR5,y0,dec 12,y1]).add [yjq,yR5,yR5,y1])) k3 hk3
 have g4:=(Fm x).eachG s.bk.puts 0 (Qn (λi=>x.lookC i) s.bk.gets 0 (((Qn (λi=>x.lockC i) s.bk.puts 0 s).add [Xf,yR5,y0,dec 12,y1]).add [yjq,yR5,yR5,y1]))
 have g5:=zrb x (((Qn (λi=>x.storeC i) s.bk.puts 0 (Qn (λi=>x.lookC i) s.bk.gets 0 (((Qn (λi=>x.lockC i) s.bk.puts 0 s).add [Xf,yR5,y0,dec 12,y1]).add [yjq,yR5,yR5,y1]))).add [Yn]).add [zaa])
 have hb4:((((Qn (λi=>x.storeC i) s.bk.puts 0 (Qn (λi=>x.lookC i) s.bk.gets 0 (((Qn (λi=>x.lockC i) s.bk.puts 0 s).add [Xf,yR5,y0,dec 12,y1]).add [yjq,yR5,yR5,y1]))).add [Yn]).add [zaa])).bk=k4:=Sq hk4
 rw [hb4] at g5
 have hp4:k4.puts.length=6:=by rw [s4.2.1,s3.2.1,s1.2.1,h1]
 have hp:s.bk.puts.length=6:=by rw [hb];exact h1
 have hq:s.bk.gets.length=6:=by rw [hb];exact h2
 have hu0:k.undo.length=0:=by rw [hu];rfl
 have e:(x.commit s).g=(x.undoC (((Qn (λi=>x.storeC i) s.bk.puts 0 (Qn (λi=>x.lookC i) s.bk.gets 0 (((Qn (λi=>x.lockC i) s.bk.puts 0 s).add [Xf,yR5,y0,dec 12,y1]).add [yjq,yR5,yR5,y1]))).add [Yn]).add [zaa])).g+1:=rfl
 rw [e]
 have a2:(((Qn (λi=>x.lockC i) s.bk.puts 0 s).add [Xf,yR5,y0,dec 12,y1]).add [yjq,yR5,yR5,y1]).g=(Qn (λi=>x.lockC i) s.bk.puts 0 s).g+2:=rfl
 have a4:(((Qn (λi=>x.storeC i) s.bk.puts 0 (Qn (λi=>x.lookC i) s.bk.gets 0 (((Qn (λi=>x.lockC i) s.bk.puts 0 s).add [Xf,yR5,y0,dec 12,y1]).add [yjq,yR5,yR5,y1]))).add [Yn]).add [zaa]).g=(Qn (λi=>x.storeC i) s.bk.puts 0 (Qn (λi=>x.lookC i) s.bk.gets 0 (((Qn (λi=>x.lockC i) s.bk.puts 0 s).add [Xf,yR5,y0,dec 12,y1]).add [yjq,yR5,yR5,y1]))).g+2:=rfl
 rw [a4] at g5
 rw [a2] at g3
 rw [hp] at g1 u1 g4 u4
 rw [hq] at g3 u3
 rw [hp4] at g5
 omega
def Cx.varOk(x:Cx)(u:ByteArray):Prop:=u.size<=maxLen/\ ∃(f:Nat) (n:Nat),x.var u=((f:Int),(n:Int))/\f<6/\f+n<=6
def Cx.leafOk(x:Cx)(b:Bool):St->Prop
 | .inl (to,a)=>to.size<=maxLen/\a.ok
 | .inr (.inl (to,o,a,c))=>to.size<=maxLen/\o<12/\a.ok/\c.ok
 | .inr (.inr (.inl (to,of,a)))=>b=true/\to.size<=maxLen/\x.varOk of/\a.ok
 | .inr (.inr (.inr (.inl (of,a,v))))=>b=true/\x.varOk of/\a.ok/\v.ok
 | .inr (.inr (.inr (.inr (.inl a))))=>a.ok
 |_=>False
def enW(hs:List Hd)(x:Cx):Nat->Bool->En->Prop
 |_,b, .inl st=>x.leafOk b st
 |0,_, .inr _=>False
 |f+1,b, .inr j=>∃es:List En,es.length<=14/\
   ((hs[j]?=some ⟨.st .atomic,es⟩/\b=false/\ ∀e∈es,enW hs x f true e)\/
    (∃a:PV,hs[j]?=some ⟨.st (.iff a),es⟩/\a.ok/\ ∀e∈es,enW hs x f b e)\/
    (∃n:Int,hs[j]?=some ⟨.st (.loop n),es⟩/\(1<=n/\n<=4)/\ ∀e∈es,enW hs x f b e))
theorem zmm(x:Cx)(st:St)(s:Ck):(x.leaf st s).blk=s.blk:=by
 rcases st with ⟨to,a⟩|⟨to,o,a,b⟩|⟨to,f,a⟩|⟨f,a,v⟩|a|⟨⟩|a|n
 ·rfl
 ·rfl
 ·show (x.get to f a s).blk=_
  unfold Cx.get
  dsimp only
  have hr: ∀t u n (s:Ck),(x.readC t u n s).blk=s.blk:=λ_ _ _ _=>rfl
  have ha: ∀(s:Ck) ws,(s.add ws).blk=s.blk:=λ_ _=>rfl
  have hl: ∀(s:Ck) n,(s.land n).blk=s.blk:=λ_ _=>rfl
  split
  ·rw [hr];exact Ib x f a s
  ·simp only [hl,hr,ha];exact Ib x f a s
 ·exact Ib x f a s
 ·show (x.outC a s).blk=_
  unfold Cx.outC
  split<;>rfl
 ·rfl
 ·rfl
 ·rfl
theorem Oq{f:Ck->En->Ck}: ∀(es:List En) (s:Ck),(∀e∈es,∀s,(f s e).blk=s.blk)->(es.foldl f s).blk=s.blk
 |[],_,_=>rfl
 |e::r,s,h=>(Oq r (f s e) (λe' he=>h e' (List.mem_cons_of_mem _ he))).trans (h e yuf s)
theorem zwi(x:Cx)(n:Int)(body:Ck->Ck)(h: ∀s,(body s).blk=s.blk)(s:Ck):(x.loopC n body s).blk=s.blk:=by
 show (body _).blk=_
 rw [h]
 rfl
theorem Xh(hs:List Hd)(x:Cx): ∀(f:Nat) (b:Bool) (e:En),enW hs x f b e->∀s:Ck,(b=false->s.blk=none)->(cEn hs x f e s).blk=s.blk
 |0,_, .inl st,_,s,_=>zmm x st s
 |0,_, .inr _,h,_,_=>h.elim
 |f+1,_, .inl st,_,s,_=>zmm x st s
 |f+1,true, .inr j,h,s,_=>by
  obtain ⟨es,_,h⟩:=h
  rcases h with ⟨_,hb,_⟩|⟨a,hj,_,he⟩|⟨n,hj,_,he⟩
  ·cases hb
  ·have hf:=λs'=>Oq (f:=λs e=>cEn hs x f e s) es s' (λe he' s=>Xh hs x f true e (he e he') s (λq=>by cases q))
   simp only [cEn,hj]
   show ((es.foldl (λs e=>cEn hs x f e s) (s.add [yJz,x.val a])).land s.L.length).blk=_
   exact (hf _).trans rfl
  ·have hf:=λs'=>Oq (f:=λs e=>cEn hs x f e s) es s' (λe he' s=>Xh hs x f true e (he e he') s (λq=>by cases q))
   simp only [cEn,hj]
   exact zwi x n _ hf s
 |f+1,false, .inr j,h,s,hn=>by
  have h0:=hn rfl
  obtain ⟨es,_,h⟩:=h
  have hfold: ∀(l:List En) (s':Ck),(∀e∈l,enW hs x f false e)->s'.blk=none->(l.foldl (λs e=>cEn hs x f e s) s').blk=none:=by
   intro l
   induction l with
   |nil=>exact λ_ _ h=>h
   |cons e r ih=>exact λs' hl hb=>ih _ (λe' he'=>hl e' (List.mem_cons_of_mem _ he')) ((Xh hs x f false e (hl e yuf) s' (λ_=>hb)).trans hb)
  rw [h0]
  rcases h with ⟨hj,_,_⟩|⟨a,hj,_,he⟩|⟨n,hj,_,he⟩
  ·simp only [cEn,hj]
   rfl
  ·simp only [cEn,hj]
   exact hfold es (s.add [yJz,x.val a]) he h0
  ·simp only [cEn,hj]
   exact hfold es _ he h0
def wE(hs:List Hd):Nat->En->Nat
 |0,_=>1
 |f+1,e=>1+((Jb hs e).map (wE hs f)).sum
structure Bk.New(k:Bk):Prop where
 g:k.gets.length=6
 p:k.puts.length=6
 c:k.chgs.length=4
 u:k.undo=[]
theorem zct(v:Int): ∀(is:List Nat) (l:List Bool),(is.foldl (λl i=>l.set (v.toNat+i) true) l).length=l.length
 |[],_=>rfl
 |i::r,l=>by simp only [List.foldl_cons];rw [zct v r];simp
theorem zh3(l:List Bool)(v:Int×Int):(zvh l v).length=l.length:=zct v.1 _ l
theorem zwj(x:Cx){k:Bk}(h:k.New)(e:En):(x.seen k e).New:=by
 rcases e with st|j
 ·rcases st with ⟨to,a⟩|⟨to,o,a,b⟩|⟨to,f,a⟩|⟨f,a,v⟩|a|⟨⟩|a|n
  ·exact ⟨h.g,h.p,(List.length_set ..).trans h.c,h.u⟩
  ·exact ⟨h.g,h.p,(List.length_set ..).trans h.c,h.u⟩
  ·exact ⟨(zh3 _ _).trans h.g,h.p,(List.length_set ..).trans h.c,h.u⟩
  ·exact ⟨h.g,(zh3 _ _).trans h.p,h.c,h.u⟩
  ·exact ⟨h.g,h.p,h.c,h.u⟩
  ·exact h
  ·exact h
  ·exact h
 ·exact h
theorem zgq(x:Cx): ∀(es:List En) (k:Bk),k.New->(es.foldl x.seen k).New
 |[],_,h=>h
 |e::r,k,h=>zgq x r (x.seen k e) (zwj x h e)
theorem zkd:bk0.New:=⟨rfl,rfl,rfl,rfl⟩
theorem zrw(x:Cx){s:Ck}{k:Bk}(hk:s.blk=some k)(h:k.New):(x.begin s).g<=s.g+23:=by
 have hb:=Sq hk
 have g1:=(Ye λi=>[Qh,y0,x.own (32+(i:Nat)),Zy (i:Nat)]).eachG s.bk.chgs 0 s
 have g2:=(Ye λi=>[Qw,Zy (i:Nat),y0,x.own (32+(i:Nat))]).eachG s.bk.chgs 0 {Qn (λi s=>s.add [Qh,y0,x.own (32+(i:Nat)),Zy (i:Nat)]) s.bk.chgs 0 s with blk:=some {s.bk with again:=(Qn (λi s=>s.add [Qh,y0,x.own (32+(i:Nat)),Zy (i:Nat)]) s.bk.chgs 0 s).L.length}}
 have g3:=(Ye λi=>[Qh,y0,x.own (6+(i:Nat)),y0]).eachG s.bk.puts 0 (((Qn (λi s=>s.add [Qw,Zy (i:Nat),y0,x.own (32+(i:Nat))]) s.bk.chgs 0 {Qn (λi s=>s.add [Qh,y0,x.own (32+(i:Nat)),Zy (i:Nat)]) s.bk.chgs 0 s with blk:=some {s.bk with again:=(Qn (λi s=>s.add [Qh,y0,x.own (32+(i:Nat)),Zy (i:Nat)]) s.bk.chgs 0 s).L.length}}).add [Qw,yR6,y0,dec 12]).add [yjq,yR6,yR6,y1])
 have g4:=(Ye λi=>[Qh,y0,x.own (12+(i:Nat)),y0]).eachG s.bk.gets 0 (Qn (λi s=>s.add [Qh,y0,x.own (6+(i:Nat)),y0]) s.bk.puts 0 (((Qn (λi s=>s.add [Qw,Zy (i:Nat),y0,x.own (32+(i:Nat))]) s.bk.chgs 0 {Qn (λi s=>s.add [Qh,y0,x.own (32+(i:Nat)),Zy (i:Nat)]) s.bk.chgs 0 s with blk:=some {s.bk with again:=(Qn (λi s=>s.add [Qh,y0,x.own (32+(i:Nat)),Zy (i:Nat)]) s.bk.chgs 0 s).L.length}}).add [Qw,yR6,y0,dec 12]).add [yjq,yR6,yR6,y1]))
 have e:(x.begin s).g=(Qn (λi s=>s.add [Qh,y0,x.own (12+(i:Nat)),y0]) s.bk.gets 0 (Qn (λi s=>s.add [Qh,y0,x.own (6+(i:Nat)),y0]) s.bk.puts 0 (((Qn (λi s=>s.add [Qw,Zy (i:Nat),y0,x.own (32+(i:Nat))]) s.bk.chgs 0 {Qn (λi s=>s.add [Qh,y0,x.own (32+(i:Nat)),Zy (i:Nat)]) s.bk.chgs 0 s with blk:=some {s.bk with again:=(Qn (λi s=>s.add [Qh,y0,x.own (32+(i:Nat)),Zy (i:Nat)]) s.bk.chgs 0 s).L.length}}).add [Qw,yR6,y0,dec 12]).add [yjq,yR6,yR6,y1]))).g+1:=rfl
 have h1:s.bk.chgs.length=4:=by rw [hb];exact h.c
 have h2:s.bk.puts.length=6:=by rw [hb];exact h.p
 have h3:s.bk.gets.length=6:=by rw [hb];exact h.g
 rw [h1] at g1 g2
 rw [h2] at g3
 rw [h3] at g4
 rw [e]
 dsimp only at g2
 have a3: ∀(t:Ck) u v,((t.add u).add v).g=t.g+2:=λ_ _ _=>rfl
 rw [a3] at g3
 exact Nat.le_trans (Nat.add_le_add_right (Nat.le_trans g4 (Nat.add_le_add_right (Nat.le_trans g3 (Nat.add_le_add_right (Nat.add_le_add_right (Nat.le_trans g2 (Nat.add_le_add_right g1 _)) _) _)) _)) 1) yue
theorem zyu(x:Cx)(st:St)(s:Ck):(x.leaf st s).g<=s.g+40:=by
 rcases st with ⟨to,a⟩|⟨to,o,a,b⟩|⟨to,f,a⟩|⟨f,a,v⟩|a|⟨⟩|a|n
 ·show s.g+1<=_;omega
 ·show s.g+1<=_;omega
 ·show (x.get to f a s).g<=_
  have hc:=zdv x f a s
  have hr: ∀t u n (s:Ck),(x.readC t u n s).g=s.g+9:=λ_ _ _ _=>rfl
  have ha: ∀(s:Ck) ws,(s.add ws).g=s.g+1:=λ_ _=>rfl
  have hl: ∀(s:Ck) n,(s.land n).g=s.g+1:=λ_ _=>rfl
  unfold Cx.get
  dsimp only
  split
  ·rw [hr];omega
  ·simp only [hl,hr,ha];omega
 ·have hc:=zdv x f a s
  show (x.check f a s).g+3<=_
  omega
 ·show (x.outC a s).g<=_
  unfold Cx.outC
  split
  ·show s.g+1<=_;omega
  ·show s.g+2<=_;omega
 ·show s.g<=_;omega
 ·show s.g<=_;omega
 ·show s.g<=_;omega
theorem zh4(x:Cx){s:Ck}{k:Bk}(hk:s.blk=some k): ∃n,(x.begin s).blk=some {k with again:=n}/\n<=(x.begin s).L.length:=by
 refine ⟨(Qn (λi s=>s.add [Qh,y0,x.own (32+(i:Nat)),Zy (i:Nat)]) s.bk.chgs 0 s).L.length,?_,?_⟩
 ·exact ysd
 ·have h2:=(Yz (λi=>[Qw,Zy (i:Nat),y0,x.own (32+(i:Nat))]) s.bk.chgs 0).le {Qn (λi s=>s.add [Qh,y0,x.own (32+(i:Nat)),Zy (i:Nat)]) s.bk.chgs 0 s with blk:=some {s.bk with again:=(Qn (λi s=>s.add [Qh,y0,x.own (32+(i:Nat)),Zy (i:Nat)]) s.bk.chgs 0 s).L.length}}
  simp only [Cx.begin,Qx]
  refine Nat.le_trans ?_ (Nat.le_succ _)
  refine Nat.le_trans ?_ ((Yz (λi=>[Qh,y0,x.own (12+(i:Nat)),y0]) s.bk.gets 0).le _)
  refine Nat.le_trans ?_ ((Yz (λi=>[Qh,y0,x.own (6+(i:Nat)),y0]) s.bk.puts 0).le _)
  simp only [Qx]
  exact Nat.le_trans h2 (Nat.le_add_right _ 2)
theorem zke{f:Ck->En->Ck}{c:En->Nat}{I:Ck->Prop}: ∀(es:List En) (s:Ck),(∀e∈es,∀s,I s->(f s e).g<=s.g+c e/\I (f s e))->I s->(es.foldl f s).g<=s.g+(es.map c).sum
 |[],_,_,_=>by simp
 |e::r,s,h,hI=>by
  obtain ⟨h1,h2⟩:=h e yuf s hI
  have:=zke r (f s e) (λe' he=>h e' (List.mem_cons_of_mem _ he)) h2
  simp only [List.foldl_cons,List.map_cons,List.sum_cons]
  omega
theorem Is(l:List En)(c:En->Nat)(n:Nat):(l.map λe=>n*c e).sum=n*(l.map c).sum:=by
 induction l with
 |nil=>rfl
 |cons a r ih=>simp only [List.map_cons,List.sum_cons,ih,Nat.mul_add]
theorem zwk(x:Cx){k:Bk}(hk:k.New){body:Ck->Ck}{N:Nat}(s:Ck)(hb: ∀s:Ck,(∃k,s.blk=some k)->(body s).g<=s.g+N)(hB: ∀s:Ck,(body s).blk=s.blk):(x.atomicC k body s).g<=s.g+N+217:=by
 have h1:(x.begin {s with blk:=some k}).g<=s.g+23:=zrw x (s:={s with blk:=some k}) rfl hk
 obtain ⟨n,h2,_⟩:=zh4 x (s:={s with blk:=some k}) rfl
 have h3:=hb (x.begin {s with blk:=some k}) ⟨_,h2⟩
 have h4:=(hB (x.begin {s with blk:=some k})).trans h2
 have h5:=zml x h4 hk.u hk.p hk.g
 have hg: ∀s:Ck,(x.give s).g=s.g+8:=λ_=>rfl
 simp only [Cx.atomicC]
 split
 ·rw [hg]
  split<;>omega
 ·split<;>omega
theorem zrx(hs:List Hd)(x:Cx): ∀(f:Nat) (b:Bool) (e:En),enW hs x f b e->∀s:Ck,(b=false->s.blk=none)->(cEn hs x f e s).g<=s.g+300*wE hs f e
 |0,_, .inl st,_,s,_=>by
  have:=zyu x st s
  show (x.leaf st s).g<=s.g+300*1
  omega
 |0,_, .inr _,h,_,_=>h.elim
 |f+1,_, .inl st,_,s,_=>by
  have:=zyu x st s
  show (x.leaf st s).g<=s.g+300*(1+_)
  omega
 |f+1,b, .inr j,h,s,hn=>by
  obtain ⟨es,_,h⟩:=h
  have hw: ∀k,hs[j]?=some ⟨k,es⟩->300*wE hs (f+1) (.inr j)=300+300*(es.map (wE hs f)).sum:=λk hj=>by
   simp only [wE,Jb,hj,Nat.mul_add]
  rcases h with ⟨hj,hb,he⟩|⟨a,hj,_,he⟩|⟨n,hj,_,he⟩
  ·have hbody: ∀s:Ck,(∃k,s.blk=some k)->(es.foldl (λs e=>cEn hs x f e s) s).g<=s.g+(es.map λe=>300*wE hs f e).sum:=λs' hk=>
    zke (I:=λ_=>True) es s' (λe he' s _=>⟨zrx hs x f true e (he e he') s (λq=>by cases q),trivial⟩) trivial
   have hblk: ∀s:Ck,(es.foldl (λs e=>cEn hs x f e s) s).blk=s.blk:=λs'=>Oq (f:=λs e=>cEn hs x f e s) es s' (λe he' s=>Xh hs x f true e (he e he') s (λq=>by cases q))
   have:=zwk x (zgq x (Jf hs 3 es) bk0 zkd) s hbody hblk
   rw [hw _ hj]
   rw [Is] at this
   have e2:cEn hs x (f+1) (.inr j) s=x.atomicC ((Jf hs 3 es).foldl x.seen bk0) (λs=>es.foldl (λs e=>cEn hs x f e s) s) s:=by
    simp only [cEn,hj]
    rfl
   rw [e2]
   generalize x.atomicC ((Jf hs 3 es).foldl x.seen bk0) (λs=>es.foldl (λs e=>cEn hs x f e s) s) s=A at*
   omega
  ·have hbody:=zke (f:=λs e=>cEn hs x f e s) (c:=λe=>300*wE hs f e) (I:=λs=>b=false->s.blk=none) es (s.add [yJz,x.val a]) (λe he' s hI=>⟨zrx hs x f b e (he e he') s hI,λhb=>(Xh hs x f b e (he e he') s hI).trans (hI hb)⟩) hn
   rw [hw _ hj]
   rw [Is] at hbody
   have e2:(cEn hs x (f+1) (.inr j) s).g=(es.foldl (λs e=>cEn hs x f e s) (s.add [yJz,x.val a])).g+1:=by
    simp only [cEn,hj]
    rfl
   rw [e2]
   have e1:(s.add [yJz,x.val a]).g=s.g+1:=rfl
   rw [e1] at hbody
   generalize (es.foldl (λs e=>cEn hs x f e s) (s.add [yJz,x.val a])).g=A at*
   omega
  ·have hbody:=zke (f:=λs e=>cEn hs x f e s) (c:=λe=>300*wE hs f e) (I:=λs=>b=false->s.blk=none) es (({s with loops:=s.loops+1}:Ck).add [Qh,y0,x.own (36+(s.loops:Int)),dec n]) (λe he' s hI=>⟨zrx hs x f b e (he e he') s hI,λhb=>(Xh hs x f b e (he e he') s hI).trans (hI hb)⟩) hn
   rw [hw _ hj]
   rw [Is] at hbody
   have e2:(cEn hs x (f+1) (.inr j) s).g=(es.foldl (λs e=>cEn hs x f e s) (({s with loops:=s.loops+1}:Ck).add [Qh,y0,x.own (36+(s.loops:Int)),dec n])).g+6:=by
    simp only [cEn,hj]
    rfl
   rw [e2]
   have e1:(({s with loops:=s.loops+1}:Ck).add [Qh,y0,x.own (36+(s.loops:Int)),dec n]).g=s.g+1:=rfl
   rw [e1] at hbody
   generalize (es.foldl (λs e=>cEn hs x f e s) (({s with loops:=s.loops+1}:Ck).add [Qh,y0,x.own (36+(s.loops:Int)),dec n])).g=A at*
   omega
section
variable{W w w':World}{x:Cx}{K:List (Nat×Nat×Value)}{c:Nat}{s:Ck}{ids:Ids}{rv:Value}{hs:List Hd}{ms:List HM}
theorem zgr{step:En->Ck->Ck}{inv:Ck->Prop}{cost:En->Nat}: ∀(es:List En) (s:Ck),(∀e∈es,∀s,inv s->inv (step e s)/\(step e s).g<=s.g+cost e)->inv s->inv (es.foldl (λs e=>step e s) s)/\(es.foldl (λs e=>step e s) s).g<=s.g+(es.map cost).sum
 |[],_,_,hI=>⟨hI,by simp⟩
 |e::r,s,h,hI=>by
  obtain ⟨h1,h2⟩:=h e yuf s hI
  obtain ⟨h3,h4⟩:=zgr r (step e s) (λe' he=>h e' (List.mem_cons_of_mem _ he)) h1
  simp only [List.foldl_cons,List.map_cons,List.sum_cons]
  exact ⟨h3,by omega⟩
theorem zmn{es:List En}(hrow:W.ownsRow 0 153 1 rv es.length (es.map (enV ids)))(hn:es.length<=14)(step:En->Ck->Ck)(inv:Ck->Prop)(cost:En->Nat)
  (hst: ∀e∈es,∀K w s,Cw W x K w c s->inv s->s.g+cost e+1000<1000000->Cl 70 #[ptr c,enV ids e] w λr w'=>r= .returned (.tuple #[])/\Cw W x K w' c (step e s))
  (hinv: ∀e∈es,∀s,inv s->inv (step e s)/\(step e s).g<=s.g+cost e) (h:Cw W x K w c s) (hi:inv s) (hG:s.g+(es.map cost).sum+1000<1000000):
  Cl 40 #[ptr c,rv] w λr w'=>r= .returned (.tuple #[])/\Cw W x K w' c (es.foldl (λs e=>step e s) s):=by
 have key:=z0a (c:=c) (w:=w) hrow yue (λk w=>Cw W x K w c ((es.take k).foldl (λs e=>step e s) s)) (hid λ_ _ h=>h.low) (hid λk wr hk hJ=>by
  have hmem:es[k]∈es:=List.getElem_mem hk
  obtain ⟨h1,h2⟩:=zgr (step:=step) (inv:=inv) (cost:=cost) (es.take k) s (λe he=>hinv e (List.mem_of_mem_take he)) hi
  have hsum:((es.take k).map cost).sum+cost es[k]<=(es.map cost).sum:=by
   have e1:es=es.take k++es[k]::es.drop (k+1):=by rw [<-List.drop_eq_getElem_cons hk,List.take_append_drop]
   have e2:(es.map cost).sum=((es.take k++es[k]::es.drop (k+1)).map cost).sum:=by rw [<-e1]
   rw [e2]
   simp only [List.map_append,List.map_cons,List.sum_append,List.sum_cons]
   omega
  refine (hst es[k] hmem K wr _ hJ h1 yue).mono ?_
  rintro r w' ⟨hr,hw⟩
  refine ⟨hr,?_⟩
  show Cw W x K w' c ((es.take (k+1)).foldl (λs e=>step e s) s)
  rw [List.take_add_one,List.getElem?_eq_getElem hk,List.foldl_append]
  exact hw) (hid h)
 rw [List.take_length] at key
 exact key
def z3g(W:World)(x:Cx)(c:Nat)(hs:List Hd)(ms:List HM):Prop:=∀K w s j es (hl:j<ms.length),Cw W x K w c s->hs[j]?=some ⟨.st .atomic,es⟩->es.length<=14->(∃f,f<=2/\ ∀e∈es,enW hs x f true e) ->
 Cl 135 #[ptr c,ptr ms[j].b] w λe w'=>∃b,e= .returned (ptr b)/\w.heap.size<=b/\NewBk w' b ((Jf hs 3 es).foldl x.seen bk0)/\Below w.heap.size w w'
def inB(b:Bool)(s:Ck):Prop:=(b=false->s.blk=none)/\(b=true->∃k,s.blk=some k/\k.again<100000000/\k.puts.length=6)
theorem Eh{b:Bool}{s s':Ck}(h:inB b s)(e:s'.blk=s.blk):inB b s':=⟨λq=>e.trans (h.1 q),λq=>by obtain ⟨k,hk,r⟩:=h.2 q;exact ⟨k,e.trans hk,r⟩⟩
theorem zyv(hE:Env W)(h:Cw W x K w c s){b:Bool}{st:St}(hl:x.leafOk b st)(hb:inB b s)(hG:s.g+300<1000000):
  Cl 70 #[ptr c,stV st] w λr w'=>r= .returned (.tuple #[])/\Cw W x K w' c (x.leaf st s):=by
 rcases st with ⟨to,a⟩|⟨to,o,a,d⟩|⟨to,f,a⟩|⟨f,a,v⟩|a|⟨⟩|a|n
 ·exact zvw h hl.1 hl.2 hG
 ·exact zz9 h hE hl.1 hl.2.1 hl.2.2.1 hl.2.2.2 hG
 ·obtain ⟨h1,h2,⟨h3,i,n,h4,h5,h6⟩,h7⟩:=hl
  obtain ⟨k,hk,hA,hp⟩:=hb.2 h1
  have hi:i<k.puts.length:=yue
  cases hpi:k.puts[i] with
  |false=>exact zq9 h hk hA h2 h3 h7 h4 h5 ⟨by omega,by omega⟩ (by rw [List.getElem?_eq_getElem hi,hpi]) hG
  |true=>exact zra h hk hA h2 h3 h7 h4 h5 ⟨by omega,by omega⟩ (by rw [List.getElem?_eq_getElem hi,hpi]) hG
 ·obtain ⟨h1,⟨h3,i,n,h4,h5,h6⟩,h7,h8⟩:=hl
  exact zvx h h3 h7 h8 (by rw [h4];exact ⟨by simp,by simp;omega,by simp,by simp;omega⟩) hG
 ·cases hbb:b with
  |false=>exact zq8 h (hb.1 hbb) hl hG
  |true=>
   obtain ⟨k,hk,_⟩:=hb.2 hbb
   exact zq7 h hk hl hG
 ·exact hl.elim
 ·exact hl.elim
 ·exact hl.elim
end
theorem zh5(ws:Nat->List ByteArray): ∀(l:List Bool) (i:Nat) (s:Ck),(Qn (λi s=>s.add (ws i)) l i s).L.length<=s.L.length+l.length
 |[],_,s=>by simp [Qn]
 |a::r,i,s=>by
  simp only [Qn,List.length_cons]
  have:=zh5 ws r (i+1) (if a=true then s.add (ws i) else s)
  by_cases ha:a=true
  ·rw [if_pos ha] at this⊢;rw [Qx] at this;omega
  ·rw [if_neg ha] at this⊢;omega
theorem zkf(x:Cx){s:Ck}{k:Bk}(hk:s.blk=some k): ∃n,(x.begin s).blk=some {k with again:=n}/\n<=s.L.length+k.chgs.length:=by
 refine ⟨(Qn (λi s=>s.add [Qh,y0,x.own (32+(i:Nat)),Zy (i:Nat)]) s.bk.chgs 0 s).L.length,?_,?_⟩
 ·exact ysd
 ·have:=zh5 (λi=>[Qh,y0,x.own (32+(i:Nat)),Zy (i:Nat)]) s.bk.chgs 0 s
  rw [Sq hk] at this⊢
  exact this
section
variable{W:World}{x:Cx}{c:Nat}{hs:List Hd}{ms:List HM}
theorem z4h(hE:Env W)(hA:Ar hs ms W)(KN:z3g W x c hs ms): ∀(f:Nat),f<=3->∀(b:Bool) (e:En),enW hs x f b e->∀K w s,Cw W x K w c s->inB b s->s.loops+f<=10->s.g+300*wE hs f e+1000<1000000 ->
  Cl 70 #[ptr c,enV (Qu ms) e] w λr w'=>r= .returned (.tuple #[])/\Cw W x K w' c (cEn hs x f e s)
 |0,_,_, .inl _,he,K,w,s,h,hb,_,hG=>zyv hE h he hb (by simp only [wE] at hG;omega)
 |0,_,_, .inr _,he,_,_,_,_,_,_,_=>he.elim
 |f+1,_,_, .inl _,he,K,w,s,h,hb,_,hG=>zyv hE h he hb (by simp only [wE] at hG;omega)
 |f+1,hf,b, .inr j,he,K,w,s,h,hb,hlo,hG=>by
  obtain ⟨es,h14,he⟩:=he
  have hw: ∀k,hs[j]?=some ⟨k,es⟩->300*wE hs (f+1) (.inr j)=300+300*(es.map (wE hs f)).sum:=λk hj=>by
   simp only [wE,Jb,hj,Nat.mul_add]
  have hsum:=Is es (wE hs f) 300
  have hLg:=h.ok.l
  rcases he with ⟨hj,hbf,he⟩|⟨a,hj,ha,he⟩|⟨n,hj,hn,he⟩
  ·obtain ⟨hl,e1,e2⟩:=Eg hA hj
   have hd:=hA.hd j hl
   have hrow:=hd.row
   rw [e1] at hrow
   rw [hw _ hj] at hG
   have hkn:=zgq x (Jf hs 3 es) bk0 zkd
   have hblk: ∀s:Ck,(es.foldl (λs e=>cEn hs x f e s) s).blk=s.blk:=λs'=>Oq (f:=λs e=>cEn hs x f e s) es s' (λe he' s=>Xh hs x f true e (he e he') s (λq=>by cases q))
   have h1:=zrw x (s:={s with blk:=some ((Jf hs 3 es).foldl x.seen bk0)}) rfl hkn
   obtain ⟨n,h2,h3⟩:=zkf x (s:={s with blk:=some ((Jf hs 3 es).foldl x.seen bk0)}) rfl
   rw [hkn.c] at h3
   have hbody:=zke (f:=λs e=>cEn hs x f e s) (c:=λe=>300*wE hs f e) (I:=λ_=>True) es (x.begin {s with blk:=some ((Jf hs 3 es).foldl x.seen bk0)}) (λe he' s _=>⟨zrx hs x f true e (he e he') s (λq=>by cases q),trivial⟩) trivial
   rw [hsum] at hbody
   have hb2:=(hblk (x.begin {s with blk:=some ((Jf hs 3 es).foldl x.seen bk0)})).trans h2
   have hcg:=zml x hb2 hkn.u hkn.p hkn.g
   have hlob:=(zat x).lo {s with blk:=some ((Jf hs 3 es).foldl x.seen bk0)}
   have hst:cEn hs x (f+1) (.inr j) s=x.atomicC ((Jf hs 3 es).foldl x.seen bk0) (λs=>es.foldl (λs e=>cEn hs x f e s) s) s:=by
    simp only [cEn,hj]
    rfl
   rw [e2,hst]
   have hg0:({s with blk:=some ((Jf hs 3 es).foldl x.seen bk0)}:Ck).g=s.g:=rfl
   have hL0:({s with blk:=some ((Jf hs 3 es).foldl x.seen bk0)}:Ck).L=s.L:=rfl
   have hlo0:({s with blk:=some ((Jf hs 3 es).foldl x.seen bk0)}:Ck).loops=s.loops:=rfl
   rw [hg0] at h1
   rw [hL0] at h3
   rw [hlo0] at hlob
   refine zj4 (hid (zvz h (rv:=ms[j].rv) hd.rc (hid λw hw=>KN K w s j es hl hw hj h14 ⟨f,by omega,he⟩) (λs=>es.foldl (λs e=>cEn hs x f e s) s) (hid λw hw=>?_) hb2 ⟨rfl,rfl⟩ (by show n<_;omega) yue yue yue))
   refine zmn hrow h14 (λe s=>cEn hs x f e s) (λs=>inB true s/\s.loops+f<=10) (λe=>300*wE hs f e) (λe he' K w s h hi hG=>z4h hE hA KN f yue true e (he e he') K w s h hi.1 hi.2 hG) (λe he' s hi=>⟨⟨Eh hi.1 (Xh hs x f true e (he e he') s (λq=>by cases q)),by rw [(Fq hs x f e).lo];exact hi.2⟩,zrx hs x f true e (he e he') s (λq=>by cases q)⟩) hw ⟨⟨(λq=>by cases q),λ_=>⟨_,h2,by show n<_;omega,hkn.p⟩⟩,by omega⟩ (by rw [hsum];omega)
  ·obtain ⟨hl,e1,e2⟩:=Eg hA hj
   have hd:=hA.hd j hl
   have hrow:=hd.row
   have hkk:=hd.kind
   rw [e1] at hrow hkk
   rw [hw _ hj] at hG
   have hI0:inB b (s.add [yJz,x.val a]):=Eh hb rfl
   have hbody:=zke (f:=λs e=>cEn hs x f e s) (c:=λe=>300*wE hs f e) (I:=λs=>inB b s) es (s.add [yJz,x.val a]) (λe he' s hI=>⟨zrx hs x f b e (he e he') s hI.1,Eh hI (Xh hs x f b e (he e he') s hI.1)⟩) hI0
   rw [hsum] at hbody
   have hle:=(Oo (f:=λs e=>cEn hs x f e s) (λe=>Fq hs x f e) es).le (s.add [yJz,x.val a])
   have hst:cEn hs x (f+1) (.inr j) s=(es.foldl (λs e=>cEn hs x f e s) (s.add [yJz,x.val a])).land s.L.length:=by
    simp only [cEn,hj]
    rfl
   have hg0:(s.add [yJz,x.val a]).g=s.g+1:=rfl
   rw [hg0] at hbody
   rw [e2,hst]
   refine z0b h ha hd.rc hkk.1 hkk.2 (λs=>es.foldl (λs e=>cEn hs x f e s) s) (hid λK w hw=>?_) hle yue yue
   refine zmn hrow h14 (λe s=>cEn hs x f e s) (λs=>inB b s/\s.loops+f<=10) (λe=>300*wE hs f e) (λe he' K w s h hi hG=>z4h hE hA KN f yue b e (he e he') K w s h hi.1 hi.2 hG) (λe he' s hi=>⟨⟨Eh hi.1 (Xh hs x f b e (he e he') s hi.1.1),by rw [(Fq hs x f e).lo];exact hi.2⟩,zrx hs x f b e (he e he') s hi.1.1⟩) hw ⟨hI0,by show s.loops+f<=10;omega⟩ (by rw [hsum,hg0];omega)
  ·obtain ⟨hl,e1,e2⟩:=Eg hA hj
   have hd:=hA.hd j hl
   have hrow:=hd.row
   have hkk:=hd.kind
   rw [e1] at hrow hkk
   rw [hw _ hj] at hG
   have hI0:inB b (({s with loops:=s.loops+1}:Ck).add [Qh,y0,x.own (36+(s.loops:Int)),dec n]):=Eh hb rfl
   have hbody:=zke (f:=λs e=>cEn hs x f e s) (c:=λe=>300*wE hs f e) (I:=λs=>inB b s) es (({s with loops:=s.loops+1}:Ck).add [Qh,y0,x.own (36+(s.loops:Int)),dec n]) (λe he' s hI=>⟨zrx hs x f b e (he e he') s hI.1,Eh hI (Xh hs x f b e (he e he') s hI.1)⟩) hI0
   rw [hsum] at hbody
   have hle:=(Oo (f:=λs e=>cEn hs x f e s) (λe=>Fq hs x f e) es).le (({s with loops:=s.loops+1}:Ck).add [Qh,y0,x.own (36+(s.loops:Int)),dec n])
   rw [Qx] at hle
   have hlp:=(Oo (f:=λs e=>cEn hs x f e s) (λe=>Fq hs x f e) es).lo (({s with loops:=s.loops+1}:Ck).add [Qh,y0,x.own (36+(s.loops:Int)),dec n])
   have hst:cEn hs x (f+1) (.inr j) s=x.loopC n (λs=>es.foldl (λs e=>cEn hs x f e s) s) s:=by
    simp only [cEn,hj]
    rfl
   have hg0:(({s with loops:=s.loops+1}:Ck).add [Qh,y0,x.own (36+(s.loops:Int)),dec n]).g=s.g+1:=rfl
   rw [hg0] at hbody
   rw [e2,hst]
   refine zrd (hid (z24 h (rv:=ms[j].rv) ⟨by omega,by omega⟩ hd.rc hkk yue (λs=>es.foldl (λs e=>cEn hs x f e s) s) (hid λK w hw=>?_) hle hlp yue yue))
   refine zmn hrow h14 (λe s=>cEn hs x f e s) (λs=>inB b s/\s.loops+f<=10) (λe=>300*wE hs f e) (λe he' K w s h hi hG=>z4h hE hA KN f yue b e (he e he') K w s h hi.1 hi.2 hG) (λe he' s hi=>⟨⟨Eh hi.1 (Xh hs x f b e (he e he') s hi.1.1),by rw [(Fq hs x f e).lo];exact hi.2⟩,zrx hs x f b e (he e he') s hi.1.1⟩) hw ⟨hI0,by show s.loops+1+f<=10;omega⟩ (by rw [hsum,hg0];omega)
end
def Ck.endC(s:Ck):Ck:=
 if s.T=[] then s.add [Ex] else ((s.add [Ex]).lands s.T).add [zj1,dec 2]
def Ck.text(s:Ck):ByteArray:=Zt 10 s.L++⟨#[10]⟩
section
variable{W w w':World}{x:Cx}{K:List (Nat×Nat×Value)}{m:Cm}{c:Nat}{s:Ck}
theorem Cd.traps(h:Cd W x K m w c s): ∃a k,w.cell? ⟨c,6,none⟩=some (.slice a s.T.length k)/\m.tv= .slice a s.T.length k:=by
 obtain ⟨a,k,e⟩:=zc2 h.trow
 exact ⟨a,k,by rw [h.c6,e],e⟩
theorem z5n(h:Cw W x K w c s)(hG:s.g+s.T.length+200<10000000):
  Cl 41 #[ptr c] w λe w'=>e= .returned (.tuple #[])/\Cw W x K w' c s.endC:=by
 have H0:=hid h
 clear h
 by_cases hT:s.T=[]
 ·have hR:s.endC=s.add [Ex]:=if_pos hT
  rw [hR]
  clear hR
  go_enter Tryz.func41,Tryz.ntmps41
  go_wp2_with fail
  refine (Qp H0.out [Ex] yuf ⟨by decide,trivial⟩ yue).mono ?_
  rintro e w1 ⟨rfl,m,q⟩
  obtain ⟨a,k,c6,_⟩:=q.traps
  have hl:(s.add [Ex]).T.length=0:=by show s.T.length=0;rw [hT];rfl
  rw [hl] at c6
  have H1:=hid q
  clear q
  go_wp2
  (try simp only [Exit.inBlock,Exit.then])
  refine bodyPost_ret (results_none rfl _ _ _) rfl ?_
  exact ⟨rfl,m,H1.out⟩
 ·have hR:s.endC=((s.add [Ex]).lands s.T).add [zj1,dec 2]:=if_neg hT
  rw [hR]
  have hpos:0<s.T.length:=List.length_pos_iff.2 hT
  have hne:((s.T.length:Int)==0)=false:=yuj
  have hne': ¬(s.T.length:Int)=0:=yue
  clear hR
  go_enter Tryz.func41,Tryz.ntmps41
  go_wp2_with fail
  refine (Qp H0.out [Ex] yuf ⟨by decide,trivial⟩ yue).mono ?_
  rintro e w1 ⟨rfl,m,q⟩
  obtain ⟨a,kc,c6,htv⟩:=q.traps
  have hTe:(s.add [Ex]).T=s.T:=rfl
  have hgT:(s.add [Ex]).g+s.T.length+100<10000000:=by show s.g+1+_+_<_;omega
  have H1:=hid q
  clear q H0
  generalize hS:s.add [Ex]=S at*
  rw [hTe] at c6 htv
  go_wp2
  go_loopw [20] (λv20 wr=>∃i:Nat,i<=s.T.length/\v20= .int .i64 i/\Hid (Cd W x K m wr c (S.lands (s.T.take i)))) (λv20 _=>s.T.length- (intOf v20).toNat)
  case atStart=>exact ⟨0,Nat.zero_le _,rfl,H1⟩
  case round=>
   obtain ⟨i,hi,rfl,hB⟩:=hrel
   by_cases hlt:i<s.T.length
   ·have hlt':(i:Int)<(s.T.length:Int):=by omega
    have hi0:(0:Int)<=(i:Int):=yue
    have hTi:(S.lands (s.T.take i)).T=s.T:=(zq6 _ _).trans hTe
    have r1:=hB.out.trow
    have r2:=hB.out.tl
    rw [hTi] at r1 r2
    obtain ⟨g,cap,bl,ba,e1,e2,h1,h2⟩:=zl7 r1 r2 hlt
    rw [htv] at e1
    injection e1 with e3 _ e4
    subst e3 e4
    have hun:=hB.out.ok.tb s.T[i] (by rw [hTi];exact List.getElem_mem hlt)
    have D1:=hid (zq0 hB.out h1 h2 hun (by rw [If];simp;omega))
    have hs:(S.lands (s.T.take i)).land s.T[i]=S.lands (s.T.take (i+1)):=by
     rw [<-zfm,List.take_add_one,List.getElem?_eq_getElem hlt];rfl
    rw [hs] at D1
    clear r1 r2 h1 h2 hun hs hTi
    go_wp2_with fail
    refine D1.out.mono ?_
    rintro e w1 ⟨rfl,q⟩
    have H2:=hid q
    clear q D1
    go_wp2
    go_roundw
    case rel=>exact ⟨i+1,by omega,by go_num,H2⟩
    case measure=>simp [intOf];omega
   ·have hlt': ¬(i:Int)<(s.T.length:Int):=by omega
    have hie:i=s.T.length:=yue
    rw [hie,List.take_length] at hB
    have H2:Hid (Cw W x K wr c (S.lands s.T)):=hid ⟨m,hB.out⟩
    have hg2:=If s.T S
    go_wp2_with fail
    go_region_law (first
     |(go_simp;go_at_call 72;refine (zag H2.out.drew 2 yue yue).mono ?_;rintro e w3 ⟨rfl,q⟩;have H3:=hid q;clear q)
     |(go_simp;go_at_call 71;refine (Qp H3.out [zj1,dec 2] yuf ⟨by decide,Sp _ yue yue,trivial⟩ yue).mono ?_;rintro e w4 ⟨rfl,q⟩;have H4:=hid q;clear q))
    go_wp2
    go_end0
    subst hS
    exact ⟨rfl,H4.out⟩
theorem zbz(B:Nat): ∀(ws:List ByteArray),(∀u∈ws,u.size<=B)->(Lib.join (ws.map (·.data.toList)) [10]).length<=(B+1)*ws.length
 |[],_=>by simp [Lib.join_nil]
 |[a],h=>by
  have h1:a.data.size<=B:=h a yuf
  simp only [List.map_cons,List.map_nil,Lib.join_one,List.length_cons,List.length_nil,Array.length_toList]
  omega
 |a::b::r,h=>by
  have ih:=zbz B (b::r) (λu hu=>h u (List.mem_cons_of_mem _ hu))
  have h1:a.data.size<=B:=h a yuf
  have e:Lib.join ((a::b::r).map (·.data.toList)) [10]=a.data.toList++[10]++Lib.join ((b::r).map (·.data.toList)) [10]:=by
   simp [Lib.join,List.intercalate]
  have e2:(B+1)*(a::b::r).length=(B+1)*(b::r).length+(B+1):=by rw [List.length_cons,Nat.mul_add,Nat.mul_one]
  rw [e,e2]
  simp only [List.length_append,List.length_cons,List.length_nil,Array.length_toList] at ih⊢
  omega
theorem zry(h:s.Ok)(hG:s.g<1000000):(Lib.join (s.L.map (·.data.toList)) [10]).length<=31000000000000:=by
 have h1:=zbz (200+30*s.g) s.L h.z
 have h2:=h.l
 have h3:(200+30*s.g+1)*s.L.length<=(200+30*s.g+1)*1000000:=Nat.mul_le_mul_left _ yue
 omega
theorem z3h(h:Cw W x K w c s)(hne:s.L≠[])(hG:s.g<1000000):
  Cl 43 #[ptr c] w λe w'=>e= .returned (.string s.text)/\Cw W x K w' c s:=by
 obtain ⟨m,hm⟩:=h
 have hsz:=zry hm.ok hG
 have hL:=hm.ok.l
 have hpos:0<s.L.length:=List.length_pos_iff.2 hne
 obtain ⟨g,cap,hlv,hcap,hcells,hgl⟩: ∃g cap,m.lv= .slice (some ⟨g,0,none⟩) s.L.length cap/\s.L.length<=cap/\(∀(j:Nat) u,s.L[j]?=some u->w.cell? ⟨g,0+j,none⟩=some (.string u))/\g<w.heap.size:=by
  rcases hm.lrow.2 with ⟨_,e⟩|⟨g,cap,cur,e,h1,h2,h3,h4,h5,h6⟩
  ·omega
  ·have hc:=hm.lrow.cells (g:=g) yu4
   refine ⟨g,cap,e,h3,λj u hu=>?_,(Array.getElem?_eq_some_iff.1 h2).1⟩
   have e1:=hc j (.string u) (by simp [hu])
   have e2:(⟨g,0,none⟩:Addr).add j=⟨g,0+j,none⟩:=by cases j<;>simp [Addr.add]
   rw [e2] at e1
   exact e1
 have c0:=hm.c0
 rw [hlv] at c0
 have KJ:Hid (Cl 74 #[.slice (some ⟨g,0,none⟩) s.L.length cap, .string ⟨#[10]⟩] w λe w'=>e= .returned (.string (Zt 10 s.L))/\Below w.heap.size w w'):=hid (Tryz.strings_Join g 0 cap s.L ⟨#[10]⟩ w hcells hgl yue hcap (by show (Lib.join (s.L.map (·.data.toList)) [10]).length<=_;omega))
 have hjs:(Zt 10 s.L).size=(Lib.join (s.L.map (·.data.toList)) [10]).length:=by simp [Zt,ByteArray.size]
 have hs1: ¬9223372036854775807<(Zt 10 s.L).size+1:=yue
 have H:=hid hm
 clear hm hcells hlv
 go_enter Tryz.func43,Tryz.ntmps43
 go_wp2_with fail
 refine KJ.out.mono ?_
 rintro e w1 ⟨rfl,b1⟩
 have H1:=hid (H.out.below b1)
 clear b1 H KJ c0
 clear hjs hsz
 generalize hjJ:Zt 10 s.L=J at*
 go_wp2
 go_ret
 subst hjJ
 exact ⟨rfl,m,H1.out⟩
end
def Ck.none':Ck:=⟨[],[],0,Option.none,0⟩
theorem Ck.none_ok:Ck.none'.Ok:=⟨Nat.le_refl _,λ_ h=>by simp [Ck.none'] at h,Nat.le_refl _,λ_ h=>by simp [Ck.none'] at h,λ_ h=>by simp [Ck.none'] at h⟩
theorem zyw(w:World)(o:Obj):(w.alloc o).heap[w.heap.size]?=some o:=yvv
theorem z0n{x:Cx}(h:zj0 W x):
  Cw W x [] (W.alloc (.cells #[.slice Option.none 0 0, .map (some x.sb), .map (some x.lb), .int .i64 x.th, .int .i64 0, .pointer Option.none, .slice Option.none 0 0] 118)) W.heap.size Ck.none':=by
 refine ⟨⟨λk=>if k=W.heap.size then 1 else 0, .slice Option.none 0 0, .slice Option.none 0 0,[],0, .slice Option.none 0 0,[]⟩,{
  base:=h,ok:=Ck.none_ok,low:=(Below.refl _ W).alloc (Nat.le_refl _) _
  sh:=by unfold World.shape?;rw [zyw];rfl
  c0:=World.cell?_alloc_new _ _ _ 0,c1:=World.cell?_alloc_new _ _ _ 1,c2:=World.cell?_alloc_new _ _ _ 2,c3:=World.cell?_alloc_new _ _ _ 3
  c4:=World.cell?_alloc_new _ _ _ 4,c5:=World.cell?_alloc_new _ _ _ 5,c6:=World.cell?_alloc_new _ _ _ 6
  free:=λj=>by unfold World.frozen?;rw [zyw];simp
  lrow:=⟨rfl, .inl ⟨rfl,rfl⟩⟩,trow:=⟨rfl, .inl ⟨rfl,rfl⟩⟩
  tl:=⟨rfl,λi f n hf=>by simp at hf⟩
  bk:=λk hk=>by simp [Ck.none'] at hk
  kp:=λp hp=>by simp at hp
  lz:=λk hk=>if_neg (by simp at hk;omega)
  lo:=λk hk=>if_neg yue
  lc:=if_pos rfl
  llv:=λg hg=>by simp [Value.ownBlock] at hg
  ltv:=λg hg=>by simp [Value.ownBlock] at hg}⟩
def It(hs:List Hd)(x:Cx)(es:List En):Ck:=(es.foldl (λs e=>cEn hs x 3 e s) Ck.none').endC
def zfr(hs:List Hd)(x:Cx)(es:List En):ByteArray:=⟨#[116,104,114,101,97,100,10]⟩++(It hs x es).text
open Go.RowKit Go.Shelf
section
variable{w:World}{B b:Nat}{l:List UInt8}{u:ByteArray}
theorem z0o(h:Lib.IsBuilderF 103 5 B b (Lib.byteCells l) w)(hlen:l.length+u.size<=140737488355328)(hB:B<=w.heap.size):
  Cl 42 #[ptr b, .string u] w λe w'=>e= .returned (.tuple #[.int .i64 u.size, .nilIface])/\Lib.IsBuilderF 103 5 B b (Lib.byteCells (l++u.data.toList)) w'/\Below B w w':=by
 have hl:(Lib.byteCells l).length+u.size<=140737488355328:=by simpa [Lib.byteCells] using hlen
 refine (Any.Builder_WriteString_k (ρ:=Tryz.lays156_ren) {Tryz.lays156 with} Tryz.Builder_Extra_156 B b (Lib.byteCells l) u w h hl hB).mono ?_
 rintro e w' ⟨he,h1,h2,_⟩
 refine ⟨he, .inr ?_,h2⟩
 have e1:Lib.byteCells (l++u.data.toList)=Lib.byteCells l++Lib.strCells u:=by simp [Lib.byteCells,Lib.strCells]
 rw [e1]
 exact h1
theorem zwl(h:Lib.IsBuilderF 103 5 B b (Lib.byteCells l) w)(hB:B<=w.heap.size):
  Cl 44 #[ptr b] w λe w'=>e= .returned (.string ⟨l.toArray⟩)/\Below B w w':=by
 refine (Tryz.Builder_String_any_k B b l w h hB).mono ?_
 rintro e w' ⟨he,_,h2,_⟩
 exact ⟨he,h2⟩
end
abbrev z3i(sb lb i:Nat):Obj:= .cells #[.slice none 0 0, .map (some sb), .map (some lb), .int .i64 (i:Int), .int .i64 0, .pointer none, .slice none 0 0] 118
section
variable{W:World}{br sb n:Nat}{ta:Option Addr}{tk:Nat}{tb lb:Nat->Nat}{rv:Nat->Value}{tx:Nat->ByteArray}
theorem z3j(hn:n<=3)(c0:W.cell? ⟨br,0,none⟩=some (.map (some sb)))(c1:W.cell? ⟨br,1,none⟩=some (.slice ta n tk))
  (HT:Hid (∀i,i<n->∃g,ta=some ⟨g,0,none⟩/\W.cell? ⟨g,i,none⟩=some (ptr (tb i))/\W.cell? ⟨tb i,0,none⟩=some (rv i)/\W.cell? ⟨tb i,1,none⟩=some (.map (some (lb i)))))
  (J:Nat->World->Prop) (P1 P2 P3:Nat->Nat->World->Prop) (R:Value->World->Prop) (HTX:Hid (∀i c w,i<n->P3 i c w->(tx i).size<=1000000000000))
  (hlow:Hid (∀i wr,J i wr->Below W.heap.size W wr)) (h0:Hid (J 0 (W.alloc (.cells #[.pointer none, .slice none 0 0] 103))))
  (K1:Hid (∀i wr,i<n->J i wr->Cl 40 #[ptr wr.heap.size,rv i] (wr.drew.alloc (z3i sb (lb i) i)) λe w'=>e= .returned (.tuple #[])/\P1 i wr.heap.size w'))
  (K2:Hid (∀i c w,i<n->P1 i c w->Cl 41 #[ptr c] w λe w'=>e= .returned (.tuple #[])/\P2 i c w'))
  (K3:Hid (∀i c w,i<n->P2 i c w->Cl 43 #[ptr c] w λe w'=>e= .returned (.string (tx i))/\P3 i c w'))
  (K4:Hid (∀i c w,i<n->P3 i c w->Cl 42 #[ptr W.heap.size, .string (⟨#[116,104,114,101,97,100,10]⟩++tx i)] w λe w'=>(∃v,e= .returned v)/\J (i+1) w'))
  (K5:Hid (∀w,J n w->Cl 44 #[ptr W.heap.size] w λe w'=>∃v,e= .returned v/\R v w')):
  Cl 29 #[ptr br] W λe w'=>∃v,e= .returned v/\R v w':=by
 have l0:=blt c0
 have HC0:Hid (∀wr,Below W.heap.size W wr->wr.cell? ⟨br,0,none⟩=some (.map (some sb))):=hid λwr h=>(h.cell (p:=⟨br,0,none⟩) l0).trans c0
 have HK:Hid (∀wr,Below W.heap.size W wr->∀b o v,W.cell? ⟨b,o,none⟩=some v->wr.cell? ⟨b,o,none⟩=some v):=hid λwr h b o v hv=>(h.cell (p:=⟨b,o,none⟩) (blt hv)).trans hv
 go_enter Tryz.func29,Tryz.ntmps29
 go_wp2
 go_loopw [12] (λv12 wr=>∃i:Nat,i<=n/\v12= .int .i64 i/\Hid (J i wr)) (λv12 _=>n- (intOf v12).toNat)
 case atStart=>exact ⟨0,Nat.zero_le _,rfl,h0⟩
 case round=>
  obtain ⟨i,hi,rfl,hB⟩:=hrel
  by_cases hlt:i<n
  ·have hlt':(i:Int)<(n:Int):=by omega
   have hi0:(0:Int)<=(i:Int):=yue
   obtain ⟨g,hta,t1,t2,t3⟩:=HT.out i hlt
   subst hta
   have hbl:=hlow.out i wr hB.out
   have d0:=HC0.out wr hbl
   have d1:=HK.out wr hbl _ _ _ t1
   have d3:=HK.out wr hbl _ _ _ t3
   have d2:=HK.out wr hbl _ _ _ t2
   have lt:tb i<wr.heap.size:=blt d2
   have D1:=hid (K1.out i wr hlt hB.out)
   have D2:=hid (λc w=>K2.out i c w hlt)
   have D3:=hid (λc w=>K3.out i c w hlt)
   have D4:=hid (λc w=>K4.out i c w hlt)
   have D5:=hid (λc w=>HTX.out i c w hlt)
   clear hbl t1 t2 t3 K1 K2 K3 K4 HT HC0 HK c0 c1
   generalize tb i=tbi at*
   generalize lb i=lbi at*
   generalize rv i=rvi at*
   generalize tx i=txi at*
   go_wp2_with fail
   go_region_law fail
   all_goals
    go_wp2_with fail
    refine D1.out.mono ?_
    rintro e w1 ⟨rfl,q⟩
    have H1:=hid q
    clear q
    go_wp2_with fail
    refine (D2.out _ _ H1.out).mono ?_
    rintro e w2 ⟨rfl,q⟩
    have H2:=hid q
    clear q
    go_wp2_with fail
    refine (D3.out _ _ H2.out).mono ?_
    rintro e w3 ⟨rfl,q⟩
    have hs: ¬9223372036854775807<7+txi.size:=by have:=D5.out _ _ q;omega
    have H3:=hid q
    clear q
    go_wp2_with fail
    refine (D4.out _ _ H3.out).mono ?_
    rintro e w4 ⟨⟨v,rfl⟩,q⟩
    have H4:=hid q
    clear q
    go_wp2
    go_roundw
    case rel=>exact ⟨i+1,by omega,by go_num,H4⟩
    case measure=>simp [intOf];omega
  ·have hlt': ¬(i:Int)<(n:Int):=by omega
   have hie:i=n:=yue
   subst hie
   have D5:=hid (K5.out wr hB.out)
   go_wp2_with fail
   refine D5.out.mono ?_
   rintro e w1 ⟨v,rfl,q⟩
   have H1:=hid q
   clear q
   go_wp2
   go_ret
   exact ⟨v,rfl,H1.out⟩
end
section
variable{st:RS}{lv:Nat->Nat}{ib:Nat->Bool}{wt:Nat->Nat}{x:Cx}
theorem zy0(h:Fit st lv ib wt)(hx:x.sh=st.shared)(hc: ¬6<st.cells){u:ByteArray}(hu:u.size<=maxLen)(hs:st.isSh u=true):x.varOk u:=by
 unfold RS.isSh at hs
 have hex:(st.shared.find? λp=>decide (p.1=u)).isSome=true:=by
  rw [List.find?_isSome]
  obtain ⟨p,hp,hq⟩:=List.any_eq_true.1 hs
  exact ⟨p,hp,hq⟩
 obtain ⟨p,hp⟩:=Option.isSome_iff_exists.1 hex
 obtain ⟨q1,q2,q3⟩:=h.sh p (List.mem_of_find?_eq_some hp)
 refine ⟨hu,p.2.1.toNat,p.2.2.toNat,?_,by omega,by omega⟩
 unfold Cx.var
 rw [hx,hp]
 simp only [Option.map_some,Option.getD_some]
 refine Prod.ext ?_ ?_
 ·show p.2.1=_;omega
 ·show p.2.2=_;omega
theorem zw0(hz:zl9 s)(hn:zop s){v:PV}(hv:v∈Qj s):v.ok:=⟨hz.rd v hv,hn.rd v hv⟩
theorem zsn(h:Fit st lv ib wt)(hx:x.sh=st.shared)(hc: ¬6<st.cells){b:Bool}(hl:z0s st b s):x.leafOk b s:=by
 have hr:=λv (hv:v∈Qj s)=>zw0 hl.sz hl.nm hv
 have hto:=hl.sz.to
 have hof:=hl.of
 have hofz:=hl.sz.of
 have hop:=hl.nm.op
 have hnh:=hl.nh
 clear hl
 rcases s with ⟨to,a⟩|⟨to,o,a,c⟩|⟨to,f,a⟩|⟨f,a,c⟩|a|⟨⟩|a|n
 ·exact ⟨hto,hr a yuy⟩
 ·exact ⟨hto,hop,hr a yuy,hr c yuy⟩
 ·exact ⟨(hof f rfl).1,hto,zy0 h hx hc (hofz f rfl) (hof f rfl).2,hr a yuy⟩
 ·exact ⟨(hof f rfl).1,zy0 h hx hc (hofz f rfl) (hof f rfl).2,hr a yuy,hr c yuy⟩
 ·exact hr a yuy
 ·simp [Qf] at hnh
 ·simp [Qf] at hnh
 ·simp [Qf] at hnh
theorem z3n(h:Fit st lv ib wt)(he: ∀(j:Nat) (y:Hd),st.hs[j]?=some y->y.ents.length<=14)(hx:x.sh=st.shared)(hc: ¬6<st.cells): ∀(f i:Nat) (y:Hd),st.hs[i]?=some y->lv i+f=3->∀e∈y.ents,enW st.hs x f (ib i) e
 |0,i,y,hy,_, .inl s,hm=>zsn h hx hc (h.leaf i y hy s hm)
 |f+1,i,y,hy,_, .inl s,hm=>zsn h hx hc (h.leaf i y hy s hm)
 |0,i,y,hy,hf, .inr j,hm=>by
  obtain ⟨q1,s,q2,q3⟩:=h.nest i y hy j hm
  obtain ⟨z,hz,_⟩:=Yy q2
  have:=h.le j (List.getElem?_eq_some_iff.1 hz).1
  omega
 |f+1,i,y,hy,hf, .inr j,hm=>by
  obtain ⟨q1,s,q2,q3⟩:=h.nest i y hy j hm
  obtain ⟨z,hz,hzk⟩:=Yy q2
  have ih:=z3n h he hx hc f j z hz yue
  have hzz:st.hs[j]?=some ⟨.st s,z.ents⟩:=by rw [hz,<-hzk]
  refine ⟨z.ents,he j z hz,?_⟩
  have hh:=q3.hh
  have hr:=λv (hv:v∈Qj s)=>zw0 q3.sz q3.nm hv
  have h1:=q3.at1
  have h0:=q3.at0
  have hlp:=q3.lp
  clear q3 q2
  rcases s with ⟨to,a⟩|⟨to,o,a,c⟩|⟨to,f,a⟩|⟨f,a,c⟩|a|⟨⟩|a|n
  ·simp [Qf] at hh
  ·simp [Qf] at hh
  ·simp [Qf] at hh
  ·simp [Qf] at hh
  ·simp [Qf] at hh
  ·obtain ⟨e1,e2⟩:=h1 rfl
   rw [e2] at ih
   exact .inl ⟨hzz,e1,ih⟩
  ·rw [h0 rfl] at ih
   exact .inr (.inl ⟨a,hzz,hr a yuy,ih⟩)
  ·rw [h0 rfl] at ih
   exact .inr (.inr ⟨n,hzz,hlp n rfl,ih⟩)
theorem z0w(h:Fit st lv ib wt): ∀(f:Nat) (e:En),wE st.hs f e<=wtE wt e
 |0, .inl _=>Nat.le_refl 1
 |0, .inr j=>by show 1<=1+wt j;omega
 |f+1, .inl _=>Nat.le_refl 1
 |f+1, .inr j=>by
  show 1+((Jb st.hs (.inr j)).map (wE st.hs f)).sum<=1+wt j
  cases hj:st.hs[j]? with
  |none=>simp [Jb,hj]
  |some y=>
   have h1:=h.w j y hj
   have h2:(y.ents.map (wE st.hs f)).sum<=(y.ents.map (wtE wt)).sum:=by
    have ih:=z0w h f
    generalize y.ents=es
    induction es with
    |nil=>simp
    |cons e r ih2=>
     have:=ih e
     simp only [List.map_cons,List.sum_cons]
     omega
   simp only [Jb,hj]
   omega
end
theorem zms{s:ByteArray}{st:RS}(hg:Jl s= .ok st)(hok:st.Ok 2000)(hm:zay st=false)(x:Cx)(hx:x.sh=st.shared)(t:Nat)(ht:t∈st.threads):
  (st.ents t).length<=14/\(∀e∈st.ents t,enW st.hs x 3 false e)/\((st.ents t).map (wE st.hs 3)).sum<=14:=by
 obtain ⟨lv,ib,wt,h⟩:=zd8 hg
 have hc: ¬6<st.cells:=by
  unfold zay at hm
  simp only [Bool.or_eq_false_iff,decide_eq_false_iff_not] at hm
  exact hm.1
 obtain ⟨l,c,q1,q2,q3⟩:=hok.thr t ht
 obtain ⟨y,hy,_⟩:=Yy q1
 have he:st.ents t=y.ents:=by unfold RS.ents;rw [hy]
 obtain ⟨l0,i0⟩:=h.thr t ht
 have hw:=h.w t y hy
 have hcc:=h.c t ht l c q1
 rw [he]
 refine ⟨hok.e14 t y hy,?_,?_⟩
 ·have:=z3n h hok.e14 hx hc 3 t y hy yue
  rw [i0] at this
  exact this
 ·have h2:(y.ents.map (wE st.hs 3)).sum<=(y.ents.map (wtE wt)).sum:=by
   have ih:=z0w h 3
   generalize y.ents=es
   induction es with
   |nil=>simp
   |cons e r ih2=>
    have:=ih e
    simp only [List.map_cons,List.sum_cons]
    omega
  omega
theorem zd9{p:Value}(h:Lib.BuilderAtF T e B b p bs W)(hb:Below W.heap.size W W'):Lib.BuilderAtF T e B b p bs W':=by
 have hlt:=h.lt
 obtain ⟨hB,v,hv,hown,hne⟩:=h
 exact ⟨hB,v,(hb.block b hlt).trans hv,hown.kept (row:=none) ⟨hb.os,hb.tape,hb.output,hb.size,λk hk _=>hb.block k hk⟩ (Classical.em _),hne⟩
theorem zsq(h:Lib.IsBuilderF T e B b bs W)(hb:Below W.heap.size W W'):Lib.IsBuilderF T e B b bs W':=
 h.elim (λx=> .inl (zd9 x hb)) (λx=> .inr (zd9 x hb))
def TabAt(W:World):Prop:=∀w,Below W.heap.size W w->Lib.TabIs Tryz.prog w "internal/strconv.uint64pow10" .u64 Lib.pow10Tab
theorem TabAt.below(h:TabAt W)(hb:Below W.heap.size W W'):TabAt W':=λw hw=>h w (hb.trans (hw.mono hb.size))
def RS.locs(st:RS)(t:Nat):List ByteArray:=match st.hk t with
 |some (.inl (l,_))=>l
 |_=>[]
def RS.thr(st:RS)(i:Nat):Nat:=(st.threads[i]?).getD 0
def zmu(st:RS)(i sb lb:Nat):Cx:=⟨st.shared,st.locs (st.thr i),i,sb,lb⟩
theorem zkq(hs:List Hd)(x y:Cx)(f:Nat)(h: ∀e s,cEn hs x f e s=cEn hs y f e s): ∀(es:List En) (s:Ck),es.foldl (λs e=>cEn hs x f e s) s=es.foldl (λs e=>cEn hs y f e s) s
 |[],_=>rfl
 |e::r,s=>by
  simp only [List.foldl_cons]
  rw [h e s]
  exact zkq hs x y f h r _
theorem zy2(hs:List Hd)(sh:List (ByteArray×Int×Int))(loc:List ByteArray)(th sb lb sb' lb':Nat): ∀(f:Nat) (e:En) (s:Ck),cEn hs ⟨sh,loc,th,sb,lb⟩ f e s=cEn hs ⟨sh,loc,th,sb',lb'⟩ f e s
 |0, .inl _,_=>rfl
 |0, .inr _,_=>rfl
 |f+1, .inl _,_=>rfl
 |f+1, .inr j,s=>by
  have ih:=zkq hs ⟨sh,loc,th,sb,lb⟩ ⟨sh,loc,th,sb',lb'⟩ f (zy2 hs sh loc th sb lb sb' lb' f)
  simp only [cEn]
  cases hs[j]? with
  |none=>rfl
  |some y=>
   obtain ⟨k,es⟩:=y
   cases k with
   |inl p=>rfl
   |inr st=>
    simp only
    rw [show (λs=>es.foldl (λs e=>cEn hs ⟨sh,loc,th,sb,lb⟩ f e s) s)=λs=>es.foldl (λs e=>cEn hs ⟨sh,loc,th,sb',lb'⟩ f e s) s from funext λs=>ih es s]
    rfl
def Ek(st:RS)(i:Nat):ByteArray:=zfr st.hs (zmu st i 0 0) (st.ents (st.thr i))
def za0(st:RS):Nat->List UInt8
 |0=>[]
 |i+1=>za0 st i++(Ek st i).data.toList
def Yi(st:RS):ByteArray:=⟨(za0 st st.threads.length).toArray⟩
section
variable{D:Nat->Prop}{lab:Nat->Nat×Nat}{W:World}{br sb bs:Nat}{tv ov:Value}{st:RS}{ms:List HM}{k:Nat}
def mAt(ms:List HM)(st:RS)(i:Nat):HM:=(ms[st.thr i]?).getD ⟨0, .nilIface,0,⟨.st .atomic,[]⟩⟩
structure z5s(W:World)(st:RS)(ms:List HM)(tv:Value)(i:Nat):Prop where
 row: ∃g cp,tv= .slice (some ⟨g,0,none⟩) st.threads.length cp/\W.cell? ⟨g,i,none⟩=some (ptr (mAt ms st i).b)
 c0:W.cell? ⟨(mAt ms st i).b,0,none⟩=some (mAt ms st i).rv
 c1:W.cell? ⟨(mAt ms st i).b,1,none⟩=some (.map (some (mAt ms st i).mb))
 own:W.ownsRow 0 153 1 (mAt ms st i).rv (st.ents (st.thr i)).length ((st.ents (st.thr i)).map (enV (Qu ms)))
 mp:MapIs W (mAt ms st i).mb (zjx (st.locs (st.thr i))) (st.locs (st.thr i)).length
 ln:(st.locs (st.thr i)).length<=4
 mem:st.thr i∈st.threads
theorem z3p(h:RMach D lab W br sb bs tv ov st ms)(hok:st.Ok k)(i:Nat)(hi:i<st.threads.length):z5s W st ms tv i:=by
 have ht:st.thr i=st.threads[i]:=by unfold RS.thr;rw [List.getElem?_eq_getElem hi];rfl
 obtain ⟨g,cp,e1,_,_,hlt,e2,_,e3,_,e4,_⟩:=h.thread_at hok i hi
 have hm:mAt ms st i=ms[st.threads[i]]:=by unfold mAt;rw [ht,List.getElem?_eq_getElem hlt];rfl
 have hmem:st.threads[i]∈st.threads:=List.getElem_mem hi
 obtain ⟨l,c,q1,q2,q3⟩:=hok.thr _ hmem
 obtain ⟨y,hy,hyk⟩:=Yy q1
 have hx:=h.hsAt _ hlt
 have hyy:y=ms[st.threads[i]].h:=by rw [hx] at hy;simpa using hy.symm
 have hkd:=(h.hd _ hlt).kind
 rw [<-hyy,hyk] at hkd
 obtain ⟨k1,k2,k3⟩:=hkd
 have hl:st.locs (st.thr i)=l:=by unfold RS.locs;rw [ht,q1]
 exact {row:=⟨g,cp,e1,by rw [hm];exact e2⟩,c0:=by rw [hm];exact e3,c1:=by rw [hm];exact k1,own:=by rw [hm,ht];exact e4,mp:=by rw [hm,hl];exact k3,ln:=by rw [hl];exact q3,mem:=by rw [ht];exact hmem}
end
abbrev za1(st:RS)(i:Nat):Ck:=(st.ents (st.thr i)).foldl (λs e=>cEn st.hs (zmu st i 0 0) 3 e s) Ck.none'
theorem zsr(s:Ck):s.endC.g<=s.g+s.T.length+2:=by
 unfold Ck.endC
 split
 ·show s.g+1<=_;omega
 ·show (((s.add [Ex]).lands s.T).g+1)<=_
  rw [If]
  show s.g+1+s.T.length+1<=_
  omega
theorem zss(s:Ck):s.endC.L≠[]:=by
 unfold Ck.endC
 split
 ·show s.L++[_]≠[];simp
 ·show ((s.add [Ex]).lands s.T).L++[_]≠[];simp
theorem zmv{s:Ck}(h:s.Ok)(hG:s.g<=20000):s.text.size<=20000000000:=by
 have h1:=zbz (200+30*s.g) s.L h.z
 have h2:=h.l
 have h3:(200+30*s.g+1)*s.L.length<=(200+30*s.g+1)*20000:=Nat.mul_le_mul_left _ yue
 unfold Ck.text Zt
 rw [ByteArray.size_append]
 have e1:(ByteArray.mk #[10]).size=1:=rfl
 have e2:(ByteArray.mk (Lib.join (s.L.map (·.data.toList)) [10]).toArray).size=(Lib.join (s.L.map (·.data.toList)) [10]).length:=by simp [ByteArray.size]
 omega
def Sw(l:List Bool)(f n:Nat):List Bool:=(List.range n).foldl (λl i=>l.set (f+i) true) l
theorem zft(l:List Bool)(f n:Nat):Sw l f (n+1)=(Sw l f n).set (f+n) true:=by
 simp [Sw,List.range_succ,List.foldl_append]
theorem za2(l:List Bool)(f:Nat): ∀n,(Sw l f n).length=l.length
 |0=>rfl
 |n+1=>by rw [zft,List.length_set,za2 l f n]
def MarksAt(w:World)(b o:Nat)(l:List Bool):Prop:=∀(i:Nat) v,l[i]?=some v->w.cell? ⟨b,o+i,none⟩=some (.bool v)
section
variable{w:World}{b o f n:Nat}{l:List Bool}
theorem MarksAt.set(h:MarksAt w b o l)(hf:f<l.length):MarksAt (w.setCell ⟨b,o+f,none⟩ (.bool true)) b o (l.set f true):=by
 intro i v hv
 by_cases e:i=f
 ·subst e
  rw [List.getElem?_set_self hf] at hv
  cases hv
  exact Qg (h i _ (List.getElem?_eq_getElem hf)) rfl
 ·rw [List.getElem?_set_ne (λe'=>e e'.symm)] at hv
  exact (Qb (.inr yue)).trans (h i v hv)
theorem zy3(h:MarksAt w b o l)(hl:l.length=6)(hfr: ∀j,w.frozen? ⟨b,j,none⟩=false)(hfn:f+n<=6):
  Cl 153 #[.pointer (some ⟨b,o,none⟩), .agg #[.int .i64 (f:Int), .int .i64 (n:Int)]] w λe w'=>e= .returned (.tuple #[])/\MarksAt w' b o (Sw l f n)/\Chg (λk j=>k=b/\o<=j/\j<o+6) w w':=by
 have lb:b<w.heap.size:=blt (h 0 l[0] (List.getElem?_eq_getElem yue))
 have H0:Hid (MarksAt (w.alloc (.cells #[.int .i64 (f:Int), .int .i64 (n:Int)] 193)) b o l):=hid λi v hv=>(World.cell?_alloc_past _ _ _ lb).trans (h i v hv)
 have HF:=hid hfr
 clear h hfr
 go_enter Tryz.func153,Tryz.ntmps153
 go_wp2
 go_loopw [7] (λv7 wr=>∃k:Nat,k<=n/\v7= .int .i64 k/\Hid (MarksAt wr b o (Sw l f k))/\Hid (Chg (λk j=>k=b/\o<=j/\j<o+6) (w.alloc (.cells #[.int .i64 (f:Int), .int .i64 (n:Int)] 193)) wr)) (λv7 _=>n- (intOf v7).toNat)
 case atStart=>exact ⟨0,Nat.zero_le _,rfl,H0,hid (Chg.refl _ _)⟩
 case round=>
  obtain ⟨k,hk,rfl,hB,hC⟩:=hrel
  by_cases hlt:k<n
  ·have hlt':(k:Int)<(n:Int):=by omega
   have hi0:(0:Int)<=(f:Int)+(k:Int):=yue
   have hi6:(f:Int)+(k:Int)<6:=yue
   have hwr:IntKind.i64.wrap ((f:Int)+(k:Int))=(f:Int)+(k:Int):=yum
   have htn:((f:Int)+(k:Int)).toNat=f+k:=yue
   have e0:wr.cell? ⟨w.heap.size,0,none⟩=some (.int .i64 (f:Int)):=(hC.out.cell _ _ yuf yue).trans (World.cell?_alloc_new _ _ _ 0)
   have hlen:=za2 l f k
   have ec:=hB.out (f+k) (Sw l f k)[f+k] (List.getElem?_eq_getElem yue)
   have ef:wr.frozen? ⟨b,o+(f+k),none⟩=false:=(hC.out.frozen _ _ yuj).trans ((World.frozen?_alloc_past _ _ _ lb).trans (HF.out _))
   have HN:=hid (hB.out.set (f:=f+k) yue)
   rw [<-zft] at HN
   have HC2:=hid (hC.out.then (((Chg.refl (λkk j=>kk=b/\j=o+(f+k)) wr).setCell (b:=b) (o:=o+(f+k)) (λ_=>⟨rfl,rfl⟩) (.bool true))) (λj i _ e=>⟨e.1,by omega,by omega⟩))
   clear hB hC
   generalize (Sw l f k)[f+k]=v0 at*
   go_wp2_with fail
   go_region_law fail
   go_wp2
   go_roundw
   case rel=>exact ⟨k+1,by omega,by go_num,hid λi v hv=>HN.out i v hv,hid HC2.out.drew⟩
   case measure=>simp [intOf];omega
  ·have hlt': ¬(k:Int)<(n:Int):=by omega
   have hk6:k=n:=yue
   rw [hk6] at hB
   go_wp2
   go_end0
   exact ⟨rfl,hB.out,((Chg.refl _ w).alloc _).trans hC.out⟩
end
end Go.Proofs.YtkenoofmkbghiaaGreatDoor
