import Derived.Test.YtphcopbffecceaaGreatDoorP09
import Derived.ChangeKeysEq
set_option maxRecDepth 100000
set_option maxHeartbeats 4000000
namespace Go.Proofs.YtphcopbffecceaaGreatDoor
open Go.RowKit
variable{k:Bk}{w3:World}
section
variable{W w w':World}{x:Cx}{K:List (Nat×Nat×Value)}{m:Cm}{c:Nat}{s:Ck}
theorem zhs(x:Cx)(s:Ck):s.L.length<(x.undoC s).L.length:=by
 simp only [Cx.undoC,zak]
 have:=(Xj x).eachL s.bk.puts 0 (s.lands s.bk.undo)
 rw [zhq] at this
 omega
theorem zrb(x:Cx)(s:Ck):(x.undoC s).g<=s.g+s.bk.undo.length+s.bk.puts.length*6+1:=by
 have:=(Xj x).eachG s.bk.puts 0 (s.lands s.bk.undo)
 rw [If] at this
 show (Qn (λi=>x.unlockC i) s.bk.puts 0 (s.lands s.bk.undo)).g+1<=_
 omega
theorem zrc(x:Cx)(s:Ck)(hk:s.blk=some k): ∃k',(x.undoC s).blk=some k'/\k.sim k':=
 (Xj x).eachK s.bk.puts 0 (s.lands s.bk.undo) k ((Ig _ _).trans hk)
theorem zl8(h:Cw W x K w c s)(hk:s.blk=some k)(hA:k.again<100000000)(hG:s.g+1000<1000000):
  Cl 126 #[ptr c] w λe w'=>e= .returned (.tuple #[])/\Cw W x K w' c (x.commit s):=by
 obtain ⟨b,c5,hb⟩:=h.cells hk
 obtain ⟨p0,p1,p2,p3,p4,p5,hp⟩:=zn9 hb.n2
 obtain ⟨q0,q1,q2,q3,q4,q5,hq⟩:=zn9 hb.n1
 have hR:x.commit s=((x.undoC (((Qn (λi=>x.storeC i) [p0,p1,p2,p3,p4,p5] 0 (Qn (λi=>x.lookC i) [q0,q1,q2,q3,q4,q5] 0 (((Qn (λi=>x.lockC i) [p0,p1,p2,p3,p4,p5] 0 s).add [Xf,yR5,y0,dec 12,y1]).add [Fy,yR5,yR5,y1]))).add [Yn]).add [zaa])).land ((Qn (λi=>x.storeC i) [p0,p1,p2,p3,p4,p5] 0 (Qn (λi=>x.lookC i) [q0,q1,q2,q3,q4,q5] 0 (((Qn (λi=>x.lockC i) [p0,p1,p2,p3,p4,p5] 0 s).add [Xf,yR5,y0,dec 12,y1]).add [Fy,yR5,yR5,y1]))).add [Yn]).L.length):=by
  simp only [Cx.commit,Sq hk,hp,hq]
 rw [hR]
 have g0:=hb.p 0 p0 yat
 have g1:=hb.p 1 p1 yat
 have g2:=hb.p 2 p2 yat
 have g3:=hb.p 3 p3 yat
 have g4:=hb.p 4 p4 yat
 have g5:=hb.p 5 p5 yat
 simp only [Nat.reduceAdd] at g0 g1 g2 g3 g4 g5
 obtain ⟨k1,hk1,s1⟩:=(Id x).eachK [p0,p1,p2,p3,p4,p5] 0 s k hk
 have hg1:=(Id x).eachG [p0,p1,p2,p3,p4,p5] 0 s
 have H0:=hid h
 have hmf: ∀(fn:Fn) (first cap:Array Value) (w:World),(Instr.makeFunc fn first cap).run Tryz.prog w= .ok (.func fn first cap) w:=λ_ _ _ _=>rfl
 simp only [List.length_cons,List.length_nil] at hg1
 clear h hR hb
 go_enter Tryz.func126,Tryz.ntmps126
 go_wp2_with fail
 refine (zgk (λi=>x.lockC i) (Id x) zz5 (λi w s k hi h hk hG=>z2n h hk yai yai hG) H0.out hk yai).mono ?_
 rintro e w1 ⟨rfl,q⟩
 have H1:=hid q
 clear q g0 g1 g2 g3 g4 g5 c5
 generalize hS1:Qn (λi=>x.lockC i) [p0,p1,p2,p3,p4,p5] 0 s=S1 at*
 go_wp2_with fail
 go_region_law (first
  |(go_simp;go_at_call 145;refine (zqw H1.out.drew).mono ?_;rintro e w2 ⟨rfl,q⟩;have H2:=hid q;clear q)
  |(go_simp;go_at_call 67;refine (Qp H2.out [Xf,yR5,y0,dec 12,y1] yaj ⟨by decide,by decide,by decide,Sp _ yai yai,by decide,trivial⟩ yai).mono ?_;rintro e w3 ⟨rfl,q⟩;have H3:=hid q;clear q))
 go_wp2_with fail
 refine (Qp H3.out [Fy,yR5,yR5,y1] yaj ⟨by decide,by decide,by decide,by decide,trivial⟩ (by show S1.g+1<_;omega)).mono ?_
 rintro e w4 ⟨rfl,q⟩
 have hk2:((S1.add [Xf,yR5,y0,dec 12,y1]).add [Fy,yR5,yR5,y1]).blk=some k1:=hk1
 obtain ⟨b2,c5,hb⟩:=q.cells hk2
 have hq1:k1.gets=[q0,q1,q2,q3,q4,q5]:=s1.1.trans hq
 have g0:=hb.g 0 q0 ybh
 have g1:=hb.g 1 q1 ybh
 have g2:=hb.g 2 q2 ybh
 have g3:=hb.g 3 q3 ybh
 have g4:=hb.g 4 q4 ybh
 have g5:=hb.g 5 q5 ybh
 have H4:=hid q
 have hg2:((S1.add [Xf,yR5,y0,dec 12,y1]).add [Fy,yR5,yR5,y1]).g=S1.g+2:=rfl
 clear q hb H2 H3 H1
 generalize hS2:(S1.add [Xf,yR5,y0,dec 12,y1]).add [Fy,yR5,yR5,y1]=S2 at*
 obtain ⟨k3,hk3,s3⟩:=(Ie x).eachK [q0,q1,q2,q3,q4,q5] 0 S2 k1 hk2
 have hg3:=(Ie x).eachG [q0,q1,q2,q3,q4,q5] 0 S2
 simp only [List.length_cons,List.length_nil] at hg3
 go_wp2_with fail
 refine (zgk (λi=>x.lookC i) (Ie x) zz6 (λi w s k hi h hk hG=>z2o h hk yai yai hG) H4.out hk2 yai).mono ?_
 rintro e w5 ⟨rfl,q⟩
 clear g0 g1 g2 g3 g4 g5 c5
 obtain ⟨b3,c5,hb⟩:=q.cells hk3
 have hp3:k3.puts=[p0,p1,p2,p3,p4,p5]:=s3.2.1.trans (s1.2.1.trans hp)
 have g0:=hb.p 0 p0 ybi
 have g1:=hb.p 1 p1 ybi
 have g2:=hb.p 2 p2 ybi
 have g3:=hb.p 3 p3 ybi
 have g4:=hb.p 4 p4 ybi
 have g5:=hb.p 5 p5 ybi
 simp only [Nat.reduceAdd] at g0 g1 g2 g3 g4 g5
 have H5:=hid q
 clear q hb H4
 generalize hS3:Qn (λi=>x.lookC i) [q0,q1,q2,q3,q4,q5] 0 S2=S3 at*
 obtain ⟨k4,hk4,s4⟩:=(Fm x).eachK [p0,p1,p2,p3,p4,p5] 0 S3 k3 hk3
 have hg4:=(Fm x).eachG [p0,p1,p2,p3,p4,p5] 0 S3
 simp only [List.length_cons,List.length_nil] at hg4
 go_wp2_with fail
 refine (zgk (λi=>x.storeC i) (Fm x) zvt (λi w s k hi h hk hG=>zz2 h yai yai hG) H5.out hk3 yai).mono ?_
 rintro e w6 ⟨rfl,q⟩
 have H6:=hid q
 clear q g0 g1 g2 g3 g4 g5 c5 H5
 generalize hS4:Qn (λi=>x.storeC i) [p0,p1,p2,p3,p4,p5] 0 S3=S4 at*
 go_wp2_with fail
 refine (Qp H6.out [Yn] yaj ⟨by decide,trivial⟩ yai).mono ?_
 rintro e w7 ⟨rfl,q⟩
 have H7:=hid q
 clear q H6
 go_wp2_with fail
 refine (Xo H7.out [zaa] yaj ⟨by decide,trivial⟩ (by show S4.g+1<_;omega)).mono ?_
 rintro e w8 ⟨bl,ba,rfl,q⟩
 have hk8:((S4.add [Yn]).add [zaa]).blk=some k4:=hk4
 have hu:=(q.ok.u k4 hk8).1
 have hu':k4.undo.length<=S4.g+2:=hu
 have hn4:k4.puts.length=6:=by rw [s4.2.1,s3.2.1,s1.2.1,hp];rfl
 have ha4:k4.again=k.again:=s4.2.2.2.2.trans (s3.2.2.2.2.trans s1.2.2.2.2)
 have H8:=hid q
 clear q H7 hu
 go_wp2_with fail
 refine (z21 H8.out hk8 yai (by show S4.g+2+_+200<_;omega)).mono ?_
 rintro e w9 ⟨rfl,q⟩
 have H9:=hid q
 clear q H8
 have hl9:=zhs x ((S4.add [Yn]).add [zaa])
 have hg9:=zrb x ((S4.add [Yn]).add [zaa])
 rw [Sq hk8,hn4] at hg9
 have hg9':(x.undoC ((S4.add [Yn]).add [zaa])).g<=S4.g+2+k4.undo.length+6*6+1:=hg9
 go_wp2_with fail
 refine (Se H9.out (bl:=bl) (ba:=ba) (n:=(S4.add [Yn]).L.length) yaj yaj (by simp only [Qx] at hl9⊢;omega) yai).mono ?_
 rintro e w10 ⟨rfl,q⟩
 have H10:=hid q
 clear q H9
 go_wp2
 go_end0
 subst hS4 hS3 hS2 hS1
 exact ⟨rfl,H10.out.less (K':=K) (λp hp=>List.mem_cons_of_mem _ (List.mem_cons_of_mem _ hp))⟩
end
theorem z6b(p1 p2 p3 p4 p5:Bool)(w:World):(Op.eqItems 9999 4 (Tryz.prog.cellsOf 4) #[.bool true, .bool p1, .bool p2, .bool p3, .bool p4, .bool p5] #[.bool false, .bool false, .bool false, .bool false, .bool false, .bool false] (List.range 6)).run Tryz.prog w= .ok false w:=yak
theorem z6c(p2 p3 p4 p5:Bool)(w:World):(Op.eqItems 9999 4 (Tryz.prog.cellsOf 4) #[.bool false, .bool true, .bool p2, .bool p3, .bool p4, .bool p5] #[.bool false, .bool false, .bool false, .bool false, .bool false, .bool false] (List.range 6)).run Tryz.prog w= .ok false w:=yak
theorem z6d(p3 p4 p5:Bool)(w:World):(Op.eqItems 9999 4 (Tryz.prog.cellsOf 4) #[.bool false, .bool false, .bool true, .bool p3, .bool p4, .bool p5] #[.bool false, .bool false, .bool false, .bool false, .bool false, .bool false] (List.range 6)).run Tryz.prog w= .ok false w:=yak
theorem z6e(p4 p5:Bool)(w:World):(Op.eqItems 9999 4 (Tryz.prog.cellsOf 4) #[.bool false, .bool false, .bool false, .bool true, .bool p4, .bool p5] #[.bool false, .bool false, .bool false, .bool false, .bool false, .bool false] (List.range 6)).run Tryz.prog w= .ok false w:=yak
theorem z6f(p5:Bool)(w:World):(Op.eqItems 9999 4 (Tryz.prog.cellsOf 4) #[.bool false, .bool false, .bool false, .bool false, .bool true, .bool p5] #[.bool false, .bool false, .bool false, .bool false, .bool false, .bool false] (List.range 6)).run Tryz.prog w= .ok false w:=yak
theorem z6g(w:World):(Op.eqItems 9999 4 (Tryz.prog.cellsOf 4) #[.bool false, .bool false, .bool false, .bool false, .bool false, .bool true] #[.bool false, .bool false, .bool false, .bool false, .bool false, .bool false] (List.range 6)).run Tryz.prog w= .ok false w:=yak
theorem z6h(w:World):(Op.eqItems 9999 4 (Tryz.prog.cellsOf 4) #[.bool false, .bool false, .bool false, .bool false, .bool false, .bool false] #[.bool false, .bool false, .bool false, .bool false, .bool false, .bool false] (List.range 6)).run Tryz.prog w= .ok true w:=yak
theorem zvy: ∃i,Tryz.prog.info? 4=some i:=Option.isSome_iff_exists.1 yak
theorem eq6(w:World)(p0 p1 p2 p3 p4 p5:Bool):(Op.equalIn 10000 254 (.agg #[.bool p0, .bool p1, .bool p2, .bool p3, .bool p4, .bool p5]) (.agg #[.bool false, .bool false, .bool false, .bool false, .bool false, .bool false])).run Tryz.prog w= .ok (!(p0||p1||p2||p3||p4||p5)) w:=by
 obtain ⟨i,hi⟩:=zvy
 rw [run_equalIn_array w 9999 _ _ Tryz.underlying254 hi]
 cases p0 with
 |true=>exact z6b _ _ _ _ _ w
 |false=>
  cases p1 with
  |true=>exact z6c _ _ _ _ w
  |false=>
   cases p2 with
   |true=>exact z6d _ _ _ w
   |false=>
    cases p3 with
    |true=>exact z6e _ _ w
    |false=>
     cases p4 with
     |true=>exact z6f _ w
     |false=>
      cases p5 with
      |true=>exact z6g w
      |false=>
       exact z6h w
structure NewBk(w:World)(b:Nat)(k:Bk):Prop where
 sh:w.shape? b=some (257,19)
 cs:BkCells w b k
 un:w.cell? ⟨b,18,none⟩=some (.slice none 0 0)
 free: ∀j,w.frozen? ⟨b,j,none⟩=false
 u:k.undo=[]
def Cx.atomicC(x:Cx)(k:Bk)(body:Ck->Ck)(s:Ck):Ck:=
 let s2:=body (x.begin {s with blk:=some k})
 let s3:=if k.puts=[false,false,false,false,false,false] then s2 else x.commit s2
 let s4:=if k.gives=true then x.give s3 else s3
 {s4 with blk:=none}
section
variable{W w w':World}{x:Cx}{K:List (Nat×Nat×Value)}{m:Cm}{c:Nat}{s:Ck}{rv:Value}
theorem Cd.setBlk(h:Cd W x K m w c s)(hb:Below w.heap.size w w'){b:Nat}(hn:w.heap.size<=b)(hk:NewBk w' b k):
  Cw W x K (w'.setCell ⟨c,5,none⟩ (ptr b)) c {s with blk:=some k}:=by
 have lb:=h.lt
 have lbb:=Qd hk.sh
 have hcb:b≠c:=yai
 have hset:Chg (λk j=>k=c/\j=5) w' (w'.setCell ⟨c,5,none⟩ (ptr b)):=(Chg.refl _ w').setCell (λ_=>⟨rfl,rfl⟩) _
 have hall:Chg (λk j=>k=c/\j=5) w (w'.setCell ⟨c,5,none⟩ (ptr b)):=(Chg.of_below hb).trans hset
 have nk: ∀k l,m.lab k=l->l≠1->∀j,¬(k=c/\j=5):=λk l hk h1 j e=>h1 ycu
 have hM: ∀k j,k<w.heap.size->(k=c/\j=5)->m.lab k≠0:=by
  rintro k j _ ⟨rfl,_⟩
  rw [h.lc];omega
 have hold: ∀k,k<w.heap.size->(if k=b then 4 else m.lab k)=m.lab k:=λk hk=>if_neg yai
 have kc: ∀j,j≠5->¬(c=c/\j=5):=λj hj e=>hj e.2
 have cc: ∀j,(w'.setCell ⟨c,5,none⟩ (ptr b)).cell? ⟨b,j,none⟩=w'.cell? ⟨b,j,none⟩:=λj=>Qb (.inl hcb)
 refine ⟨{m with lab:=λk=>if k=b then 4 else m.lab k,b:=b,uv:= .slice none 0 0,UV:=[]},h.turn ⟨h.ok.l,h.ok.z,h.ok.t,h.ok.tb,λk' hk'=>?_⟩ hall (λk j hk e=>⟨hM k j hk e,λ_=>by omega⟩) hold (λq hq=>?_) ((hall.cell _ _ lb (kc 0 yai)).trans h.c0) ((hall.cell _ _ lb (kc 4 yai)).trans h.c4) (Qg ((hb.cell (p:=⟨c,5,none⟩) lb).trans h.c5) rfl) ((hall.cell _ _ lb (kc 6 yai)).trans h.c6) (Qc h.lrow hall (λq hq=>nk _ _ (h.llv q hq) yai)) (Qc h.trow hall (λq hq=>nk _ _ (h.ltv q hq) yai)) (h.tl.keep hall hM λk hk e=>(hold k hk).trans e) (λk' hk'=>?_) (λq hq=>(hold q (h.lrow.lt q hq).2).trans (h.llv q hq)) (λq hq=>(hold q (h.trow.lt q hq).2).trans (h.ltv q hq))⟩
 ·cases hk'
  rw [hk.u]
  exact ⟨Nat.zero_le _,λn hn=>by simp at hn⟩
 ·show (if q=b then 4 else m.lab q)=0
  have:w'.heap.size<=q:=by simpa [Jq] using hq
  rw [if_neg yai]
  exact h.lz q (Nat.le_trans hb.size this)
 ·cases hk'
  exact {
   sh:=(Ui _ _ _ _).trans hk.sh
   g:=λi v hv=>(cc _).trans (hk.cs.g i v hv),p:=λi v hv=>(cc _).trans (hk.cs.p i v hv),ch:=λi v hv=>(cc _).trans (hk.cs.ch i v hv)
   gv:=(cc _).trans hk.cs.gv,ag:=(cc _).trans hk.cs.ag,un:=(cc _).trans hk.un
   free:=λj=>(World.frozen?_setCell _ _ _ _).trans (hk.free j)
   urow:=by rw [hk.u];exact ⟨rfl, .inl ⟨rfl,rfl⟩⟩
   ul:=by rw [hk.u];exact ⟨rfl,λi f n hf=>by simp at hf⟩
   lbk:=if_pos rfl,luv:=λg hg=>by simp [Value.ownBlock] at hg
   n1:=hk.cs.n1,n2:=hk.cs.n2,n3:=hk.cs.n3}
theorem Cw.c5any(h:Cw W x K w c s): ∃v,w.cell? ⟨c,5,none⟩=some v:=let ⟨_,h⟩:=h;⟨_,h.c5⟩
theorem Cw.noBlk(h:Cw W x K w c s):Cw W x K (w.setCell ⟨c,5,none⟩ (.pointer none)) c {s with blk:=none}:=by
 obtain ⟨m,h⟩:=h
 have lb:=h.lt
 have hset:Chg (λk j=>k=c/\j=5) w (w.setCell ⟨c,5,none⟩ (.pointer none)):=(Chg.refl _ w).setCell (λ_=>⟨rfl,rfl⟩) _
 have nk: ∀k l,m.lab k=l->l≠1->∀j,¬(k=c/\j=5):=λk l hk h1 j e=>h1 ycu
 have hM: ∀k j,k<w.heap.size->(k=c/\j=5)->m.lab k≠0:=by
  rintro k j _ ⟨rfl,_⟩
  rw [h.lc];omega
 have kc: ∀j,j≠5->¬(c=c/\j=5):=λj hj e=>hj e.2
 exact ⟨m,h.turn ⟨h.ok.l,h.ok.z,h.ok.t,h.ok.tb,λk' hk'=>by cases hk'⟩ hset (λk j hk e=>⟨hM k j hk e,λ_=>by omega⟩) (λ_ _=>rfl) (λk hk=>h.lz k ya9) ((hset.cell _ _ lb (kc 0 yai)).trans h.c0) ((hset.cell _ _ lb (kc 4 yai)).trans h.c4) (Qg h.c5 rfl) ((hset.cell _ _ lb (kc 6 yai)).trans h.c6) (Qc h.lrow hset (λq hq=>nk _ _ (h.llv q hq) yai)) (Qc h.trow hset (λq hq=>nk _ _ (h.ltv q hq) yai)) (h.tl.keep hset hM λ_ _ e=>e) (λk' hk'=>by cases hk') h.llv h.ltv⟩
theorem zfn(x:Cx)(hk:s.blk=some k): ∃k',(x.commit s).blk=some k'/\k.sim k':=by
 obtain ⟨k1,h1,s1⟩:=(Id x).eachK s.bk.puts 0 s k hk
 obtain ⟨k3,h3,s3⟩:=(Ie x).eachK s.bk.gets 0 (((Qn (λi=>x.lockC i) s.bk.puts 0 s).add [Xf,yR5,y0,dec 12,y1]).add [Fy,yR5,yR5,y1]) k1 h1
 obtain ⟨k4,h4,s4⟩:=(Fm x).eachK s.bk.puts 0 _ k3 h3
 obtain ⟨k5,h5,s5⟩:=zrc x (((Qn (λi=>x.storeC i) s.bk.puts 0 (Qn (λi=>x.lookC i) s.bk.gets 0 (((Qn (λi=>x.lockC i) s.bk.puts 0 s).add [Xf,yR5,y0,dec 12,y1]).add [Fy,yR5,yR5,y1]))).add [Yn]).add [zaa]) (k:=k4) h4
 exact ⟨k5,h5,s1.trans (s3.trans (s4.trans s5))⟩
theorem zvz(h:Cw W x K w c s){j:Nat}(hj0:W.cell? ⟨j,0,none⟩=some rv)
  (KN:Hid (∀w,Cw W x K w c s->Cl 124 #[ptr c,ptr j] w λe w'=>∃b,e= .returned (ptr b)/\w.heap.size<=b/\NewBk w' b k/\Below w.heap.size w w'))
  (body:Ck->Ck) (KB:Hid (∀w,Cw W x K w c (x.begin {s with blk:=some k})->Cl 32 #[ptr c,rv] w λe w'=>e= .returned (.tuple #[])/\Cw W x K w' c (body (x.begin {s with blk:=some k}))))
  {k2:Bk} (hb2:(body (x.begin {s with blk:=some k})).blk=some k2) (hs2:k2.puts=k.puts/\k2.gives=k.gives) (hA:k2.again<100000000) (hcg:(x.commit (body (x.begin {s with blk:=some k}))).g+200<10000000) (hbg:(body (x.begin {s with blk:=some k})).g+1000<1000000) (hG:s.g+1000<1000000):
  Cl 101 #[ptr c,ptr j] w λe w'=>e= .returned (.tuple #[])/\Cw W x K w' c (x.atomicC k body s):=by
 obtain ⟨m,hm⟩:=h
 have HS:=hid (λ(w':World) (hb:Below w.heap.size w w') (b:Nat) (hn:w.heap.size<=b) (hk:NewBk w' b k)=>hm.setBlk hb hn hk)
 have HC5:=hid (λ(w':World) (hb:Below w.heap.size w w')=>(⟨(hb.cell (p:=⟨c,5,none⟩) hm.lt).trans hm.c5,(hb.frozen (p:=⟨c,5,none⟩) hm.lt).trans (hm.free 5)⟩:w'.cell? ⟨c,5,none⟩=some (zjz m s)/\w'.frozen? ⟨c,5,none⟩=false))
 have KN1:=hid (KN.out w ⟨m,hm⟩)
 have HJ:=hid (λ(K:List (Nat×Nat×Value)) (w:World) (s:Ck) (h:Cw W x K w c s)=>h.old hj0)
 clear hm KN hj0
 generalize hS1:({s with blk:=some k}:Ck)=S1 at*
 have hk1:S1.blk=some k:=by rw [<-hS1]
 have hg1:S1.g=s.g:=by rw [<-hS1]
 generalize hB:body (x.begin S1)=B at*
 generalize hPost:x.atomicC k body s=Post at*
 go_enter Tryz.func101,Tryz.ntmps101
 go_wp2_with fail
 refine KN1.out.mono ?_
 rintro e w1 ⟨b,rfl,hn,hnb,hbl⟩
 obtain ⟨c5,f5⟩:=HC5.out _ hbl
 have H1:=hid (HS.out _ hbl _ hn hnb)
 clear hnb hbl KN1 HS HC5 hn
 go_wp2_with fail
 generalize hw1:w1.setCell ⟨c,5,none⟩ (ptr b)=w2 at*
 clear c5 f5 hw1
 refine (zz7 H1.out hk1 yai).mono ?_
 rintro e w3 ⟨rfl,q⟩
 have e0:=HJ.out _ _ _ q
 have H3:=hid q
 clear q H1
 go_wp2_with fail
 refine (KB.out _ H3.out).mono ?_
 rintro e w4 ⟨rfl,q⟩
 obtain ⟨b4,d5,hb4⟩:=q.cells hb2
 obtain ⟨p0,p1,p2,p3,p4,p5,hp⟩:=zn9 hb4.n2
 have g0:=hb4.p 0 p0 yat
 have g1:=hb4.p 1 p1 yat
 have g2:=hb4.p 2 p2 yat
 have g3:=hb4.p 3 p3 yat
 have g4:=hb4.p 4 p4 yat
 have g5:=hb4.p 5 p5 yat
 simp only [Nat.reduceAdd] at g0 g1 g2 g3 g4 g5
 have H4:=hid q
 have gv16:=hb4.gv
 clear q H3 e0 KB hb4
 have heq:=λw=>eq6 w p0 p1 p2 p3 p4 p5
 have hpk:k.puts=[p0,p1,p2,p3,p4,p5]:=hs2.1.symm.trans hp
 have f5:=H4.out.free 5
 cases hz:(p0||p1||p2||p3||p4||p5) with
 |false=>
  have hall:k.puts=[false,false,false,false,false,false]:=by rw [hpk];simp at hz;simp [hz]
  rw [hz] at heq
  cases hgb:k2.gives with
  |true=>
   have hP:Post={x.give B with blk:=none}:=by rw [<-hPost];simp only [Cx.atomicC,hS1,hB,hall,if_true,hs2.2.symm,hgb]
   have hgv:k2.gives=true:=hgb
   rw [hgv] at gv16
   go_wp2_with fail
   refine (zys H4.out yai).mono ?_
   rintro e w6 ⟨rfl,q⟩
   obtain ⟨v5,d7⟩:=q.c5any
   have f7:=q.free 5
   have H6:=hid q.noBlk
   clear q
   go_wp2
   go_end0
   subst hP
   exact ⟨rfl,H6.out⟩
  |false=>
   have hP:Post={B with blk:=none}:=ycv
   have hgv:k2.gives=false:=hgb
   rw [hgv] at gv16
   go_wp2_with fail
   go_end0
   subst hP
   exact ⟨rfl,H4.out.noBlk⟩
 |true=>
  have hall: ¬k.puts=[false,false,false,false,false,false]:=by rw [hpk];intro e;simp at e;simp [e] at hz
  rw [hz] at heq
  cases hgb:k2.gives with
  |true=>
   have hP:Post={x.give (x.commit B) with blk:=none}:=ycv
   have hgv:k2.gives=true:=hgb
   rw [hgv] at gv16
   go_wp2_with fail
   refine (zl8 H4.out hb2 hA yai).mono ?_
   rintro e w5 ⟨rfl,q⟩
   obtain ⟨k5,hk5,s5⟩:=zfn x hb2
   obtain ⟨b5,d6,hb5⟩:=q.cells hk5
   have v16:=hb5.gv
   rw [s5.2.2.2.1,hgv] at v16
   have f6:=q.free 5
   have H5:=hid q
   clear q d5 g0 g1 g2 g3 g4 g5 hb5 gv16 f5
   go_wp2_with fail
   refine (zys H5.out yai).mono ?_
   rintro e w6 ⟨rfl,q⟩
   obtain ⟨v5,d7⟩:=q.c5any
   have f7:=q.free 5
   have H6:=hid q.noBlk
   clear q
   go_wp2
   go_end0
   subst hP
   exact ⟨rfl,H6.out⟩
  |false=>
   have hP:Post={x.commit B with blk:=none}:=ycv
   have hgv:k2.gives=false:=hgb
   rw [hgv] at gv16
   go_wp2_with fail
   refine (zl8 H4.out hb2 hA yai).mono ?_
   rintro e w5 ⟨rfl,q⟩
   obtain ⟨k5,hk5,s5⟩:=zfn x hb2
   obtain ⟨b5,d6,hb5⟩:=q.cells hk5
   have v16:=hb5.gv
   rw [s5.2.2.2.1,hgv] at v16
   have f6:=q.free 5
   have H5:=hid q
   clear q d5 g0 g1 g2 g3 g4 g5 hb5 gv16 f5
   go_wp2_with fail
   go_end0
   subst hP
   exact ⟨rfl,H5.out.noBlk⟩
end
section
variable{w:World}{c j:Nat}{P:World->Prop}
theorem zj4(KA:Hid (Cl 101 #[ptr c,ptr j] w λe w'=>e= .returned (.tuple #[])/\P w')):
  Cl 66 #[ptr c, .iface 171 (ptr j)] w λe w'=>e= .returned (.tuple #[])/\P w':=by
 have t0:=Uv
 have t1:=Yl
 have t2:=Yv
 have t3:=Yw
 have t4:=Zm
 have t5:=Vh
 go_enter Tryz.func66,Tryz.ntmps66
 go_wp2_with fail
 refine KA.out.mono ?_
 rintro e w1 ⟨rfl,q⟩
 have H1:=hid q
 clear q KA
 go_wp2
 go_end0
 exact ⟨rfl,H1.out⟩
theorem zrd(KA:Hid (Cl 103 #[ptr c,ptr j] w λe w'=>e= .returned (.tuple #[])/\P w')):
  Cl 66 #[ptr c, .iface 215 (ptr j)] w λe w'=>e= .returned (.tuple #[])/\P w':=by
 have t0:=Ee
 have t1:=Xl
 have t2:=Uk
 have t3:=Ul
 have t4:=Yx
 have t5:=Zc
 have t6:=In
 have t7:=Fb
 go_enter Tryz.func66,Tryz.ntmps66
 go_wp2_with fail
 refine KA.out.mono ?_
 rintro e w1 ⟨rfl,q⟩
 have H1:=hid q
 clear q KA
 go_wp2
 go_end0
 exact ⟨rfl,H1.out⟩
end
section
variable{D:Nat->Prop}{lab:Nat->Nat×Nat}{w:World}{br sb bs:Nat}{tv ov:Value}{st:RS}{ms:List HM}
attribute [local go_sem] Ih Ep Ii Ij Gk Yr zdx zal Sf Ua Zz Ub Uc Yf Vw Ik Fo Gl Gm Yg Xr Il Gn Ys zdy zam Sg Im Ud Gp Gq Gr Yt zdz zan Sh Gs Yh Xs Xt Yo Yu zd0 zao Si Uv Yl Yv Yw Zm Vh Sj Er Xk Ss Uw Eb Ec Ux Yb zbv zcr Ed Ee Xl Uk Ul Yx Zc In Fb Uy
theorem Io(s:St)(b:Nat)(w:World):
  Cl 87 #[Vk s b] w λe w'=>e= .returned (.string (Vg s))/\Below w.heap.size w w':=by
 rcases s with ⟨to,a⟩|⟨to,k,a,c⟩|⟨to,f,a⟩|⟨f,a,c⟩|a|⟨⟩|a|n
 ·exact z8d
 ·exact z8d
 ·exact z8d
 ·exact z9y
 ·exact z9y
 ·exact z80
 ·exact z80
 ·exact z80
def RS.mayStand(st:RS):St->Bool
 | .inr (.inr (.inl (_,_,_)))=>decide (0<st.opn.length)&&st.inB
 | .inr (.inr (.inr (.inl (_,_,_))))=>decide (0<st.opn.length)&&st.inB
 | .inr (.inr (.inr (.inr (.inr (.inl ())))))=>decide (0<st.opn.length)&&!st.inB
 |_=>decide (0<st.opn.length)
theorem Xm(h:RMach D lab w br sb bs tv ov st ms)(ho:st.opnOk)(s:St)(b:Nat):
  Cl 83 #[ptr br,Vk s b] w λe w'=>e= .returned (.bool (st.mayStand s))/\w'=w:=by
 have c3:=h.c3
 obtain ⟨oa,ok,hov⟩: ∃a k,ov= .slice a st.opn.length k:=z7v
 rw [hov] at c3
 have KB:=hid (zob h ho)
 clear h ho hov
 by_cases h0:st.opn.length=0
 ·have hf:st.mayStand s=false:=by
   rcases s with ⟨to,a⟩|⟨to,k,a,c⟩|⟨to,f,a⟩|⟨f,a,c⟩|a|⟨⟩|a|n<;>simp [RS.mayStand,h0]
  rw [hf]
  rw [h0] at c3
  rcases s with ⟨to,a⟩|⟨to,k,a,c⟩|⟨to,f,a⟩|⟨f,a,c⟩|a|⟨⟩|a|n<;>
  ·simp only [Vk,stV]
   go_enter Tryz.func83,Tryz.ntmps83
   go_wp2
   go_ret
   exact ⟨rfl,rfl⟩
 ·have h1:0<st.opn.length:=by omega
  have h2:((st.opn.length:Int)==0)=false:=by simpa using (show ¬(st.opn.length:Int)=0 by omega)
  generalize hI:st.inB=ib at KB
  rcases s with ⟨to,a⟩|⟨to,k,a,c⟩|⟨to,f,a⟩|⟨f,a,c⟩|a|⟨⟩|a|n
  ·exact z8k
  ·exact z8k
  ·rw [show st.mayStand (St.get to f a)=ib from by simp [RS.mayStand,h1,hI]]
   simp only [Vk,stV]
   go_enter Tryz.func83,Tryz.ntmps83
   go_wp2_with fail
   refine KB.out.mono ?_
   rintro e w1 ⟨rfl,rfl⟩
   go_wp2
   go_ret
   exact ⟨rfl,rfl⟩
  ·rw [show st.mayStand (St.put f a c)=ib from by simp [RS.mayStand,h1,hI]]
   simp only [Vk,stV]
   go_enter Tryz.func83,Tryz.ntmps83
   go_wp2_with fail
   refine KB.out.mono ?_
   rintro e w1 ⟨rfl,rfl⟩
   go_wp2
   go_ret
   exact ⟨rfl,rfl⟩
  ·exact z8k
  ·rw [show st.mayStand (St.atomic)=!ib from by simp [RS.mayStand,h1,hI]]
   simp only [Vk]
   go_enter Tryz.func83,Tryz.ntmps83
   go_wp2_with fail
   refine KB.out.mono ?_
   rintro e w1 ⟨rfl,rfl⟩
   go_wp2
   go_ret
   exact ⟨rfl,rfl⟩
  ·exact z9p
  ·exact z9p
end
def Qj:St->List PV
 | .inl (_,a)=>[a]
 | .inr (.inl (_,_,a,b))=>[a,b]
 | .inr (.inr (.inl (_,_,a)))=>[a]
 | .inr (.inr (.inr (.inl (_,a,b))))=>[a,b]
 | .inr (.inr (.inr (.inr (.inl a))))=>[a]
 | .inr (.inr (.inr (.inr (.inr (.inl ())))))=>[]
 | .inr (.inr (.inr (.inr (.inr (.inr (.inl a))))))=>[a]
 | .inr (.inr (.inr (.inr (.inr (.inr (.inr _))))))=>[]
def Ip(w:World)(l:List PV)(e:Ending)(w':World):Prop:=∃a c,e= .returned (.slice a l.length c)/\Below w.heap.size w w'/\ ∀i (h:i<l.length),∃g,a=some ⟨g,0,none⟩/\g<w'.heap.size/\w'.cell? ⟨g,i*2,none⟩=some (.string l[i].name)/\w'.cell? ⟨g,i*2+1,none⟩=some (.int .i64 l[i].num)
theorem zfo(w:World)(o p:Obj):Below w.heap.size w ((w.alloc o).alloc p):=((Below.refl _ w).alloc (Nat.le_refl _) o).alloc yaj p
theorem zd1(w:World)(o:Obj)(a:PV)(g:Nat)(hg:g=(w.alloc o).heap.size):Ip w [a] (.returned (.slice (some ⟨g,0,none⟩) 1 1)) ((w.alloc o).alloc (.cells #[.string a.name, .int .i64 a.num] 202)):=by
 subst hg
 refine ⟨_,1,rfl,zfo _ _ _,λi hi=>?_⟩
 obtain rfl:i=0:=ybj
 exact ⟨_,rfl,by simp,World.cell?_alloc_new _ _ _ 0,World.cell?_alloc_new _ _ _ 1⟩
theorem zre(w:World)(o:Obj)(a b:PV):Ip w [a,b] (.returned (.slice (some ⟨(w.alloc o).heap.size,0,none⟩) 2 2)) ((w.alloc o).alloc (.cells #[.string a.name, .int .i64 a.num, .string b.name, .int .i64 b.num] 202)):=by
 refine ⟨_,2,rfl,zfo _ _ _,λi hi=>?_⟩
 have:i=0\/i=1:=ybj
 rcases this with rfl|rfl
 ·exact ⟨_,rfl,by simp,World.cell?_alloc_new _ _ _ 0,World.cell?_alloc_new _ _ _ 1⟩
 ·exact ⟨_,rfl,by simp,World.cell?_alloc_new _ _ _ 2,World.cell?_alloc_new _ _ _ 3⟩
section
variable(w:World)(to of:ByteArray)(a b:PV)(k:Int)
theorem z25:Cl 229 #[.agg #[.string to, .string a.name, .int .i64 a.num]] w λe w'=>Ip w [a] e w':=by
 go_enter Tryz.func229,Tryz.ntmps229
 go_wp2
 go_ret
 exact zd1 w _ a _ yaj
theorem z5d:Cl 230 #[.agg #[.string to, .int .i64 k, .string a.name, .int .i64 a.num, .string b.name, .int .i64 b.num]] w λe w'=>Ip w [a,b] e w':=by
 go_enter Tryz.func230,Tryz.ntmps230
 go_wp2
 go_ret
 have:=zre w (.cells #[.string to, .int .i64 k, .string a.name, .int .i64 a.num, .string b.name, .int .i64 b.num] 231) a b
 simpa using this
theorem zrf:Cl 224 #[.agg #[.string of, .string a.name, .int .i64 a.num]] w λe w'=>e= .returned (.slice (some ⟨w.heap.size+1,0,none⟩) 1 1)/\w'=(w.alloc (.cells #[.string of, .string a.name, .int .i64 a.num] 205)).alloc (.cells #[.string a.name, .int .i64 a.num] 202):=by
 go_enter Tryz.func224,Tryz.ntmps224
 go_wp2
 go_ret
 exact ⟨rfl,rfl⟩
theorem z26:Cl 226 #[.agg #[.string a.name, .int .i64 a.num]] w λe w'=>Ip w [a] e w':=by
 go_enter Tryz.func226,Tryz.ntmps226
 go_wp2
 go_ret
 exact zd1 w _ a _ yaj
theorem zrg(v:Value):Cl 212 #[v] w λe w'=>Ip w [] e w':=by
 go_enter Tryz.func212,Tryz.ntmps212
 go_wp2
 go_ret
 exact ⟨none,0,rfl,Below.refl _ _,λi hi=>by simp at hi⟩
theorem z0c(v:Value):Cl 228 #[v] w λe w'=>Ip w [] e w':=by
 go_enter Tryz.func228,Tryz.ntmps228
 go_wp2
 go_ret
 exact ⟨none,0,rfl,Below.refl _ _,λi hi=>by simp at hi⟩
theorem z5e(b:Nat)(c1:w.cell? ⟨b,1,none⟩=some (.string a.name))(c2:w.cell? ⟨b,2,none⟩=some (.int .i64 a.num)):Cl 227 #[ptr b] w λe w'=>Ip w [a] e w':=by
 go_enter Tryz.func227,Tryz.ntmps227
 go_wp2
 go_ret
 refine ⟨_,1,rfl,(Below.refl _ w).alloc (Nat.le_refl _) _,λi hi=>?_⟩
 obtain rfl:i=0:=ybj
 exact ⟨_,rfl,by simp,World.cell?_alloc_new _ _ _ 0,World.cell?_alloc_new _ _ _ 1⟩
theorem z27:(Tryz.prog.info? 202).map (λi=>(i.zero,i.size,i.bytes))=some (some (.agg #[.string ⟨#[]⟩, .int .i64 0]),2,24):=yak
theorem zj5(W:World)(x y:Value)(T:TypeId):(W.alloc (.cells #[x,y] T)).ownsRow 0 T 2 (.slice (some ⟨W.heap.size,0,none⟩) 1 1) 1 [x,y]:=
 ⟨rfl, .inr ⟨_,1,#[x,y],rfl,Nat.zero_le _,(show (W.heap.push _)[W.heap.size]?=_ from Array.getElem?_push_size),Nat.le_refl _,by unfold maxLen;omega,rfl,rfl⟩⟩
theorem zht(W:World)(x y:Value)(T:TypeId): ∀j u',[x,y][j]?=some u'->(W.alloc (.cells #[x,y] T)).cell? ((⟨W.heap.size,0,none⟩:Addr).add j)=some u':=by
 intro j u' hj
 have hc:=(zj5 W x y T).cells (g:=W.heap.size) rfl j u' hj
 exact hc
theorem zhu{g cap:Nat}(ho:w3.ownsRow 0 202 2 (.slice (some ⟨g,0,none⟩) 2 cap) 2 [.string a.name, .int .i64 a.num, .string b.name, .int .i64 b.num])(hb:Below w.heap.size w w3):Ip w [a,b] (.returned (.slice (some ⟨g,0,none⟩) 2 cap)) w3:=by
 have hg:g<w3.heap.size:=(ho.lt g rfl).2
 have c: ∀j u,[Value.string a.name, .int .i64 a.num, .string b.name, .int .i64 b.num][j]?=some u->w3.cell? ⟨g,j,none⟩=some u:=by
  intro j u hu
  have:=ho.cells (g:=g) rfl j u hu
  have e:(⟨g,0,none⟩:Addr).add j=⟨g,j,none⟩:=by
   unfold Addr.add
   split
   ·rename_i h0;rw [h0]
   ·simp
  rwa [e] at this
 refine ⟨_,cap,rfl,hb,λi hi=>?_⟩
 have:i=0\/i=1:=ybj
 rcases this with rfl|rfl
 ·exact ⟨g,rfl,hg,c 0 _ rfl,c 1 _ rfl⟩
 ·exact ⟨g,rfl,hg,c 2 _ rfl,c 3 _ rfl⟩
theorem z5f(w:World)(o:Obj):(w.alloc o).heap.size=w.heap.size+1:=yaj
theorem z5g(w:World)(o p:Obj):((w.alloc o).alloc p).heap.size=w.heap.size+1+1:=yaj
theorem z28(w:World)(o p q:Obj):(((w.alloc o).alloc p).alloc q).heap.size=w.heap.size+1+1+1:=yaj
theorem zhv{W:World}{v:Value}{gv:Nat}(hW:Below w.heap.size w W)(hv:v.ownBlock=some gv)(hg:w.heap.size<=gv)(hc:Chg (λk _=>v.ownBlock=some k) W w3):Below w.heap.size w w3:=
 hW.trans (hc.below hW.size (λk _ e=>by rw [hv] at e;injection e with e;omega))
theorem z29:Cl 225 #[.agg #[.string of, .string a.name, .int .i64 a.num, .string b.name, .int .i64 b.num]] w λe w'=>Ip w [a,b] e w':=by
 obtain ⟨i0,hi,hz0,hz1,hz2⟩:=info_parts z27
 have hl1:1+1<=maxLen:=yap
 have hl2:(1+1)*24<=140737488355328:=yai
 have OA:Hid (((((w.alloc (.cells #[.string of, .string a.name, .int .i64 a.num, .string b.name, .int .i64 b.num] 209)).alloc (.cells #[.string of, .string a.name, .int .i64 a.num] 205)).alloc (.cells #[.string a.name, .int .i64 a.num] 202)).alloc (.cells #[.string b.name, .int .i64 b.num] 202)).drew.ownsRow 0 202 2 (.slice (some ⟨w.heap.size+1+1,0,none⟩) 1 1) 1 [.string a.name, .int .i64 a.num]):=hid (by
  have:=zj5 ((w.alloc (.cells #[.string of, .string a.name, .int .i64 a.num, .string b.name, .int .i64 b.num] 209)).alloc (.cells #[.string of, .string a.name, .int .i64 a.num] 205)) (.string a.name) (.int .i64 a.num) 202
  rw [z5g] at this
  exact this.alloc _)
 have CA:Hid (∀j u',[Value.string b.name, .int .i64 b.num][j]?=some u'->((((w.alloc (.cells #[.string of, .string a.name, .int .i64 a.num, .string b.name, .int .i64 b.num] 209)).alloc (.cells #[.string of, .string a.name, .int .i64 a.num] 205)).alloc (.cells #[.string a.name, .int .i64 a.num] 202)).alloc (.cells #[.string b.name, .int .i64 b.num] 202)).drew.cell? ((⟨w.heap.size+1+1+1,0,none⟩:Addr).add j)=some u'):=hid (by
  have:=zht (((w.alloc (.cells #[.string of, .string a.name, .int .i64 a.num, .string b.name, .int .i64 b.num] 209)).alloc (.cells #[.string of, .string a.name, .int .i64 a.num] 205)).alloc (.cells #[.string a.name, .int .i64 a.num] 202)) (.string b.name) (.int .i64 b.num) 202
  rw [z28] at this
  exact this)
 have OB:Hid (((((w.alloc (.cells #[.string of, .string a.name, .int .i64 a.num, .string b.name, .int .i64 b.num] 209)).alloc (.cells #[.string b.name, .int .i64 b.num] 202)).alloc (.cells #[.string of, .string a.name, .int .i64 a.num] 205)).alloc (.cells #[.string a.name, .int .i64 a.num] 202)).drew.ownsRow 0 202 2 (.slice (some ⟨w.heap.size+1+1+1,0,none⟩) 1 1) 1 [.string a.name, .int .i64 a.num]):=hid (by
  have:=zj5 (((w.alloc (.cells #[.string of, .string a.name, .int .i64 a.num, .string b.name, .int .i64 b.num] 209)).alloc (.cells #[.string b.name, .int .i64 b.num] 202)).alloc (.cells #[.string of, .string a.name, .int .i64 a.num] 205)) (.string a.name) (.int .i64 a.num) 202
  rw [z28] at this
  exact this)
 have CB:Hid (∀j u',[Value.string b.name, .int .i64 b.num][j]?=some u'->((((w.alloc (.cells #[.string of, .string a.name, .int .i64 a.num, .string b.name, .int .i64 b.num] 209)).alloc (.cells #[.string b.name, .int .i64 b.num] 202)).alloc (.cells #[.string of, .string a.name, .int .i64 a.num] 205)).alloc (.cells #[.string a.name, .int .i64 a.num] 202)).drew.cell? ((⟨w.heap.size+1,0,none⟩:Addr).add j)=some u'):=hid (by
  have h0:=zht (w.alloc (.cells #[.string of, .string a.name, .int .i64 a.num, .string b.name, .int .i64 b.num] 209)) (.string b.name) (.int .i64 b.num) 202
  rw [z5f] at h0
  intro j u' hj
  have h1:=h0 j u' hj
  have hlt:=blt h1
  exact ((((Below.refl _ _).alloc (Nat.le_refl _) (.cells #[.string of, .string a.name, .int .i64 a.num] 205)).alloc yaj (.cells #[.string a.name, .int .i64 a.num] 202)).cell (p:=(⟨w.heap.size+1,0,none⟩:Addr).add j) hlt).trans h1)
 have BA:Hid (Below w.heap.size w ((((w.alloc (.cells #[.string of, .string a.name, .int .i64 a.num, .string b.name, .int .i64 b.num] 209)).alloc (.cells #[.string of, .string a.name, .int .i64 a.num] 205)).alloc (.cells #[.string a.name, .int .i64 a.num] 202)).alloc (.cells #[.string b.name, .int .i64 b.num] 202)).drew):=hid (((((Below.refl _ w).alloc (Nat.le_refl _) _).alloc yaj _).alloc yan _).alloc yan _).drew
 have BB:Hid (Below w.heap.size w ((((w.alloc (.cells #[.string of, .string a.name, .int .i64 a.num, .string b.name, .int .i64 b.num] 209)).alloc (.cells #[.string b.name, .int .i64 b.num] 202)).alloc (.cells #[.string of, .string a.name, .int .i64 a.num] 205)).alloc (.cells #[.string a.name, .int .i64 a.num] 202)).drew):=hid (((((Below.refl _ w).alloc (Nat.le_refl _) _).alloc yaj _).alloc yan _).alloc yan _).drew
 go_enter Tryz.func225,Tryz.ntmps225
 go_wp2_with fail
 go_region_law (first
  |(go_simp;go_at_call 224;refine (zrf _ of a).mono ?_;rintro e w1 ⟨rfl,rfl⟩)
  |(refine Je rfl (.tmp 5) (.tmp 8) 244 rfl 202 i0 (.agg #[.string ⟨#[]⟩, .int .i64 0]) 2 24 yal Tryz.underlying244 hi hz0 hz1 hz2 rfl (.slice (some ⟨w.heap.size+1+1,0,none⟩) 1 1) 1 [.string a.name, .int .i64 a.num] rfl OA.out ⟨w.heap.size+1+1+1,0,none⟩ [.string b.name, .int .i64 b.num] rfl rfl CA.out ydj hl1 hl2 ?_;intro g cap w3 ho hc hg;have HR:=hid (zhu w a b ho (zhv w (gv:=w.heap.size+1+1) BA.out rfl yai hc));clear ho hc hg)
  |(refine Je rfl (.tmp 5) (.tmp 8) 244 rfl 202 i0 (.agg #[.string ⟨#[]⟩, .int .i64 0]) 2 24 yal Tryz.underlying244 hi hz0 hz1 hz2 rfl (.slice (some ⟨w.heap.size+1+1+1,0,none⟩) 1 1) 1 [.string a.name, .int .i64 a.num] rfl OB.out ⟨w.heap.size+1,0,none⟩ [.string b.name, .int .i64 b.num] rfl rfl CB.out ydj hl1 hl2 ?_;intro g cap w3 ho hc hg;have HR:=hid (zhu w a b ho (zhv w (gv:=w.heap.size+1+1+1) BB.out rfl yai hc));clear ho hc hg))
 all_goals
  go_wp2
  go_ret
  exact HR.out
end
def StB(W:World)(s:St)(b:Nat):Prop:=match s with
 | .inr (.inr (.inr (.inr (.inr (.inr (.inl a))))))=>W.cell? ⟨b,1,none⟩=some (.string a.name)/\W.cell? ⟨b,2,none⟩=some (.int .i64 a.num)
 |_=>True
theorem z5h(v:Value)(w:World):(method 443 228 v "commits/program.reads").run Tryz.prog w= .ok (229,v) w:=yak
theorem z6i(v:Value)(w:World):(method 443 231 v "commits/program.reads").run Tryz.prog w= .ok (230,v) w:=yak
theorem z5i(a b c d:Value)(w:World):(method 443 207 (.agg #[a,b,c,d]) "commits/program.reads").run Tryz.prog w= .ok (224, .agg #[b,c,d]) w:=yak
theorem z5j(v:Value)(w:World):(method 443 209 v "commits/program.reads").run Tryz.prog w= .ok (225,v) w:=yak
theorem z5k(v:Value)(w:World):(method 443 211 v "commits/program.reads").run Tryz.prog w= .ok (226,v) w:=yak
theorem zv0(v:Value)(w:World):(method 443 171 v "commits/program.reads").run Tryz.prog w= .ok (212,v) w:=yak
theorem z6j(v:Value)(w:World):(method 443 212 v "commits/program.reads").run Tryz.prog w= .ok (227,v) w:=yak
theorem z3a(v:Value)(w:World):(method 443 215 v "commits/program.reads").run Tryz.prog w= .ok (228,v) w:=yak
theorem z0d(s:St)(b:Nat): ∃T u F u',Vk s b= .iface T u/\(∀W,(method 443 T u "commits/program.reads").run Tryz.prog W= .ok (F,u') W)/\(∀args W,(callFunc F args).run Tryz.prog W= .ok (.enter F args) W)/\
  ∀W,StB W s b->Cl F #[u'] W λe w'=>Ip W (Qj s) e w':=by
 rcases s with ⟨to,a⟩|⟨to,k,a,c⟩|⟨to,f,a⟩|⟨f,a,c⟩|a|⟨⟩|a|n
 ·exact ⟨_,_,_,_,rfl,z5h _,enters_of Tryz.func229 yak rfl,λW _=>z25 W to a⟩
 ·exact ⟨_,_,_,_,rfl,z6i _,enters_of Tryz.func230 yak rfl,λW _=>z5d W to a c k⟩
 ·refine ⟨_,_,_,_,rfl,z5i _ _ _ _,enters_of Tryz.func224 yak rfl,λW _=>(zrf W f a).mono ?_⟩
  rintro e w' ⟨rfl,rfl⟩
  exact zd1 W _ a _ yaj
 ·exact ⟨_,_,_,_,rfl,z5j _,enters_of Tryz.func225 yak rfl,λW _=>z29 W f a c⟩
 ·exact ⟨_,_,_,_,rfl,z5k _,enters_of Tryz.func226 yak rfl,λW _=>z26 W a⟩
 ·exact ⟨_,_,_,_,rfl,zv0 _,enters_of Tryz.func212 yak rfl,λW _=>zrg W _⟩
 ·exact ⟨_,_,_,_,rfl,z6j _,enters_of Tryz.func227 yak rfl,λW h=>z5e W a b h.1 h.2⟩
 ·exact ⟨_,_,_,_,rfl,z3a _,enters_of Tryz.func228 yak rfl,λW _=>z0c W _⟩
def Xg:St->Option ByteArray
 | .inr (.inr (.inl (_,f,_)))=>some f
 | .inr (.inr (.inr (.inl (f,_,_))))=>some f
 |_=>none
def RS.mayName(st:RS)(l:List ByteArray)(s:St):Bool:=(Qj s).all (λv=>v.name.toList.isEmpty||Uh l v.name)&&(!st.isSh (Vg s)&&(match Xg s with|some f=>st.isSh f|none=>true))
structure zl9(s:St):Prop where
 rd: ∀v∈Qj s,v.name.size<=maxLen
 to:(Vg s).size<=maxLen
 of: ∀f,Xg s=some f->f.size<=maxLen
section
variable{D:Nat->Prop}{lab:Nat->Nat×Nat}{w:World}{br sb bs:Nat}{tv ov:Value}{st:RS}{ms:List HM}
attribute [local go_sem] Ii Ij Ub Uc Xr Il Gp Gq Xs Xt Yv Yw Eb Ec Uk Ul
theorem Fp(h:RMach D lab w br sb bs tv ov st ms)(tl:List Nat)(t:Nat)(ht:st.threads=tl++[t])(htl:t<ms.length)(hn:tl.length<1000000)(l:List ByteArray)(c:Nat)(hk:ms[t].h.k= .thr l c)(s:St)(b:Nat)(hS:StB w s b)(hz:zl9 s)(hlen:(Qj s).length<=2):
  Cl 84 #[ptr br,Vk s b] w λe w'=>e= .returned (.bool (st.mayName l s))/\Below w.heap.size w w':=by
 obtain ⟨T,u,F,u',he,hme,hen,hrd⟩:=z0d s b
 have KR:=hid (hrd w hS)
 have KL:Hid (∀W,Below w.heap.size w W->Cl 86 #[ptr br] W λe w'=>e= .returned (ptr ms[t].b)/\w'=W.drew):=hid (λW hW=>zdq (h.below hW) tl t ht htl hn)
 have hth:=(h.hd t htl).kind
 rw [hk] at hth
 have KH:Hid (∀W,Below w.heap.size w W->∀x:ByteArray,x.size<=maxLen->Cl 88 #[ptr ms[t].b, .string x] W λe w'=>e= .returned (.bool (Uh l x))/\w'=W):=hid (λW hW x hx=>by
  have hb:=Qd (h.hd t htl).sh
  exact zhp ((hW.cell (p:=⟨ms[t].b,1,none⟩) hb).trans hth.1) (hth.2.2.keep (Chg.of_below (M:=λ_ _=>False) hW) (λ_ e=>e)) x hx)
 have KI:Hid (∀W,Below w.heap.size w W->∀x:ByteArray,x.size<=maxLen->Cl 79 #[ptr br, .string x] W λe w'=>e= .returned (.bool (st.isSh x))/\Below w.heap.size w w'):=hid (λW hW x hx=>(Uu (h.below hW) x hx).mono λe w' ⟨h1,h2⟩=>⟨h1,hW.trans (h2.mono hW.size)⟩)
 have KT:Hid (∀W,Below w.heap.size w W->Cl 87 #[.iface T u] W λe w'=>e= .returned (.string (Vg s))/\Below w.heap.size w w'):=hid (λW hW=>by rw [<-he];exact (Io s b W).mono λe w' ⟨h1,h2⟩=>⟨h1,hW.trans (h2.mono hW.size)⟩)
 have HE:=hid he
 have HZ:=hid hz
 rw [he]
 clear h hS hrd he hth hz ht hk hn
 generalize ms[t].b=tb at*
 clear htl
 go_enter Tryz.func84,Tryz.ntmps84
 go_wp2_with fail
 refine KR.out.mono ?_
 rintro e w1 ⟨a,cp,rfl,b1,hc⟩
 have B1:=hid b1
 have HC:=hid hc
 clear b1 hc KR
 go_wp2
 go_loopw [12] (λv wr=>∃k:Nat,k<=(Qj s).length/\v= .int .i64 k/\Hid (Below w1.heap.size w1 wr)/\Hid (∀j (h:j<(Qj s).length),j<k->((Qj s)[j].name.toList.isEmpty||Uh l (Qj s)[j].name)=true)) (λv _=>(Qj s).length- (intOf v).toNat)
 case atStart=>exact ⟨0,Nat.zero_le _,rfl,Below.refl _ _,λj _ hj=>by omega⟩
 case round=>
  obtain ⟨k,hkl,rfl,HB,HP⟩:=hrel
  have HW:Hid (Below w.heap.size w wr):=B1.out.trans (HB.out.mono B1.out.size)
  by_cases hlt:k<(Qj s).length
  ·have hlt':(k:Int)<((Qj s).length:Int):=by omega
   obtain ⟨g,rfl,hg,q1,q2⟩:=HC.out k hlt
   have r1:=(HB.out.cell (p:=⟨g,k*2,none⟩) hg).trans q1
   have r2:=(HB.out.cell (p:=⟨g,k*2+1,none⟩) hg).trans q2
   have hxs:=HZ.out.rd _ (List.getElem_mem hlt)
   clear q1 q2
   generalize hx:(Qj s)[k]=x at r1 r2 hxs
   have HX:=hid hx
   clear hx
   have BA:Hid (Below w.heap.size w (wr.alloc (.cells #[.string x.name, .int .i64 x.num] 202)).drew):=hid ((HW.out.alloc HW.out.size _).drew)
   have BA2:Hid (Below w1.heap.size w1 (wr.alloc (.cells #[.string x.name, .int .i64 x.num] 202)).drew):=hid ((HB.out.alloc HB.out.size _).drew)
   cases hem:x.name.toList.isEmpty with
   |true=>
    have HP2:Hid (∀j (h:j<(Qj s).length),j<k+1->((Qj s)[j].name.toList.isEmpty||Uh l (Qj s)[j].name)=true):=λj hj hjk=>by
     by_cases e:j=k
     ·subst e;rw [HX.out,hem];rfl
     ·exact HP.out j hj yai
    go_wp2_with fail
    go_region
    all_goals
     go_wp2
     go_roundw
     case rel=>exact ⟨k+1,by omega,by go_num,BA2,HP2⟩
     case measure=>simp [intOf];omega
   |false=>
    cases hha:Uh l x.name with
    |true=>
     have HP2:Hid (∀j (h:j<(Qj s).length),j<k+1->((Qj s)[j].name.toList.isEmpty||Uh l (Qj s)[j].name)=true):=λj hj hjk=>by
      by_cases e:j=k
      ·subst e;rw [HX.out,hha];simp
      ·exact HP.out j hj yai
     go_wp2_with fail
     go_region_law (first
      |(go_simp;go_at_call 86;refine (KL.out _ BA.out).mono ?_;rintro e w2 ⟨rfl,rfl⟩)
      |(go_simp;go_at_call 88;refine (KH.out _ BA.out.drew x.name hxs).mono ?_;rintro e w2 ⟨rfl,rfl⟩;rw [hha]))
     all_goals
      go_wp2
      go_roundw
      case rel=>exact ⟨k+1,by omega,by go_num,BA2.out.drew,HP2⟩
      case measure=>simp [intOf];omega
    |false=>
     have HF:Hid (st.mayName l s=false):=by
      have:(Qj s).all (λv=>v.name.toList.isEmpty||Uh l v.name)=false:=List.all_eq_false.2 ⟨(Qj s)[k],List.getElem_mem hlt,by rw [HX.out,hem,hha];simp⟩
      show (_&&_)=false
      rw [this]
      rfl
     go_wp2_with fail
     go_region_law (first
      |(go_simp;go_at_call 86;refine (KL.out _ BA.out).mono ?_;rintro e w2 ⟨rfl,rfl⟩)
      |(go_simp;go_at_call 88;refine (KH.out _ BA.out.drew x.name hxs).mono ?_;rintro e w2 ⟨rfl,rfl⟩;rw [hha]))
     all_goals
      go_wp2
      go_ret
      exact ⟨by rw [HF.out];rfl,BA.out.drew⟩
  ·have hlt': ¬(k:Int)<((Qj s).length:Int):=by omega
   have HA:Hid ((Qj s).all (λv=>v.name.toList.isEmpty||Uh l v.name)=true):=hid (List.all_eq_true.2 λv hv=>by
    obtain ⟨i,hi,rfl⟩:=List.getElem_of_mem hv
    exact HP.out i hi yai)
   go_wp2_with fail
   refine (KT.out wr HW.out).mono ?_
   rintro e w2 ⟨rfl,b2⟩
   have B2:=hid b2
   clear b2
   go_wp2_with fail
   refine (KI.out w2 B2.out _ HZ.out.to).mono ?_
   rintro e w3 ⟨rfl,b3⟩
   have B3:=hid b3
   clear b3
   cases hsh:st.isSh (Vg s) with
   |true=>
    have HF:Hid (st.mayName l s=false):=by
     show (_&&(!st.isSh (Vg s)&&_))=false
     rw [hsh]
     simp
    go_wp2
    go_ret
    exact ⟨by rw [HF.out];rfl,B3.out⟩
   |false=>
    have HM:Hid (st.mayName l s=(match Xg s with|some f=>st.isSh f|none=>true)):=by
     show (_&&(!st.isSh (Vg s)&&_))=_
     rw [hsh,HA.out]
     simp
    have HEo:=HE.out
    rcases s with ⟨to,y⟩|⟨to,o,y,z⟩|⟨to,f,y⟩|⟨f,y,z⟩|y|⟨⟩|y|n
    ·obtain ⟨rfl,rfl⟩:228=T/\_=u:=by simpa [Vk,stV] using HEo
     go_wp2
     go_ret
     exact ⟨by rw [HM.out];rfl,B3.out⟩
    ·obtain ⟨rfl,rfl⟩:231=T/\_=u:=by simpa [Vk,stV] using HEo
     go_wp2
     go_ret
     exact ⟨by rw [HM.out];rfl,B3.out⟩
    ·obtain ⟨rfl,rfl⟩:207=T/\_=u:=by simpa [Vk,stV] using HEo
     go_wp2_with fail
     refine (KI.out _ (B3.out.alloc B3.out.size _) f (HZ.out.of f rfl)).mono ?_
     rintro e w4 ⟨rfl,b4⟩
     have B4:=hid b4
     clear b4
     go_wp2
     go_ret
     exact ⟨by rw [HM.out];rfl,B4.out⟩
    ·obtain ⟨rfl,rfl⟩:209=T/\_=u:=by simpa [Vk,stV] using HEo
     go_wp2_with fail
     refine (KI.out _ (B3.out.alloc B3.out.size _) f (HZ.out.of f rfl)).mono ?_
     rintro e w4 ⟨rfl,b4⟩
     have B4:=hid b4
     clear b4
     go_wp2
     go_ret
     exact ⟨by rw [HM.out];rfl,B4.out⟩
    ·obtain ⟨rfl,rfl⟩:211=T/\_=u:=by simpa [Vk,stV] using HEo
     go_wp2
     go_ret
     exact ⟨by rw [HM.out];rfl,B3.out⟩
    ·obtain ⟨rfl,rfl⟩:171=T/\ptr b=u:=by simpa [Vk] using HEo
     go_wp2
     go_ret
     exact ⟨by rw [HM.out];rfl,B3.out⟩
    ·obtain ⟨rfl,rfl⟩:212=T/\ptr b=u:=by simpa [Vk] using HEo
     go_wp2
     go_ret
     exact ⟨by rw [HM.out];rfl,B3.out⟩
    ·obtain ⟨rfl,rfl⟩:215=T/\ptr b=u:=by simpa [Vk] using HEo
     go_wp2
     go_ret
     exact ⟨by rw [HM.out];rfl,B3.out⟩
end
end Go.Proofs.YtphcopbffecceaaGreatDoor
