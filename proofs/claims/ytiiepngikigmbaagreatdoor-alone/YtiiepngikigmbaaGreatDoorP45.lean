import Derived.Test.YtiiepngikigmbaaGreatDoorP38
set_option maxRecDepth 100000
set_option maxHeartbeats 4000000
namespace Go.Proofs.YtiiepngikigmbaaGreatDoor
open Go.RowKit
variable{W' Y w:World}{B c:Nat}{k:Bk}
open Go.RowKit Go.Shelf
attribute [local go_sem] Oper.semAt_some Ih Ep Ii Ij Gk Ua Zz Ub Uc Yf Gm Yg Xr Il Gn Im Ud Gp Gq Gr Gs Yh Xs Xt Yo Uv Yl Yv Yw Zm Ss Uw Eb Ec Ux Ee Xl Uk Ul Yx
section
variable{W w:World}{x:Cx}{K:List (Nat×Nat×Value)}{c:Nat}{s:Ck}{hs:List Hd}{ms:List HM}
abbrev nbO:Obj:= .cells #[.bool false, .bool false, .bool false, .bool false, .bool false, .bool false, .bool false, .bool false, .bool false, .bool false, .bool false, .bool false, .bool false, .bool false, .bool false, .bool false, .bool false, .int .i64 0, .slice none 0 0] 278
theorem z5t: ∀(i:Nat),i<17->(#[.bool false, .bool false, .bool false, .bool false, .bool false, .bool false, .bool false, .bool false, .bool false, .bool false, .bool false, .bool false, .bool false, .bool false, .bool false, .bool false, .bool false, .int .i64 0, .slice none 0 0]:Array Value)[i]?=some (.bool false)
 |0,_=>rfl
 |1,_=>rfl
 |2,_=>rfl
 |3,_=>rfl
 |4,_=>rfl
 |5,_=>rfl
 |6,_=>rfl
 |7,_=>rfl
 |8,_=>rfl
 |9,_=>rfl
 |10,_=>rfl
 |11,_=>rfl
 |12,_=>rfl
 |13,_=>rfl
 |14,_=>rfl
 |15,_=>rfl
 |16,_=>rfl
 |n+17,h=>by omega
theorem zmy(w:World)(o:Obj):(w.alloc o).heap[w.heap.size]?=some o:=yni
theorem zkt(X:World): ∀i,i<17->(X.alloc nbO).cell? ⟨X.heap.size,i,none⟩=some (.bool false):=λi hi=>(World.cell?_alloc_new _ _ _ i).trans (z5t i hi)
theorem z0x(X:World):NewBk (X.alloc nbO) X.heap.size bk0 where
 sh:=by unfold World.shape?;rw [zmy];rfl
 cs:={
  g:=λi v hv=>by
   have hv':(List.replicate 6 false)[i]?=some v:=hv
   rw [List.getElem?_replicate] at hv'
   split at hv'
   ·simp at hv'
    subst hv'
    exact zkt X i yl5
   ·simp at hv'
  p:=λi v hv=>by
   have hv':(List.replicate 6 false)[i]?=some v:=hv
   rw [List.getElem?_replicate] at hv'
   split at hv'
   ·simp at hv'
    subst hv'
    exact zkt X (6+i) yl5
   ·simp at hv'
  ch:=λi v hv=>by
   have hv':(List.replicate 4 false)[i]?=some v:=hv
   rw [List.getElem?_replicate] at hv'
   split at hv'
   ·simp at hv'
    subst hv'
    exact zkt X (12+i) yl5
   ·simp at hv'
  gv:=World.cell?_alloc_new _ _ _ 16
  ag:=World.cell?_alloc_new _ _ _ 17
  n1:=rfl,n2:=rfl,n3:=rfl}
 un:=World.cell?_alloc_new _ _ _ 18
 free:=λj=>by unfold World.frozen?;rw [zmy];simp
 u:=rfl
abbrev NbI(w:World)(c:Nat)(k:Bk)(Z:World):Prop:=(NewBk Z (w.heap.size+1) k/\(Boxed Z w.heap.size 86 (ptr c)/\Boxed Z (w.heap.size+1+1) 95 (.pointer (some ⟨w.heap.size+1,0,none⟩))))/\Below w.heap.size w Z
theorem NbI.step{Z:World}{k':Bk}(h:NbI w c k W')(bY:Below W'.heap.size W' Y)(hc:Chg (λq _=>q=w.heap.size+1) Y Z)(hn:NewBk Z (w.heap.size+1) k')(hB:w.heap.size+4<=B):KeepsFrom B W' Z/\Below w.heap.size W' Z/\NbI w c k' Z:=by
 have hall:Chg (λq _=>q=w.heap.size+1) W' Z:=(Chg.of_below bY).trans hc
 have hbel:Below w.heap.size W' Z:=hall.below h.2.size (λk i e=>by omega)
 exact ⟨zst hall (λk i e=>by omega),hbel,⟨hn,(hall.block _ h.1.2.1.lt (λ_ e=>by omega)).trans h.1.2.1,(hall.block _ h.1.2.2.lt (λ_ e=>by omega)).trans h.1.2.2⟩,h.2.trans hbel⟩
theorem NbI.chg(h:NbI w c k W')(bY:Below W'.heap.size W' Y){i:Nat}(hi:i<4)(hB:w.heap.size+4<=B):KeepsFrom B W' (Y.drew.setCell ⟨w.heap.size+1,12+i,none⟩ (.bool true))/\Below w.heap.size W' (Y.drew.setCell ⟨w.heap.size+1,12+i,none⟩ (.bool true))/\NbI w c {k with chgs:=k.chgs.set i true} (Y.drew.setCell ⟨w.heap.size+1,12+i,none⟩ (.bool true)):=by
 have bd:Below W'.heap.size W' Y.drew:=bY.trans ⟨rfl,rfl,rfl,Nat.le_refl _,λ_ _=>rfl⟩
 exact h.step bd ((Chg.refl (λq _=>q=w.heap.size+1) Y.drew).setCell (b:=w.heap.size+1) (o:=12+i) (λ_=>rfl) _) ((h.1.1.below bd).chg hi) hB
theorem NbI.give(h:NbI w c k W')(bY:Below W'.heap.size W' Y)(hB:w.heap.size+4<=B):KeepsFrom B W' (Y.setCell ⟨w.heap.size+1,16,none⟩ (.bool true))/\Below w.heap.size W' (Y.setCell ⟨w.heap.size+1,16,none⟩ (.bool true))/\NbI w c {k with gives:=true} (Y.setCell ⟨w.heap.size+1,16,none⟩ (.bool true)):=
 h.step bY ((Chg.refl (λq _=>q=w.heap.size+1) Y).setCell (b:=w.heap.size+1) (o:=16) (λ_=>rfl) _) (h.1.1.below bY).give hB
theorem z3r(n:Nat)(hn:6<=n)(hA:Ar hs ms W)(h:Cw W x K w c s){j:Nat}{es:List En}(hl:j<ms.length)(hj:hs[j]?=some ⟨.st .atomic,es⟩)(h14:es.length<=14){f0:Nat}(hf0:f0<=2)(hes: ∀e∈es,enW hs x f0 true e):
  CallsIn Fence.wide n Tryz.prog 126 #[ptr c,ptr ms[j].b] w λe w'=>∃b,e= .returned (ptr b)/\w.heap.size<=b/\NewBk w' b ((Jf hs 3 es).foldl x.seen bk0)/\Below w.heap.size w w':=by
 have hAw:Ar hs ms w:=hA.below h.low
 have hd:=hAw.hd j hl
 have hhd:ms[j].h=⟨.st .atomic,es⟩:=by
  obtain ⟨_,e⟩:=hAw.at hj
  exact e
 have hrow:=hd.row
 rw [hhd] at hrow
 have hrc:=hd.rc
 obtain ⟨ya,yc,hyr⟩: ∃a c,ms[j].rv= .slice a es.length c:=by
  rcases hrow.2 with ⟨q1,q2⟩|⟨g',cap',cur,q1,_⟩
  ·exact ⟨none,0,by rw [q1];simp at q2;simp [q2]⟩
  ·exact ⟨_,_,q1⟩
 rw [hyr] at hrow hrc
 have hG3: ∀e∈es,zy4 hs x e:=λe he=>⟨z0t yl5 (zw2 hs x f0 true e (hes e he)),f0,hes e he⟩
 have hw: ∀f,Fence.wide.fn f:=λ_=>trivial
 have h1n:1<=n:=yl5
 have HC:=hid h
 have HROW:=hid hrow
 generalize ms[j].b=mb at*
 have lmb:mb<w.heap.size:=blt hrc
 clear h hd hrow
 have hc3:(((w.alloc (.cells #[ptr c] 86)).alloc (.cells #[.bool false, .bool false, .bool false, .bool false, .bool false, .bool false, .bool false, .bool false, .bool false, .bool false, .bool false, .bool false, .bool false, .bool false, .bool false, .bool false, .bool false, .int .i64 0, .slice none 0 0] 278)).alloc (.cells #[.pointer (some ⟨w.heap.size+1,0,none⟩)] 95)).cell? ⟨mb,0,none⟩=some (.slice ya es.length yc):=by
  rw [World.cell?_alloc_past _ _ _ yma,World.cell?_alloc_past _ _ _ yma,World.cell?_alloc_past _ _ _ lmb]
  exact hrc
 refine callsIn_of_wp_marks Tryz.func126 rfl trivial ?_ rfl
 simp only [Tryz.ntmps126,List.size_toArray,List.length_cons,List.length_nil,Nat.reduceAdd,Nat.reduceSub,Array.replicate_succ,Array.replicate_zero,List.push_toArray,List.append_toArray,List.nil_append,List.cons_append]
 gi_wp2_with fail
 refine ((callsIn_wide (n:=n- 1)).2 (zse ya _ yc _)).mono ?_
 rintro e w' ⟨rfl,rfl⟩
 gi_wp2
 obtain ⟨W1,hW1⟩: ∃W1,((w.alloc (.cells #[ptr c] 86)).alloc (.cells #[.bool false, .bool false, .bool false, .bool false, .bool false, .bool false, .bool false, .bool false, .bool false, .bool false, .bool false, .bool false, .bool false, .bool false, .bool false, .bool false, .bool false, .int .i64 0, .slice none 0 0] 278)).alloc (.cells #[.pointer (some ⟨w.heap.size+1,0,none⟩)] 95)=W1:=⟨_,rfl⟩
 have hs1:W1.heap.size=w.heap.size+1+1+1:=by rw [<-hW1];simp
 have hb1:Below w.heap.size w W1:=by rw [<-hW1];exact (((Below.refl _ w).alloc (Nat.le_refl _) _).alloc yl6 _).alloc yma _
 have hnb1:NewBk W1 (w.heap.size+1) bk0:=by
  rw [<-hW1]
  exact (show NewBk ((w.alloc (.cells #[ptr c] 86)).alloc nbO) (w.heap.size+1) bk0 by have:=z0x (w.alloc (.cells #[ptr c] 86));simpa using this).below ((Below.refl _ _).alloc (Nat.le_refl _) _)
 have hbc1:Boxed W1 w.heap.size 86 (ptr c):=by
  rw [<-hW1]
  exact ((Boxed.new w _ _).alloc _).alloc _
 have hbb1:Boxed W1 (w.heap.size+1+1) 95 (.pointer (some ⟨w.heap.size+1,0,none⟩)):=by
  rw [<-hW1]
  have e3:((w.alloc (.cells #[ptr c] 86)).alloc nbO).heap.size=w.heap.size+1+1:=yl6
  rw [<-e3]
  exact Boxed.new _ _ _
 rw [hW1]
 clear hW1 hc3
 obtain ⟨W2,hW2⟩: ∃W2,W1.alloc (.cells #[.slice ya es.length yc] 87)=W2:=⟨_,rfl⟩
 have hB2:Below W1.heap.size W1 W2:=ynu
 have hBt:W2.cell? ⟨w.heap.size+1+1+1,0,none⟩=some (.slice ya es.length yc):=by rw [<-hW2,<-hs1];exact World.cell?_alloc_new _ _ _ 0
 have hsz2:w.heap.size+4<=W2.heap.size:=by rw [<-hW2];simp;omega
 rw [hW2]
 clear hW2
 have low2:Below w.heap.size w W2:=hb1.trans (hB2.mono hb1.size)
 have hnb2:=hnb1.below hB2
 have hbc2:Boxed W2 w.heap.size 86 (ptr c):=(hB2.block w.heap.size yl5).trans hbc1
 have hbb2:Boxed W2 (w.heap.size+1+1) 95 (.pointer (some ⟨w.heap.size+1,0,none⟩)):=(hB2.block _ yl5).trans hbb1
 refine wpIn_rangeFunc_ownH rfl h1n (gf:=88) (lb:=#[.pointer (some ⟨w.heap.size+1+1+1,0,none⟩)]) rfl trivial (enters_of Tryz.func88 yl7 rfl)
  (zoy (P:=zy4 hs x) (λe h=>h.1) (λj y h hj=>zw3 h hj) (n- 1) (w.heap.size+1+1+1) w W2 hAw HROW.out h14 hG3 low2 hBt) belowK_t (belowK_b (w:=W2) yl5) (Below.refl _ _) (λ_=>rfl)
  (λpre W'=>(NewBk W' (w.heap.size+1) ((pre.map (·.1)).foldl x.seen bk0)/\(Boxed W' w.heap.size 86 (ptr c)/\Boxed W' (w.heap.size+1+1) 95 (.pointer (some ⟨w.heap.size+1,0,none⟩))))/\Below w.heap.size w W')
  (λc' pre W'=>False)
  (OwnFrom.and (OwnFrom.and (λpre X Y row hs hg hr=>?own) (OwnFrom.and (Own.from (boxed_own _ _ _) _) (Own.from (boxed_own _ _ _) _))) (ownFrom_below (Nat.le_refl _) yl5))
  (λc' _ _ _ _ hs _ _=>hs)
  ⟨⟨hnb2,hbc2,hbb2⟩,low2⟩
  (λy a' _=>a'={tmps:=#[ptr c,ptr mb, .pointer (some ⟨w.heap.size,0,none⟩),undef, .pointer none, .pointer (some ⟨w.heap.size+1+1,0,none⟩),enV (Qu ms) y.1,undef,undef,undef,undef,undef, .agg #[.bool false, .bool false, .bool false, .bool false, .bool false, .bool false, .bool false, .bool false, .bool false, .bool false, .bool false, .bool false, .bool false, .bool false, .bool false, .bool false, .bool false, .int .i64 0, .slice none 0 0], .pointer (some ⟨w.heap.size+1,0,none⟩),ptr mb, .pointer (some ⟨mb,0,none⟩), .pointer (some ⟨mb,0,none⟩), .pointer (some ⟨mb,0,none⟩), .slice ya es.length yc, .func (.func 88) #[] #[.pointer (some ⟨w.heap.size+1+1+1,0,none⟩)],enV (Qu ms) y.1,undef,undef,undef,undef,undef,undef,undef,undef,undef,undef,undef,undef,undef,undef,undef,undef,undef,undef,undef,undef,undef,undef,undef,undef,undef,undef,undef,undef,undef,undef,undef,undef,undef,undef,undef,undef,undef,undef,undef,undef,undef,undef,undef,undef,undef,undef,undef,undef,undef,undef,undef,undef,undef,undef,undef,undef,undef,undef,undef,undef,undef,undef,undef,undef,undef,undef,undef,undef,undef,undef,undef,undef,undef,undef,undef,undef,undef],defers:=[]})
  (λy a' _ X Y row hs _ _=>hs)
  ?assign ?body ?done ?stop
 case own=>
  have hlt:=hs.lt
  exact hs.heap (hg.block _ hlt (λe=>by have:=(hr _ e.symm).1;omega))
 case assign=>
  rintro l pre y W' K' hI hK
  gi_wp2
  exact hK _ _ (KeepsFrom.refl _ _) (Below.refl _ _) hI rfl
 case stop=>
  rintro D' c' pre W' hD hSp hF
  exact hF.elim
 case done=>
  rintro D' ys W' hD hS ⟨⟨hnb,hbc,hbb⟩,hlow⟩ hK
  have cb:=hbb.cell
  gi_wp2
  refine Iu w [D'] W' yl6 (λD hD=>by
   simp at hD
   subst hD
   exact ⟨by omega,hK⟩) (λW'' hW'' hk=>?_)
  rw [hS] at hnb
  refine ⟨.pointer (some ⟨w.heap.size+1,0,none⟩),by simp [results,Tryz.f126,go_sem],w.heap.size+1,rfl,by omega,hnb.heap (hk _ yma),hlow.trans hW''⟩
 case body=>
  rintro l pre ⟨e,he⟩ a' W' hl' _ ⟨⟨hnb,hbc,hbb⟩,hlow⟩ rfl hlt
  have he0:=he
  have hfold:((pre++[(⟨e,he⟩:EnP (zy4 hs x))]).map (·.1)).foldl x.seen bk0=x.seen ((pre.map (·.1)).foldl x.seen bk0) e:=yl6
  obtain ⟨hG,g,hW⟩:=he0
  have hC:Cw W x K W' c s:=HC.out.below hlow
  generalize ((pre.map (·.1)).foldl x.seen bk0)=bk at*
  cases e with
  |inr j2=>
   have hsn:x.seen bk (.inr j2)=bk:=rfl
   rw [hsn] at hfold
   rcases hG with ⟨s2,h,_⟩|⟨j',y',s2,h,hj',hky,hh,_,_,_⟩
   ·cases h
   ·cases h
    obtain ⟨hl5,e1,e2⟩:=Eg (hAw.below hlow) hj'
    rw [e2,hky]
    generalize ms[j2].b=jb at*
    rcases s2 with ⟨to,a⟩|⟨to,k,a,c⟩|⟨to,f,a⟩|⟨f,a,c⟩|a|⟨⟩|a|nn
    ·simp [Qf] at hh
    ·simp [Qf] at hh
    ·simp [Qf] at hh
    ·simp [Qf] at hh
    ·simp [Qf] at hh
    ·simp only [hkT]
     gi_wp2
     exact ⟨KeepsFrom.refl _ _,Below.refl _ _,⟨hfold▸hnb,hbc,hbb⟩,hlow⟩
    ·simp only [hkT]
     gi_wp2
     exact ⟨KeepsFrom.refl _ _,Below.refl _ _,⟨hfold▸hnb,hbc,hbb⟩,hlow⟩
    ·simp only [hkT]
     gi_wp2
     exact ⟨KeepsFrom.refl _ _,Below.refl _ _,⟨hfold▸hnb,hbc,hbb⟩,hlow⟩
  |inl st=>
   have hlf:x.leafOk true st:=by cases g<;>exact hW
   have hv:enV (Qu ms) (.inl st)=stV st:=rfl
   rw [hv]
   clear hv hW hG
   have cb:=hbb.cell
   have cc:=hbc.cell
   rcases st with ⟨to,a⟩|⟨to,o,a,d⟩|⟨to,f,a⟩|⟨f,a,d⟩|a|⟨⟩|a|nn
   ·simp only [stV]
    gi_wp2
    obtain ⟨Y,hY⟩: ∃Y,W'.alloc (.cells #[.string to, .string a.name, .int .i64 a.num] 213)=Y:=⟨_,rfl⟩
    have bY:Below W'.heap.size W' Y:=ync
    have y0:Y.cell? ⟨W'.heap.size,0,none⟩=some (.string to):=ynd
    rw [hY]
    clear hY
    have hto:=hlf.1
    have hCY:=hC.below bY
    have y1:=(bY.cell (p:=⟨w.heap.size+1+1,0,none⟩) hbb.lt).trans cb
    have y2:=(bY.cell (p:=⟨w.heap.size,0,none⟩) hbc.lt).trans cc
    have y3:=hCY.c2
    have y4:=hCY.drew.lookL hto
    have hi:=locI_lt x hC.base.ln to
    have nbY:=hnb.below bY
    have n4:=nbY.cs.n3
    obtain ⟨v5,y5⟩: ∃v,Y.cell? ⟨w.heap.size+1,12+x.locI to,none⟩=some (.bool v):=⟨_,nbY.cs.ch (x.locI to) _ (List.getElem?_eq_getElem yl5)⟩
    have y6:=nbY.free (12+x.locI to)
    have hNb:=NbI.chg (B:=W2.heap.size) ⟨⟨hnb,hbc,hbb⟩,hlow⟩ bY hi yl5
    have hCZ:=HC.out.below hNb.2.2.2
    have hlb:=hnb.lt
    have HS1:Hid ((λw'=>w'.cell? ⟨w.heap.size+1+1,0,none⟩=some (.pointer (some ⟨w.heap.size+1,0,none⟩))/\w'.cell? ⟨w.heap.size,0,none⟩=some (ptr c)/\w'.cell? ⟨c,2,none⟩=some (.map (some x.lb))/\w'.cell? ⟨W'.heap.size,0,none⟩=some (.string to)/\(Instr.lookup 90 (.map (some x.lb)) (.string to) false).run Tryz.prog w'= .ok (.int .i64 (x.locI to:Nat)) w') (Y.drew.setCell ⟨w.heap.size+1,12+x.locI to,none⟩ (.bool true))):=hid ⟨hNb.2.2.1.2.2.cell,hNb.2.2.1.2.1.cell,hCZ.c2,(Qb (.inl yl5)).trans y0,hCZ.lookL hto⟩
    have HR:=hid hNb
    clear hnb nbY hCY hC hNb hCZ
    generalize hli:x.locI to=li at*
    have i0:(0:Int)<=(li:Int):=yl5
    have i4:(li:Int)<4:=yl5
    refine Xv (S:=(λw'=>w'.cell? ⟨w.heap.size+1+1,0,none⟩=some (.pointer (some ⟨w.heap.size+1,0,none⟩))/\w'.cell? ⟨w.heap.size,0,none⟩=some (ptr c)/\w'.cell? ⟨c,2,none⟩=some (.map (some x.lb))/\w'.cell? ⟨W'.heap.size,0,none⟩=some (.string to)/\(Instr.lookup 90 (.map (some x.lb)) (.string to) false).run Tryz.prog w'= .ok (.int .i64 (li:Nat)) w')) yl7 yl6 ym7 ⟨y1,y2,y3,y0,y4⟩ (λhHeld=>?_)
    refine Qa 0 (h:=Qa 1 (h:=Qa 2 (h:=Qa 3 (h:=Qa 4 (h:=Qa 5 (h:=Qa 6 (h:=Qa 7 (h:=Qa 8 (h:=Qa 9 (h:=Qa 10 (h:=?_)))))))))))
    refine wpAnyH_ready (rs:=[11]) yl7 yl6 ?_
    refine .cons rfl (λKQ hKQ=>?_) ?_
    ·go_simp
     refine hKQ.out _ _ ?_ (λhHeld2=>?_)
     ·exact HS1.out
     clear hKQ KQ
     refine wpAnyH_done yl7 ?_ _
     have hq:NbI w c (((pre++[(⟨.inl (.inl (to,a)),he⟩:EnP (zy4 hs x))]).map (·.1)).foldl x.seen bk0) (Y.drew.setCell ⟨w.heap.size+1,12+li,none⟩ (.bool true)):=yny
     exact ⟨HR.out.1,HR.out.2.1,hq⟩
    exact .nil
   ·simp only [stV]
    gi_wp2
    obtain ⟨Y,hY⟩: ∃Y,W'.alloc (.cells #[.string to, .int .i64 o, .string a.name, .int .i64 a.num, .string d.name, .int .i64 d.num] 217)=Y:=⟨_,rfl⟩
    have bY:Below W'.heap.size W' Y:=ync
    have y0:Y.cell? ⟨W'.heap.size,0,none⟩=some (.string to):=ynd
    rw [hY]
    clear hY
    have hto:=hlf.1
    have hCY:=hC.below bY
    have y1:=(bY.cell (p:=⟨w.heap.size+1+1,0,none⟩) hbb.lt).trans cb
    have y2:=(bY.cell (p:=⟨w.heap.size,0,none⟩) hbc.lt).trans cc
    have y3:=hCY.c2
    have y4:=hCY.drew.lookL hto
    have hi:=locI_lt x hC.base.ln to
    have nbY:=hnb.below bY
    have n4:=nbY.cs.n3
    obtain ⟨v5,y5⟩: ∃v,Y.cell? ⟨w.heap.size+1,12+x.locI to,none⟩=some (.bool v):=⟨_,nbY.cs.ch (x.locI to) _ (List.getElem?_eq_getElem yl5)⟩
    have y6:=nbY.free (12+x.locI to)
    have hNb:=NbI.chg (B:=W2.heap.size) ⟨⟨hnb,hbc,hbb⟩,hlow⟩ bY hi yl5
    have hCZ:=HC.out.below hNb.2.2.2
    have hlb:=hnb.lt
    have HS1:Hid ((λw'=>w'.cell? ⟨w.heap.size+1+1,0,none⟩=some (.pointer (some ⟨w.heap.size+1,0,none⟩))/\w'.cell? ⟨w.heap.size,0,none⟩=some (ptr c)/\w'.cell? ⟨c,2,none⟩=some (.map (some x.lb))/\w'.cell? ⟨W'.heap.size,0,none⟩=some (.string to)/\(Instr.lookup 90 (.map (some x.lb)) (.string to) false).run Tryz.prog w'= .ok (.int .i64 (x.locI to:Nat)) w') (Y.drew.setCell ⟨w.heap.size+1,12+x.locI to,none⟩ (.bool true))):=hid ⟨hNb.2.2.1.2.2.cell,hNb.2.2.1.2.1.cell,hCZ.c2,(Qb (.inl yl5)).trans y0,hCZ.lookL hto⟩
    have HR:=hid hNb
    clear hnb nbY hCY hC hNb hCZ
    generalize hli:x.locI to=li at*
    have i0:(0:Int)<=(li:Int):=yl5
    have i4:(li:Int)<4:=yl5
    refine Xv (S:=(λw'=>w'.cell? ⟨w.heap.size+1+1,0,none⟩=some (.pointer (some ⟨w.heap.size+1,0,none⟩))/\w'.cell? ⟨w.heap.size,0,none⟩=some (ptr c)/\w'.cell? ⟨c,2,none⟩=some (.map (some x.lb))/\w'.cell? ⟨W'.heap.size,0,none⟩=some (.string to)/\(Instr.lookup 90 (.map (some x.lb)) (.string to) false).run Tryz.prog w'= .ok (.int .i64 (li:Nat)) w')) yl7 yl6 ym7 ⟨y1,y2,y3,y0,y4⟩ (λhHeld=>?_)
    refine Qa 0 (h:=Qa 1 (h:=Qa 2 (h:=Qa 3 (h:=Qa 4 (h:=Qa 5 (h:=Qa 6 (h:=Qa 7 (h:=Qa 8 (h:=Qa 9 (h:=Qa 10 (h:=?_)))))))))))
    refine wpAnyH_ready (rs:=[11]) yl7 yl6 ?_
    refine .cons rfl (λKQ hKQ=>?_) ?_
    ·go_simp
     refine hKQ.out _ _ ?_ (λhHeld2=>?_)
     ·exact HS1.out
     clear hKQ KQ
     refine wpAnyH_done yl7 ?_ _
     have hq:NbI w c (((pre++[(⟨.inl (.inr (.inl (to,o,a,d))),he⟩:EnP (zy4 hs x))]).map (·.1)).foldl x.seen bk0) (Y.drew.setCell ⟨w.heap.size+1,12+li,none⟩ (.bool true)):=yny
     exact ⟨HR.out.1,HR.out.2.1,hq⟩
    exact .nil
   ·simp only [stV]
    gi_wp2
    obtain ⟨Y,hY⟩: ∃Y,W'.alloc (.cells #[.string to, .string f, .string a.name, .int .i64 a.num] 192)=Y:=⟨_,rfl⟩
    have bY:Below W'.heap.size W' Y:=ync
    have y0:Y.cell? ⟨W'.heap.size,0,none⟩=some (.string to):=ynd
    have z0':Y.cell? ⟨W'.heap.size,1,none⟩=some (.string f):=by rw [<-hY];exact World.cell?_alloc_new _ _ _ 1
    rw [hY]
    clear hY
    obtain ⟨_,hto,⟨hfz,vf,vn,hvar,hv6,hvn⟩,_⟩:=hlf
    have hCY:=hC.below bY
    have y1:=(bY.cell (p:=⟨w.heap.size+1+1,0,none⟩) hbb.lt).trans cb
    have y2:=(bY.cell (p:=⟨w.heap.size,0,none⟩) hbc.lt).trans cc
    have y3:=hCY.c2
    have y4:=hCY.drew.lookL hto
    have hi:=locI_lt x hC.base.ln to
    have nbY:=hnb.below bY
    have n4:=nbY.cs.n3
    obtain ⟨v5,y5⟩: ∃v,Y.cell? ⟨w.heap.size+1,12+x.locI to,none⟩=some (.bool v):=⟨_,nbY.cs.ch (x.locI to) _ (List.getElem?_eq_getElem yl5)⟩
    have y6:=nbY.free (12+x.locI to)
    have hNb:=NbI.chg (B:=W2.heap.size) ⟨⟨hnb,hbc,hbb⟩,hlow⟩ bY hi yl5
    have hCZ:=HC.out.below hNb.2.2.2
    have hlb:=hnb.lt
    have HS1:Hid ((λw'=>w'.cell? ⟨w.heap.size+1+1,0,none⟩=some (.pointer (some ⟨w.heap.size+1,0,none⟩))/\w'.cell? ⟨w.heap.size,0,none⟩=some (ptr c)/\w'.cell? ⟨c,2,none⟩=some (.map (some x.lb))/\w'.cell? ⟨W'.heap.size,0,none⟩=some (.string to)/\(Instr.lookup 90 (.map (some x.lb)) (.string to) false).run Tryz.prog w'= .ok (.int .i64 (x.locI to:Nat)) w') (Y.drew.setCell ⟨w.heap.size+1,12+x.locI to,none⟩ (.bool true))):=hid ⟨hNb.2.2.1.2.2.cell,hNb.2.2.1.2.1.cell,hCZ.c2,(Qb (.inl yl5)).trans y0,hCZ.lookL hto⟩
    have HR:=hid hNb
    clear hnb nbY hCY hC hNb hCZ
    generalize hli:x.locI to=li at*
    have i0:(0:Int)<=(li:Int):=yl5
    have i4:(li:Int)<4:=yl5
    refine Xv (S:=(λw'=>w'.cell? ⟨w.heap.size+1+1,0,none⟩=some (.pointer (some ⟨w.heap.size+1,0,none⟩))/\w'.cell? ⟨w.heap.size,0,none⟩=some (ptr c)/\w'.cell? ⟨c,2,none⟩=some (.map (some x.lb))/\w'.cell? ⟨W'.heap.size,0,none⟩=some (.string to)/\(Instr.lookup 90 (.map (some x.lb)) (.string to) false).run Tryz.prog w'= .ok (.int .i64 (li:Nat)) w')) yl7 yl6 ym7 ⟨y1,y2,y3,y0,y4⟩ (λhHeld=>?_)
    refine Qa 0 (h:=Qa 1 (h:=Qa 2 (h:=Qa 3 (h:=Qa 4 (h:=Qa 5 (h:=Qa 6 (h:=Qa 7 (h:=Qa 8 (h:=Qa 9 (h:=Qa 10 (h:=?_)))))))))))
    refine wpAnyH_ready (rs:=[11]) yl7 yl6 ?_
    refine .cons rfl (λKQ hKQ=>?_) ?_
    ·go_simp
     refine hKQ.out _ _ ?_ (λhHeld2=>?_)
     ·exact HS1.out
     clear hKQ KQ
     refine wpAnyH_done yl7 ?_ _
     gi_wp2
     obtain ⟨Z,hZ⟩: ∃Z,(Y.setCell ⟨w.heap.size+1,12+li,none⟩ (.bool true)).drew=Z:=⟨_,rfl⟩
     have hNb2:=HR.out
     have z0:Z.cell? ⟨W'.heap.size,1,none⟩=some (.string f):=by rw [<-hZ];show (Y.setCell ⟨w.heap.size+1,12+li,none⟩ (.bool true)).cell? _=_;exact (Qb (.inl yl5)).trans z0'
     rw [show Y.drew.setCell ⟨w.heap.size+1,12+li,none⟩ (.bool true)=(Y.setCell ⟨w.heap.size+1,12+li,none⟩ (.bool true)).drew from rfl,hZ] at hNb2
     rw [hZ]
     clear hZ HR HS1 y0 y1 y2 y3 y4 y5 y6 hHeld hHeld2
     have hCZ:=HC.out.below hNb2.2.2.2
     have z1:=hNb2.2.2.1.2.2.cell
     have z2:=hNb2.2.2.1.2.1.cell
     have z3:=hCZ.c1
     have z4:=hCZ.drew.lookS hfz
     rw [hvar] at z4
     have lz:=hNb2.2.2.1.1.lt
     have lt0:W'.heap.size<Z.heap.size:=blt z0
     have HM:Hid (MarksAt Z.drew (w.heap.size+1) 0 bk.gets/\bk.gets.length=6/\ ∀j,Z.drew.frozen? ⟨w.heap.size+1,j,none⟩=false):=hid ⟨hNb2.2.2.1.1.marksG,hNb2.2.2.1.1.cs.n1,hNb2.2.2.1.1.free⟩
     have HF:Hid (∀w1,MarksAt w1 (w.heap.size+1) 0 (Sw bk.gets vf vn)->Chg (λk j=>k=w.heap.size+1/\0<=j/\j<0+6) Z.drew w1->KeepsFrom W2.heap.size W' w1/\Below w.heap.size W' w1/\NbI w c (x.seen bk (.inl (.inr (.inr (.inl (to,f,a)))))) w1):=hid λw1 hmk hcm=>by
      have bd:Below Z.heap.size Z Z.drew:=⟨rfl,rfl,rfl,Nat.le_refl _,λ_ _=>rfl⟩
      have hk:=NbI.step (B:=W2.heap.size) hNb2.2.2 bd (hcm.mono λ_ _ _ e=>e.1) ((hNb2.2.2.1.1.below bd).mg (l:=Sw bk.gets vf vn) ((za2 _ _ _).trans hNb2.2.2.1.1.cs.n1) hmk hcm) yl5
      have hsn:x.seen bk (.inl (.inr (.inr (.inl (to,f,a)))))={{bk with chgs:=bk.chgs.set li true} with gets:=Sw bk.gets vf vn}:=by simp only [Cx.seen,hli,hvar,zmx]
      rw [hsn]
      exact ⟨hNb2.1.trans hk.1,hNb2.2.1.trans hk.2.1,hk.2.2⟩
     have HS2:Hid (∀w1,Chg (λk j=>k=w.heap.size+1/\0<=j/\j<0+6) Z.drew w1->w1.cell? ⟨w.heap.size+1+1,0,none⟩=some (.pointer (some ⟨w.heap.size+1,0,none⟩))/\w1.cell? ⟨w.heap.size,0,none⟩=some (ptr c)/\w1.cell? ⟨c,1,none⟩=some (.map (some x.sb))/\w1.cell? ⟨W'.heap.size,1,none⟩=some (.string f)/\(Instr.lookup 68 (.map (some x.sb)) (.string f) false).run Tryz.prog w1= .ok (.agg #[.int .i64 (vf:Nat), .int .i64 (vn:Nat)]) w1):=hid λw1 hcm=>by
      have hbw:Below w.heap.size w w1:=hNb2.2.2.2.trans ((⟨rfl,rfl,rfl,Nat.le_refl _,λ_ _=>rfl⟩:Below w.heap.size Z Z.drew).trans (hcm.below (show w.heap.size<=Z.drew.heap.size from hNb2.2.2.2.size) (λk i e=>by omega)))
      have hC1:=HC.out.below hbw
      have hl1:=hC1.lookS hfz
      rw [hvar] at hl1
      exact ⟨(hcm.cell _ _ (show _<Z.drew.heap.size from hNb2.2.2.1.2.2.lt) (λe=>by omega)).trans z1,(hcm.cell _ _ (show _<Z.drew.heap.size from hNb2.2.2.1.2.1.lt) (λe=>by omega)).trans z2,hC1.c1,(hcm.cell _ _ (show _<Z.drew.heap.size from lt0) (λe=>by omega)).trans z0,hl1⟩
     clear hNb2 hCZ
     refine Xv (S:=(λw'=>w'.cell? ⟨w.heap.size+1+1,0,none⟩=some (.pointer (some ⟨w.heap.size+1,0,none⟩))/\w'.cell? ⟨w.heap.size,0,none⟩=some (ptr c)/\w'.cell? ⟨c,1,none⟩=some (.map (some x.sb))/\w'.cell? ⟨W'.heap.size,1,none⟩=some (.string f)/\(Instr.lookup 68 (.map (some x.sb)) (.string f) false).run Tryz.prog w'= .ok (.agg #[.int .i64 (vf:Nat), .int .i64 (vn:Nat)]) w')) yl7 yl6 ym7 ⟨z1,z2,z3,z0,z4⟩ (λhHeld=>?_)
     refine Qa 0 (h:=Qa 1 (h:=Qa 2 (h:=Qa 3 (h:=Qa 4 (h:=Qa 5 (h:=Qa 6 (h:=Qa 7 (h:=Qa 8 (h:=Qa 9 (h:=Qa 10 (h:=?_)))))))))))
     refine wpAnyH_ready (rs:=[11]) yl7 yl6 ?_
     refine .cons rfl (λKQ hKQ=>?_) ?_
     ·(go_simp;go_at_call 144;refine (zy3 (o:=0) (f:=vf) (n:=vn) HM.out.1 HM.out.2.1 HM.out.2.2 hvn).mono ?_;rintro e w1 ⟨rfl,hmk,hcm⟩)
      refine hKQ.out _ _ ?_ (λhHeld2=>?_)
      ·exact HS2.out _ hcm
      clear hKQ KQ
      refine wpAnyH_done yl7 ?_ _
      have q:=HF.out _ hmk hcm
      rw [<-hfold] at q
      exact q
     exact .nil
    exact .nil
   ·simp only [stV]
    gi_wp2
    obtain ⟨Y,hY⟩: ∃Y,W'.alloc (.cells #[.string f, .string a.name, .int .i64 a.num, .string d.name, .int .i64 d.num] 194)=Y:=⟨_,rfl⟩
    have bY:Below W'.heap.size W' Y:=ync
    have y0:Y.cell? ⟨W'.heap.size,0,none⟩=some (.string f):=ynd
    rw [hY]
    clear hY
    obtain ⟨_,⟨hfz,vf,vn,hvar,hv6,hvn⟩,_⟩:=hlf
    have hCZ:=hC.below bY
    have z0:=y0
    have z1:=(bY.cell (p:=⟨w.heap.size+1+1,0,none⟩) hbb.lt).trans cb
    have z2:=(bY.cell (p:=⟨w.heap.size,0,none⟩) hbc.lt).trans cc
    have z3:=hCZ.c1
    have z4:=hCZ.drew.lookS hfz
    rw [hvar] at z4
    have hI0:NbI w c bk W':=⟨⟨hnb,hbc,hbb⟩,hlow⟩
    have nbY:=hnb.below bY
    have hlb:=hnb.lt
    have lt0:W'.heap.size<Y.heap.size:=blt y0
    have HM:Hid (MarksAt Y.drew (w.heap.size+1) 6 bk.puts/\bk.puts.length=6/\ ∀j,Y.drew.frozen? ⟨w.heap.size+1,j,none⟩=false):=hid ⟨nbY.marksP,nbY.cs.n2,nbY.free⟩
    have bd:Below W'.heap.size W' Y.drew:=bY.trans ⟨rfl,rfl,rfl,Nat.le_refl _,λ_ _=>rfl⟩
    have HF:Hid (∀w1,MarksAt w1 (w.heap.size+1) 6 (Sw bk.puts vf vn)->Chg (λk j=>k=w.heap.size+1/\6<=j/\j<6+6) Y.drew w1->KeepsFrom W2.heap.size W' w1/\Below w.heap.size W' w1/\NbI w c (x.seen bk (.inl (.inr (.inr (.inr (.inl (f,a,d))))))) w1):=hid λw1 hmk hcm=>by
     have hk:=NbI.step (B:=W2.heap.size) hI0 bd (hcm.mono λ_ _ _ e=>e.1) ((hnb.below bd).mp (l:=Sw bk.puts vf vn) ((za2 _ _ _).trans hnb.cs.n2) hmk hcm) yl5
     have hsn:x.seen bk (.inl (.inr (.inr (.inr (.inl (f,a,d))))))={bk with puts:=Sw bk.puts vf vn}:=by simp only [Cx.seen,hvar,zmx]
     rw [hsn]
     exact hk
    have HS2:Hid (∀w1,Chg (λk j=>k=w.heap.size+1/\6<=j/\j<6+6) Y.drew w1->w1.cell? ⟨w.heap.size+1+1,0,none⟩=some (.pointer (some ⟨w.heap.size+1,0,none⟩))/\w1.cell? ⟨w.heap.size,0,none⟩=some (ptr c)/\w1.cell? ⟨c,1,none⟩=some (.map (some x.sb))/\w1.cell? ⟨W'.heap.size,0,none⟩=some (.string f)/\(Instr.lookup 68 (.map (some x.sb)) (.string f) false).run Tryz.prog w1= .ok (.agg #[.int .i64 (vf:Nat), .int .i64 (vn:Nat)]) w1):=hid λw1 hcm=>by
     have hbw:Below w.heap.size w w1:=hlow.trans ((bd.mono hlow.size).trans (hcm.below (show w.heap.size<=Y.drew.heap.size from Nat.le_trans hlow.size bY.size) (λk i e=>by omega)))
     have hC1:=HC.out.below hbw
     have hl1:=hC1.lookS hfz
     rw [hvar] at hl1
     exact ⟨(hcm.cell _ _ (show _<Y.drew.heap.size from Nat.lt_of_lt_of_le hbb.lt bY.size) (λe=>by omega)).trans z1,(hcm.cell _ _ (show _<Y.drew.heap.size from Nat.lt_of_lt_of_le hbc.lt bY.size) (λe=>by omega)).trans z2,hC1.c1,(hcm.cell _ _ (show _<Y.drew.heap.size from lt0) (λe=>by omega)).trans z0,hl1⟩
    clear hnb nbY hCZ hC hI0 bd
    refine Xv (S:=(λw'=>w'.cell? ⟨w.heap.size+1+1,0,none⟩=some (.pointer (some ⟨w.heap.size+1,0,none⟩))/\w'.cell? ⟨w.heap.size,0,none⟩=some (ptr c)/\w'.cell? ⟨c,1,none⟩=some (.map (some x.sb))/\w'.cell? ⟨W'.heap.size,0,none⟩=some (.string f)/\(Instr.lookup 68 (.map (some x.sb)) (.string f) false).run Tryz.prog w'= .ok (.agg #[.int .i64 (vf:Nat), .int .i64 (vn:Nat)]) w')) yl7 yl6 ym7 ⟨z1,z2,z3,z0,z4⟩ (λhHeld=>?_)
    refine Qa 0 (h:=Qa 1 (h:=Qa 2 (h:=Qa 3 (h:=Qa 4 (h:=Qa 5 (h:=Qa 6 (h:=Qa 7 (h:=Qa 8 (h:=Qa 9 (h:=Qa 10 (h:=?_)))))))))))
    refine wpAnyH_ready (rs:=[11]) yl7 yl6 ?_
    refine .cons rfl (λKQ hKQ=>?_) ?_
    ·(go_simp;go_at_call 144;refine (zy3 (o:=6) (f:=vf) (n:=vn) HM.out.1 HM.out.2.1 HM.out.2.2 hvn).mono ?_;rintro e w1 ⟨rfl,hmk,hcm⟩)
     refine hKQ.out _ _ ?_ (λhHeld2=>?_)
     ·exact HS2.out _ hcm
     clear hKQ KQ
     refine wpAnyH_done yl7 ?_ _
     have q:=HF.out _ hmk hcm
     rw [<-hfold] at q
     exact q
    exact .nil
   ·simp only [stV]
    have hlb:=hnb.lt
    have bY:Below W'.heap.size W' (W'.alloc (.cells #[.string a.name, .int .i64 a.num] 196)):=(Below.refl _ W').alloc (Nat.le_refl _) _
    have nbY:=hnb.below bY
    have o1:=(bY.cell (p:=⟨w.heap.size+1+1,0,none⟩) hbb.lt).trans cb
    have o2:=nbY.cs.gv
    have o3:=nbY.free 16
    have hN0:=NbI.give (B:=W2.heap.size) ⟨⟨hnb,hbc,hbb⟩,hlow⟩ (Below.refl _ W') yl5
    have b2:Below (W'.setCell ⟨w.heap.size+1,16,none⟩ (.bool true)).heap.size (W'.setCell ⟨w.heap.size+1,16,none⟩ (.bool true)) ((W'.setCell ⟨w.heap.size+1,16,none⟩ (.bool true)).alloc (.cells #[.string a.name, .int .i64 a.num] 196)):=(Below.refl _ _).alloc (Nat.le_refl _) _
    have hN1:=NbI.step (B:=W2.heap.size) hN0.2.2 b2 (Chg.refl _ _) (hN0.2.2.1.1.below b2) yl5
    have hNb:=And.intro (hN0.1.trans hN1.1) (And.intro (hN0.2.1.trans hN1.2.1) hN1.2.2)
    have hq:NbI w c (((pre++[(⟨.inl (.inr (.inr (.inr (.inr (.inl a))))),he⟩:EnP (zy4 hs x))]).map (·.1)).foldl x.seen bk0) ((W'.setCell ⟨w.heap.size+1,16,none⟩ (.bool true)).alloc (.cells #[.string a.name, .int .i64 a.num] 196)):=by rw [hfold];exact hNb.2.2
    have HR:=hid (And.intro hNb.1 (And.intro hNb.2.1 hq))
    clear hnb nbY hNb hq hC bY hN0 hN1 b2
    gi_wp2
    exact ⟨HR.out.1,HR.out.2.1,HR.out.2.2⟩
   ·exact hlf.elim
   ·exact hlf.elim
   ·exact hlf.elim
theorem z3s(hA:Ar hs ms W):z3g W x c hs ms:=λ_ _ _ _ _ hl h hj h14 ⟨_,hf,he⟩=>(callsIn_wide (n:=6)).1 (z3r 6 (Nat.le_refl _) hA h hl hj h14 hf he)
end
end Go.Proofs.YtiiepngikigmbaaGreatDoor
