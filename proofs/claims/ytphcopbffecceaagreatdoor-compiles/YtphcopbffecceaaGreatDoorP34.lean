import Derived.Test.YtphcopbffecceaaGreatDoorP33
set_option maxRecDepth 100000
set_option maxHeartbeats 10000000
namespace Go.Proofs.YtphcopbffecceaaGreatDoor
open Go.RowKit
variable{po pt:Option Addr}{ct k:Nat}{w:World}{M:Nat->Nat->Prop}{v6:Value}{s:St}{x:ByteArray}
section
variable{w:World}{br bp bw cap L:Nat}{x y:ByteArray}{k q:Int}
theorem zpj{sv:Value}(c0:w.cell? ⟨br,0,none⟩=some (ptr bp))(c1:w.cell? ⟨br,1,none⟩=some sv)(p0:w.cell? ⟨bp,0,none⟩=some (.slice pt 0 ct))(w1:w.cell? ⟨bw,1,none⟩=some (.string x))(hL1:(1:Int)<(L:Int))(hk:0<=k)
  (KS:Hid (∀w',Below w.heap.size w w'->Cl 22 #[sv, .string x] w' λe w2=>e= .returned (.int .i64 k)/\w2=w')):
  Cl 23 #[ptr br, .slice (some ⟨bw,0,none⟩) L cap] w λe w'=>e= .returned (.int .i64 4)/\w'=w.drew:=by
 have hlt:br<w.heap.size:=blt c0
 have hlp:bp<w.heap.size:=blt p0
 have hlw:bw<w.heap.size:=blt w1
 go_enter Tryz.func23,Tryz.ntmps23
 go_wp2_with fail
 refine wp_region_held_drew (S:=(λw'=>w'.cell? ⟨br,1,none⟩=some sv/\w'.cell? ⟨bw,1,none⟩=some (.string x))) yak ?_ (λhHeld=>?_)
 ·(try dsimp only);go_keep
 refine Qa 0 (h:=Qa 1 (h:=Qa 2 (h:=Qa 3 (h:=Qa 4 (h:=Qa 5 (h:=Qa 6 (h:=?_)))))))
 refine tr [7] (.cons rfl (λKQ hKQ=>?_) .nil)
 (go_simp;go_at_call 22;refine (KS.out _ (Qi _ w)).mono ?_;rintro e w1 ⟨rfl,hw⟩;subst w1)
 refine hKQ.out _ _ ?_ (λhHeld=>?_)
 ·(try dsimp only);go_keep
 clear hKQ KQ
 refine Qa 8 (h:=?_)
 refine wpAnyH_done yak ?_ _
 go_wp2
 go_ret
 exact ⟨rfl,rfl⟩
variable{D:Nat->Prop}{lab:Nat->Nat×Nat}{m:DM}{d:DR}
theorem DMach.share_is(h:DMach D lab w m d)(hk:DOk d)(hD: ∀k,w.heap.size<=k->D k)(nw: ¬D bw)(w1:w.cell? ⟨bw,1,none⟩=some (.string x))(hq:1<=q/\q<=6)(hL:(L=2/\q=1)\/(L=3/\w.cell? ⟨bw,2,none⟩=some (.string y)/\Qk y=some q)):
  Cl 23 #[ptr m.br, .slice (some ⟨bw,0,none⟩) L cap] w (DPost D w m (Ge d x q)):=by
 unfold Ge
 have c0:=h.c0
 have hL1:(1:Int)<(L:Int):=by rcases hL with ⟨e,_⟩|⟨e,_⟩<;>omega
 obtain ⟨pt,ct,htv⟩: ∃pt ct,m.tv= .slice pt d.thr.length ct:=by
  rcases h.trow.2 with ⟨q1,q2⟩|⟨g,cap,cur,q1,_⟩
  ·exact ⟨none,0,by rw [q1,q2]⟩
  ·exact ⟨_,_,q1⟩
 have p0:=h.p0
 rw [htv] at p0
 by_cases ht:0<d.thr.length
 ·rw [if_pos ht]
  refine (zlc c0 p0 yai).mono ?_
  rintro e w' ⟨rfl,rfl⟩
  exact ⟨Chg.refl _ _,rfl⟩
 rw [if_neg ht]
 have ht0:d.thr=[]:=List.length_eq_zero_iff.1 yai
 have htl:d.thr.length=0:=by rw [ht0];rfl
 rw [htl] at p0
 have KS:=hid (h.inSh hk.s x)
 cases hs:Uh (d.shared.map (·.1)) x with
 |true=>
  obtain ⟨kk,hkk,_⟩:=zdc hs
  rw [hkk] at KS
  rw [if_pos (by rw [zit];exact hs)]
  refine (zpj c0 h.c1 p0 w1 hL1 yai KS).mono ?_
  rintro e w' ⟨rfl,rfl⟩
  exact ⟨(Chg.refl _ _).drew,rfl⟩
 |false=>
  rw [if_neg (by rw [zit,hs];simp)]
  have hbb:m.br≠m.bp:=λe=>by
   have:=h.lb.1
   rw [e,h.lp.1] at this
   cases this
  have lb:=Qd h.sh
  have lp:=Qd h.psh
  have nL: ∀k k' l l',lab k=l->lab k'=l'->l≠l'->k≠k':=λk k' l l' a b c e=>c (by rw [<-a,<-b,e])
  have hS:SlotsAt (λk j=>D k/\FM D lab m [(0,2),(0,3),(0,4)] [1,2,3] [1] k j) w w [(m.br,0,ptr m.bp),(m.bp,1, .int .i64 d.cells),(bw,1, .string x)] [(m.bp,1)] [ztv m.br m.sv d.shared.length (d.shared.map λp=> .string p.1),ztw m.br m.fv d.shared.length (d.shared.map λp=> .int .i64 p.2.1),ztx m.br m.zv d.shared.length (d.shared.map λp=> .int .i64 p.2.2)]:={
   chg:=Chg.refl _ _
   uniq:=λs hs q hq e=>by
    simp at hs hq
    rcases hs with rfl|rfl|rfl<;>rcases hq with rfl|rfl|rfl<;>first|rfl|(simp at e)
   cell:=λs hs=>by
    simp at hs
    rcases hs with rfl|rfl|rfl
    ·exact h.c1
    ·exact h.c2
    ·exact h.c3
   free:=λs hs=>by
    simp at hs
    rcases hs with rfl|rfl|rfl<;>exact h.free _
   row:=λs hs=>by
    simp at hs
    rcases hs with rfl|rfl|rfl
    ·exact h.srow
    ·exact h.frow
    ·exact h.zrow
   keep:=λq hq=>by
    simp at hq
    rcases hq with rfl|rfl|rfl
    ·exact h.c0
    ·exact h.p1
    ·exact w1
   fr:=λq hq=>by
    simp at hq
    subst hq
    exact ⟨lp,h.pfree 1⟩
   dis:=λs hs q hq e=>by
    simp at hs hq
    rcases hs with rfl|rfl|rfl<;>rcases hq with rfl|rfl|rfl
    ·exact absurd rfl e
    ·exact ⟨.inr yaj,λg a b=>nL _ _ _ _ (h.ls g a).1 (h.lf g b).1 yaj rfl⟩
    ·exact ⟨.inr yaj,λg a b=>nL _ _ _ _ (h.ls g a).1 (h.lz g b).1 yaj rfl⟩
    ·exact ⟨.inr yaj,λg a b=>nL _ _ _ _ (h.lf g a).1 (h.ls g b).1 yaj rfl⟩
    ·exact absurd rfl e
    ·exact ⟨.inr yaj,λg a b=>nL _ _ _ _ (h.lf g a).1 (h.lz g b).1 yaj rfl⟩
    ·exact ⟨.inr yaj,λg a b=>nL _ _ _ _ (h.lz g a).1 (h.ls g b).1 yaj rfl⟩
    ·exact ⟨.inr yaj,λg a b=>nL _ _ _ _ (h.lz g a).1 (h.lf g b).1 yaj rfl⟩
    ·exact absurd rfl e
   nb:=λs hs g hg=>by
    have hl:(lab g=(0,2)\/lab g=(0,3)\/lab g=(0,4))/\D g:=by
     simp at hs
     rcases hs with rfl|rfl|rfl
     ·exact ⟨.inl (h.ls g hg).1,(h.ls g hg).2⟩
     ·exact ⟨.inr (.inl (h.lf g hg).1),(h.lf g hg).2⟩
     ·exact ⟨.inr (.inr (h.lz g hg).1),(h.lz g hg).2⟩
    have hgb:g≠m.br:=λe=>by
     have:=hl.1
     rw [e,h.lb.1] at this
     simp at this
    have hgp:g≠m.bp:=λe=>by
     have:=hl.1
     rw [e,h.lp.1] at this
     simp at this
    refine ⟨λq hq=>?_,λq hq=>?_⟩
    ·simp at hq
     rcases hq with rfl|rfl|rfl<;>exact hgb
    ·simp at hq
     rcases hq with rfl|rfl|rfl
     ·exact hgb
     ·exact hgp
     ·exact λe=>nw ((show g=bw from e)▸hl.2)
   nk:=λs hs q hq=>by
    have hbw:m.br≠bw:=λe=>nw (e▸h.lb.2)
    simp at hs hq
    rcases hs with rfl|rfl|rfl<;>rcases hq with rfl|rfl|rfl<;>first|exact .inl hbb|exact .inl hbw|exact .inr yaj
   old:=λs hs g hg _ j=>by
    simp at hs
    rcases hs with rfl|rfl|rfl
    ·exact ⟨(h.ls g hg).2,λ_=> .inl (by rw [(h.ls g hg).1];simp)⟩
    ·exact ⟨(h.lf g hg).2,λ_=> .inl (by rw [(h.lf g hg).1];simp)⟩
    ·exact ⟨(h.lz g hg).2,λ_=> .inl (by rw [(h.lz g hg).1];simp)⟩
   slot:=λs hs _=>by
    simp at hs
    rcases hs with rfl|rfl|rfl<;>exact ⟨h.lb.2,λ_=> .inr (.inl ⟨rfl,by simp⟩)⟩
   org:=λs hs g hg=>by
    simp at hs
    rcases hs with rfl|rfl|rfl<;>exact .inl hg}
  refine (zpi hS p0 hbb ⟨h.lp.2,λ_=> .inr (.inr ⟨rfl,by simp⟩)⟩ hk.s hk.c (by have:=zdd hs;omega) hq hL KS).mono ?_
  rintro e w' ⟨rfl,g1,c1,g2,c2,g3,c3,hT⟩
  have n1:=(hT.dis _ (List.mem_cons_self ..) _ (List.mem_cons_of_mem _ (List.mem_cons_self ..)) ybr).2 g1 rfl
  have n2:=(hT.dis _ (List.mem_cons_self ..) _ (List.mem_cons_of_mem _ (List.mem_cons_of_mem _ (List.mem_cons_self ..))) ybr).2 g1 rfl
  have n3:=(hT.dis _ (List.mem_cons_of_mem _ (List.mem_cons_self ..)) _ (List.mem_cons_of_mem _ (List.mem_cons_of_mem _ (List.mem_cons_self ..))) ybr).2 g2 rfl
  have i1:=List.mem_cons_self (a:=(ztv m.br m.sv d.shared.length (d.shared.map λp=>Value.string p.1)).more g1 c1 (.string x)) (l:=[(ztw m.br m.fv d.shared.length (d.shared.map λp=>Value.int .i64 p.2.1)).more g2 c2 (.int .i64 d.cells),(ztx m.br m.zv d.shared.length (d.shared.map λp=>Value.int .i64 p.2.2)).more g3 c3 (.int .i64 q)])
  have i2:=List.mem_cons_of_mem ((ztv m.br m.sv d.shared.length (d.shared.map λp=>Value.string p.1)).more g1 c1 (.string x)) (List.mem_cons_self (a:=(ztw m.br m.fv d.shared.length (d.shared.map λp=>Value.int .i64 p.2.1)).more g2 c2 (.int .i64 d.cells)) (l:=[(ztx m.br m.zv d.shared.length (d.shared.map λp=>Value.int .i64 p.2.2)).more g3 c3 (.int .i64 q)]))
  have i3:=List.mem_cons_of_mem ((ztv m.br m.sv d.shared.length (d.shared.map λp=>Value.string p.1)).more g1 c1 (.string x)) (List.mem_cons_of_mem ((ztw m.br m.fv d.shared.length (d.shared.map λp=>Value.int .i64 p.2.1)).more g2 c2 (.int .i64 d.cells)) (List.mem_cons_self (a:=(ztx m.br m.zv d.shared.length (d.shared.map λp=>Value.int .i64 p.2.2)).more g3 c3 (.int .i64 q)) (l:=[])))
  obtain ⟨lab',h'⟩:=h.shareF hD ht0 (x:=x) (n:=q) (hT.row _ i1) (hT.row _ i2) (hT.row _ i3) (hT.cell _ i1) (hT.cell _ i2) (hT.cell _ i3) (hT.keep _ (List.mem_cons_self ..)) (hT.org _ i1 g1 rfl) (hT.org _ i2 g2 rfl) (hT.org _ i3 g3 rfl) (λe=>n1 ybs) (λe=>n2 ybs) (λe=>n3 ybs) (hT.chg.mono λ_ _ _ e=>e.2)
  exact ⟨hT.chg.mono λk j hk e=>e.1,rfl,lab',{m with sv:= .slice (some ⟨g1,0,none⟩) (d.shared.length+1) c1,fv:= .slice (some ⟨g2,0,none⟩) (d.shared.length+1) c2,zv:= .slice (some ⟨g3,0,none⟩) (d.shared.length+1) c3},rfl,rfl,h'⟩
end
theorem ziy:(Tryz.prog.info? 4).map (λi=>(i.zero,i.size,i.bytes))=some (some (.bool false),1,1):=yak
theorem zpk:(Tryz.prog.info? 59).map (λi=>(i.zero,i.size,i.bytes))=some (some (.slice none 0 0),1,24):=yak
theorem zpl:(Tryz.prog.info? 40).map (λi=>(i.zero,i.size,i.bytes))=some (some (.slice none 0 0),1,24):=yak
def Od(n:Nat):Array Value:=madeCells #[.bool false] n
theorem zlg(n:Nat)(hn:n<100000000)(w:World):(Instr.makeSlice 40 (.int .i64 n) (.int .i64 n)).run Tryz.prog w= .ok (.slice (some ⟨w.heap.size,0,none⟩) n n) (w.alloc (.cells (Od n) 4)):=by
 obtain ⟨i0,hi,hz0,hz1,hz2⟩:=info_parts ziy
 have:=run_make (P:=Tryz.prog) w 40 4 i0 (.bool false) Tryz.underlying40 hi hz0 .i64 .i64 n n yai (Int.le_refl _) (by rw [hz2];omega) yai
 rw [this,hz1]
 simp [Od]
 rfl
abbrev zty(b:Nat)(v:Value)(n:Nat)(xs:List Value):Slot:=⟨0,b,0,59,v,n,xs,v⟩
abbrev zp8(b:Nat)(v:Value)(n:Nat)(xs:List Value):Slot:=⟨1,b,2,40,v,n,xs,v⟩
abbrev zp9(b:Nat)(v:Value)(n:Nat)(xs:List Value):Slot:=⟨2,b,3,4,v,n,xs,v⟩
def KBAt(w:World)(kb c:Nat):Prop:=w.shape? kb=some (4,c)/\ ∀j,w.frozen? ⟨kb,j,none⟩=false
theorem KBAt.keep{w':World}{kb c:Nat}(h:KBAt w kb c)(hc:Chg M w w'):KBAt w' kb c:=
 ⟨(hc.shape _ (Qd h.1)).trans h.1,λj=>(hc.frozen _ _ (Qd h.1)).trans (h.2 j)⟩
theorem zxv(W:World)(a b:Obj):((W.alloc a).alloc b).drew.heap.size=W.heap.size+2:=by
 show ((W.alloc a).alloc b).heap.size=_
 simp
theorem z36(W:World)(c:Nat)(o:Obj):KBAt ((W.drew.alloc (.cells (Od c) 4)).alloc o) W.heap.size c:=by
 have h:KBAt (W.drew.alloc (.cells (Od c) 4)) W.heap.size c:=by
  have e:(W.drew.alloc (.cells (Od c) 4)).heap[W.heap.size]?=some (.cells (Od c) 4):=World.alloc_heap_new W.drew _
  refine ⟨?_,λj=>?_⟩
  ·unfold World.shape?
   rw [e]
   simp [Od,size_madeCells]
  ·unfold World.frozen?
   rw [e]
   simp
 exact h.keep ((Chg.refl (λ_ _=>False) _).alloc _)
theorem zlh{W:World}{br bp n1 n2 n3:Nat}{K:List (Nat×Nat×Value)}{v1 v2 v3 a1 a2 a3 v4:Value}{x1 x2 x3:List Value}(h:SlotsAt M w W K [(br,4),(br,6)] [⟨0,bp,0,59,v1,n1,x1,a1⟩,⟨1,bp,2,40,v2,n2,x2,a2⟩,⟨2,bp,3,4,v3,n3,x3,a3⟩])(k4:(br,4,v4)∈K)(k6:(br,6,v6)∈K)(m4:M br 4)(m6:M br 6)(hbb:br≠bp):
  SlotsAt M w ((W.setCell ⟨br,4,none⟩ (.slice none 0 0)).setCell ⟨br,6,none⟩ (.int .i64 0)) [(br,4, .slice none 0 0),(br,6, .int .i64 0)] [(br,4),(br,6)] [⟨0,bp,0,59,v1,n1,x1,a1⟩,⟨1,bp,2,40,v2,n2,x2,a2⟩,⟨2,bp,3,4,v3,n3,x3,a3⟩]:=by
 have hb: ∀o,∀s∈[(⟨0,bp,0,59,v1,n1,x1,a1⟩:Slot),⟨1,bp,2,40,v2,n2,x2,a2⟩,⟨2,bp,3,4,v3,n3,x3,a3⟩],(s.b≠br\/s.o≠o)/\ ∀g,s.v.ownBlock=some g->g≠br:=λo s hs=>⟨.inl (by simp at hs;rcases hs with rfl|rfl|rfl<;>exact hbb.symm),λg hg=>(h.nb s hs g hg).2 _ k4⟩
 have c6:(W.setCell ⟨br,4,none⟩ (.slice none 0 0)).cell? ⟨br,6,none⟩=some v6:=(Qb (.inr yai)).trans (h.keep _ k6)
 refine (h.set (b:=br) (o:=4) (v:= .slice none 0 0) (K':=[(br,4, .slice none 0 0)]) (h.keep _ k4) (hb 4) (λ_=>m4) (λq hq=> .inr (by simpa using hq))).set (b:=br) (o:=6) (v:= .int .i64 0) c6 (hb 6) (λ_=>m6) (λq hq=>?_)
 simp at hq
 rcases hq with rfl|rfl
 ·exact .inl ⟨by simp, .inr yaj⟩
 ·exact .inr rfl
section
variable{w:World}{br bp bw cap n L c co:Nat}{M:Nat->Nat->Prop}
theorem ztz(c0:w.cell? ⟨br,0,none⟩=some (ptr bp))(p0:w.cell? ⟨bp,0,none⟩=some (.slice pt n ct))(c5:w.cell? ⟨br,5,none⟩=some (.slice po k co))(hk:0<(k:Int))(hL0:(0:Int)<(L:Int))(w0:w.cell? ⟨bw,0,none⟩=some (.string Qt)):
  Cl 12 #[ptr br, .slice (some ⟨bw,0,none⟩) L cap] w λe w'=>e= .returned (.int .i64 3)/\w'=w:=by
 have hlt:br<w.heap.size:=blt c0
 have hlp:bp<w.heap.size:=blt p0
 have hlw:bw<w.heap.size:=blt w0
 have e1:(Qt.toList==[115,104,97,114,101,100])=false:=yak
 have e2:(Qt.toList==[116,104,114,101,97,100])=true:=yak
 go_enter Tryz.func12,Tryz.ntmps12
 go_wp2
 go_ret
 exact ⟨rfl,rfl⟩
theorem zli{tv cv pv lv:Value}{xs1 xs2 xs3:List Value}(htv:tv= .slice pt n ct)(h:SlotsAt M w w [(br,0,ptr bp),(bp,1, .int .i64 (c:Int)),(br,5, .slice po 0 co),(br,4,lv),(br,6,v6)] [(br,4),(br,6)] [zty bp tv n xs1,zp8 bp cv n xs2,zp9 bp pv n xs3])(hbb:br≠bp)(hM:M br 4/\M br 6)(hn:n<1000000)(hc:c<100000000)(hL0:(0:Int)<(L:Int))(w0:w.cell? ⟨bw,0,none⟩=some (.string Qt)):
  Cl 12 #[ptr br, .slice (some ⟨bw,0,none⟩) L cap] w λe w'=>e= .returned (.int .i64 0)/\ ∃g1 c1 g2 c2 g3 c3 kb,SlotsAt M w w' [(br,4, .slice none 0 0),(br,6, .int .i64 0)] [(br,4),(br,6)] [(zty bp tv n xs1).more g1 c1 (.slice none 0 0),(zp8 bp cv n xs2).more g2 c2 (.slice (some ⟨kb,0,none⟩) c c),(zp9 bp pv n xs3).more g3 c3 (.bool false)]/\KBAt w' kb c/\w.heap.size<=kb/\g1≠kb/\g2≠kb/\g3≠kb:=by
 have c0:=h.keep (br,0,ptr bp) yaj
 have c5:=h.keep (br,5, .slice po 0 co) yaj
 have t0:=h.cell (zty bp tv n xs1) yaj
 dsimp only at c0 c5 t0
 have t0':w.cell? ⟨bp,0,none⟩=some (.slice pt n ct):=by rw [t0,htv]
 have hlt:br<w.heap.size:=blt c0
 have hlp:bp<w.heap.size:=blt t0
 have hlw:bw<w.heap.size:=blt w0
 have e1:(Qt.toList==[115,104,97,114,101,100])=false:=yak
 have e2:(Qt.toList==[116,104,114,101,97,100])=true:=yak
 have HX:=hid (h.below (Qi _ w))
 have HW:Hid (∀x,Below w.drew.heap.size w.drew (w.drew.alloc (.cells #[x] 59))):=hid λx=>(Below.refl _ _).alloc (Nat.le_refl _) _
 obtain ⟨i0,hi0,hz0,hz1,hz2⟩:=info_parts zpk
 obtain ⟨j0,hj0,hy0,hy1,hy2⟩:=info_parts zpl
 obtain ⟨k0,hk0,hx0,hx1,hx2⟩:=info_parts ziy
 have hl1:n+1<=maxLen:=yap
 have hl2:(n+1)*24<=140737488355328:=yai
 have hl3:(n+1)*1<=140737488355328:=yai
 have hmk:=zlg c hc
 have HM:=hid hM
 have HTV:=hid htv
 have HBB:=hid hbb
 clear h hM hc t0 htv hbb
 go_enter Tryz.func12,Tryz.ntmps12
 go_wp2_with fail
 refine wp_region_held_drew (S:=(λw'=>w'.cell? ⟨br,0,none⟩=some (ptr bp))) yak ?_ (λhHeld=>?_)
 ·(try dsimp only);go_keep
 refine Qa 0 (h:=Qa 1 (h:=Qa 2 (h:=Qa 3 (h:=Qa 4 (h:=Qa 5 (h:=Qa 6 (h:=Qa 7 (h:=Qa 8 (h:=Qa 9 (h:=?_))))))))))
 refine tr [10,11] (.cons rfl (λKQ hKQ=>?_) (.cons rfl (λKQ hKQ=>?_) .nil))
 go_simp
 refine hKQ.out _ _ ?_ (λhHeld=>?_)
 ·(try dsimp only);exact hHeld
 clear hKQ KQ
 refine tr [11] (.cons rfl (λKQ hKQ=>?_) .nil)
 go_simp
 rotate_left
 go_simp
 refine hKQ.out _ _ ?_ (λhHeld=>?_)
 ·(try dsimp only);go_keep
 clear hKQ KQ
 refine tr [10] (.cons rfl (λKQ hKQ=>?_) .nil)
 go_simp
 rotate_left
 all_goals
  refine hKQ.out _ _ ?_ (λhHeld=>?_)
  ·(try dsimp only);go_keep
  clear hKQ KQ
  refine tr [12] (.cons rfl (λKQ hKQ=>?_) .nil)
  (refine Je rfl (.tmp 45) (.tmp 46) 38 rfl 59 i0 (.slice none 0 0) 1 24 yal Tryz.underlying38 hi0 hz0 hz1 hz2 rfl tv n xs1 (by rw [HTV.out];rfl) ((HX.out.below (HW.out _)).row (zty bp tv n xs1) yaj) ⟨w.heap.size,0,none⟩ [.slice none 0 0] rfl rfl (cell_one_new _ _ _) yax hl1 hl2 ?_;intro g1 c1 w3 ho hch hg;have H1:=hid (SlotsAt.push0 HX.out rfl rfl rfl (HW.out _) ho hch hg);have mm:=HX.out.mid (s:=zty bp tv n xs1) yaj (HW.out _) hch;have d1:=(mm.1 (zty bp tv n xs1) yaj).1;have d2:=(mm.1 (zty bp tv n xs1) yaj).2;have d3:=mm.2 (br,0,ptr bp) yaj;dsimp only at d1 d2 d3;clear ho hch hg mm)
  refine hKQ.out _ _ ?_ (λhHeld=>?_)
  ·(try dsimp only);exact d3
  clear hKQ KQ
  refine Qa 13 (h:=Qa 14 (h:=?_))
  refine tr [15] (.cons rfl (λKQ hKQ=>?_) .nil)
  go_simp
  refine hKQ.out _ _ ?_ (λhHeld=>?_)
  ·(try dsimp only);exact H1.out.keep (br,0,ptr bp) yaj
  clear hKQ KQ
  refine wpAnyH_done yak ?_ _
  generalize hW1:World.setCell w3 ⟨bp,0,none⟩ (.slice (some ⟨g1,0,none⟩) (n+1) c1)=W1 at H1⊢
  have q0:=H1.out.keep (br,0,ptr bp) yaj
  have q1:=H1.out.keep (bp,1, .int .i64 (c:Int)) yaj
  have q2:=H1.out.cell (zp8 bp cv n xs2) yaj
  dsimp only at q0 q1 q2
  have l0:br<W1.heap.size:=blt q0
  have l1:bp<W1.heap.size:=blt q1
  have HB1:Hid (Below W1.heap.size W1 ((W1.drew.alloc (.cells (Od c) 4)).alloc (.cells #[.slice (some ⟨W1.heap.size,0,none⟩) c c] 40))):=hid (((Qi _ W1).alloc (Nat.le_refl _) _).alloc yaj _)
  have HU:Hid (∀j u',[Value.slice (some ⟨W1.heap.size,0,none⟩) c c][j]?=some u'->((W1.drew.alloc (.cells (Od c) 4)).alloc (.cells #[.slice (some ⟨W1.heap.size,0,none⟩) c c] 40)).cell? ((⟨W1.heap.size+1,0,none⟩:Addr).add j)=some u'):=hid (by
   have:=cell_one_new (W1.drew.alloc (.cells (Od c) 4)) (.slice (some ⟨W1.heap.size,0,none⟩) c c) 40
   simpa using this)
  have HKB:Hid (KBAt ((W1.drew.alloc (.cells (Od c) 4)).alloc (.cells #[.slice (some ⟨W1.heap.size,0,none⟩) c c] 40)) W1.heap.size c):=hid (z36 W1 c _)
  have HG1:Hid (g1<W1.heap.size):=hid ((H1.out.row _ (List.mem_cons_self ..)).lt g1 rfl).2
  have HSZ:Hid (w.heap.size<=W1.heap.size):=hid H1.out.chg.size
  clear hW1 hHeld d1 d2 d3
  go_wp2_with fail
  refine wp_region_held_drew (S:=(λw'=>w'.cell? ⟨br,0,none⟩=some (ptr bp)/\w'.cell? ⟨bp,1,none⟩=some (.int .i64 (c:Int)))) yak ?_ (λhHeld=>?_)
  ·(try dsimp only);go_keep
  refine Qa 0 (h:=Qa 1 (h:=Qa 2 (h:=Qa 3 (h:=Qa 4 (h:=Qa 5 (h:=Qa 6 (h:=Qa 7 (h:=Qa 8 (h:=Qa 9 (h:=Qa 11 (h:=Qa 12 (h:=Qa 13 (h:=Qa 14 (h:=Qa 15 (h:=Qa 16 (h:=Qa 17 (h:=?_)))))))))))))))))
  refine tr [10,18] (.cons rfl (λKQ hKQ=>?_) (.cons rfl (λKQ hKQ=>?_) .nil))
  go_simp
  refine hKQ.out _ _ ?_ (λhHeld=>?_)
  ·(try dsimp only);exact hHeld
  clear hKQ KQ
  refine tr [18] (.cons rfl (λKQ hKQ=>?_) .nil)
  go_simp
  refine hKQ.out _ _ ?_ (λhHeld=>?_)
  ·(try dsimp only);go_keep
  clear hKQ KQ
  refine tr [19] (.cons rfl (λKQ hKQ=>?_) .nil)
  go_simp
  rotate_left
  go_simp
  refine hKQ.out _ _ ?_ (λhHeld=>?_)
  ·(try dsimp only);go_keep
  clear hKQ KQ
  refine tr [10,19] (.cons rfl (λKQ hKQ=>?_) (.cons rfl (λKQ hKQ=>?_) .nil))
  go_simp
  refine hKQ.out _ _ ?_ (λhHeld=>?_)
  ·(try dsimp only);exact hHeld
  clear hKQ KQ
  refine tr [19] (.cons rfl (λKQ hKQ=>?_) .nil)
  go_simp
  rotate_left
  go_simp
  refine hKQ.out _ _ ?_ (λhHeld=>?_)
  ·(try dsimp only);go_keep
  clear hKQ KQ
  refine tr [10] (.cons rfl (λKQ hKQ=>?_) .nil)
  go_simp
  rotate_left
  all_goals
   refine hKQ.out _ _ ?_ (λhHeld=>?_)
   ·(try dsimp only);go_keep
   clear hKQ KQ
   refine tr [20] (.cons rfl (λKQ hKQ=>?_) .nil)
   (refine Je rfl (.tmp 60) (.tmp 69) 39 rfl 40 j0 (.slice none 0 0) 1 24 yal Tryz.underlying39 hj0 hy0 hy1 hy2 rfl cv n xs2 rfl ((H1.out.below HB1.out).row (zp8 bp cv n xs2) yaj) ⟨W1.heap.size+1,0,none⟩ [.slice (some ⟨W1.heap.size,0,none⟩) c c] rfl rfl HU.out yax hl1 hl2 ?_;intro g2 c2 w4 ho hch hg;have H2:=hid (SlotsAt.push1 H1.out rfl rfl rfl HB1.out ho hch hg);have mm:=H1.out.mid (s:=zp8 bp cv n xs2) yaj HB1.out hch;have d1:=(mm.1 (zp8 bp cv n xs2) yaj).1;have d2:=(mm.1 (zp8 bp cv n xs2) yaj).2;have d3:=mm.2 (br,0,ptr bp) yaj;have d4:=mm.2 (bp,1, .int .i64 (c:Int)) yaj;dsimp only at d1 d2 d3 d4;have HK2:=hid (HKB.out.keep hch);have HG2:Hid (g2≠W1.heap.size):=hid (by rcases hg with e|e;exact (by have:=((H1.out.row (zp8 bp cv n xs2) yaj).lt g2 e).2;omega);exact (by rw [e,zxv];omega));clear ho hch hg mm)
   refine hKQ.out _ _ ?_ (λhHeld=>?_)
   ·(try dsimp only);exact ⟨d3,d4⟩
   clear hKQ KQ
   refine Qa 21 (h:=Qa 22 (h:=?_))
   refine tr [23] (.cons rfl (λKQ hKQ=>?_) .nil)
   go_simp
   refine hKQ.out _ _ ?_ (λhHeld=>?_)
   ·(try dsimp only);exact ⟨H2.out.keep (br,0,ptr bp) yaj,H2.out.keep (bp,1, .int .i64 (c:Int)) yaj⟩
   clear hKQ KQ
   refine wpAnyH_done yak ?_ _
   generalize hW2:World.setCell w4 ⟨bp,2,none⟩ (.slice (some ⟨g2,0,none⟩) (n+1) c2)=W2 at H2⊢
   have HK3:Hid (KBAt W2 W1.heap.size c):=hid (by rw [<-hW2];exact HK2.out.keep ((Chg.refl (λk j=>k=bp/\j=2) w4).setCell (λ_=>⟨rfl,rfl⟩) _))
   have r0:=H2.out.keep (br,0,ptr bp) yaj
   have r3:=H2.out.cell (zp9 bp pv n xs3) yaj
   dsimp only at r0 r3
   have m0:br<W2.heap.size:=blt r0
   have m1:bp<W2.heap.size:=blt r3
   have HB2:Hid (∀x,Below W2.heap.size W2 (W2.drew.alloc (.cells #[x] 4))):=hid λx=>(Qi _ W2).alloc (Nat.le_refl _) _
   clear hW2 hHeld d1 d2 d3 d4 q0 q1 q2
   go_wp2_with fail
   refine wp_region_held_drew (S:=(λw'=>w'.cell? ⟨br,0,none⟩=some (ptr bp))) yak ?_ (λhHeld=>?_)
   ·(try dsimp only);go_keep
   refine Qa 0 (h:=Qa 1 (h:=Qa 2 (h:=Qa 3 (h:=Qa 4 (h:=Qa 5 (h:=Qa 6 (h:=Qa 7 (h:=Qa 8 (h:=Qa 9 (h:=?_))))))))))
   refine tr [10,11] (.cons rfl (λKQ hKQ=>?_) (.cons rfl (λKQ hKQ=>?_) .nil))
   go_simp
   refine hKQ.out _ _ ?_ (λhHeld=>?_)
   ·(try dsimp only);exact hHeld
   clear hKQ KQ
   refine tr [11] (.cons rfl (λKQ hKQ=>?_) .nil)
   go_simp
   rotate_left
   go_simp
   refine hKQ.out _ _ ?_ (λhHeld=>?_)
   ·(try dsimp only);go_keep
   clear hKQ KQ
   refine tr [10] (.cons rfl (λKQ hKQ=>?_) .nil)
   go_simp
   rotate_left
   all_goals
    refine hKQ.out _ _ ?_ (λhHeld=>?_)
    ·(try dsimp only);go_keep
    clear hKQ KQ
    refine tr [12] (.cons rfl (λKQ hKQ=>?_) .nil)
    (refine Je rfl (.tmp 83) (.tmp 84) 40 rfl 4 k0 (.bool false) 1 1 yal Tryz.underlying40 hk0 hx0 hx1 hx2 rfl pv n xs3 rfl ((H2.out.below (HB2.out _)).row (zp9 bp pv n xs3) yaj) ⟨W2.heap.size,0,none⟩ [.bool false] rfl rfl (cell_one_new _ _ _) yax hl1 hl3 ?_;intro g3 c3 w5 ho hch hg;have H3:=hid (SlotsAt.push2 H2.out rfl rfl rfl (HB2.out _) ho hch hg);have mm:=H2.out.mid (s:=zp9 bp pv n xs3) yaj (HB2.out _) hch;have d1:=(mm.1 (zp9 bp pv n xs3) yaj).1;have d2:=(mm.1 (zp9 bp pv n xs3) yaj).2;have d3:=mm.2 (br,0,ptr bp) yaj;dsimp only at d1 d2 d3;have HK4:=hid ((HK3.out.keep (Chg.of_below (M:=λ_ _=>False) (HB2.out (.bool false)))).keep hch);have HG3:Hid (g3≠W1.heap.size):=hid (by rcases hg with e|e;exact (by have:=((H1.out.row (zp9 bp pv n xs3) yaj).lt g3 e).2;omega);rw [e];have:=Qd HK3.out.1;simp;omega);clear ho hch hg mm)
    refine hKQ.out _ _ ?_ (λhHeld=>?_)
    ·(try dsimp only);exact d3
    clear hKQ KQ
    refine Qa 13 (h:=Qa 14 (h:=?_))
    refine tr [15] (.cons rfl (λKQ hKQ=>?_) .nil)
    go_simp
    refine hKQ.out _ _ ?_ (λhHeld=>?_)
    ·(try dsimp only);exact H3.out.keep (br,0,ptr bp) yaj
    clear hKQ KQ
    refine wpAnyH_done yak ?_ _
    generalize hW3:World.setCell w5 ⟨bp,3,none⟩ (.slice (some ⟨g3,0,none⟩) (n+1) c3)=W3 at H3⊢
    have HK5:Hid (KBAt W3 W1.heap.size c):=hid (by rw [<-hW3];exact HK4.out.keep ((Chg.refl (λk j=>k=bp/\j=3) w5).setCell (λ_=>⟨rfl,rfl⟩) _))
    have u4:=H3.out.keep (br,4,lv) yaj
    have u6:=H3.out.keep (br,6,v6) yaj
    have f4:=(H3.out.fr (br,4) yaj).2
    have f6:=(H3.out.fr (br,6) yaj).2
    dsimp only at u4 u6 f4 f6
    have n0:br<W3.heap.size:=blt u4
    clear hW3 hHeld d1 d2 d3 r0 r3
    go_wp2
    go_ret
    exact ⟨rfl,g1,c1,g2,c2,g3,c3,W1.heap.size,zlh H3.out (v4:=lv) (v6:=v6) yaj yaj HM.out.1 HM.out.2 HBB.out,HK5.out.keep (((Chg.refl (λ_ _=>True) W3).setCell (λ_=>trivial) _).setCell (λ_=>trivial) _),HSZ.out,by have:=HG1.out;omega,HG2.out,HG3.out⟩
end
theorem zt0{o n:Nat}{t:TypeId}{v:Value}{xs:List Value}(h:w.ownsRow o t k v n xs): ∃p c,v= .slice p n c:=z9t
section
variable{w:World}{bw cap L:Nat}{D:Nat->Prop}{lab:Nat->Nat×Nat}{m:DM}{d:DR}
theorem DMach.thread_is(h:DMach D lab w m d)(hk:DOk d)(hD: ∀k,w.heap.size<=k->D k)(hL0:(0:Int)<(L:Int))(w0:w.cell? ⟨bw,0,none⟩=some (.string Qt)):
  Cl 12 #[ptr m.br, .slice (some ⟨bw,0,none⟩) L cap] w (DPost D w m (Gx d)):=by
 unfold Gx
 have c0:=h.c0
 obtain ⟨pt,ct,htv⟩:=zt0 h.trow
 obtain ⟨po,co,hov⟩:=zt0 h.orow
 have p0:=h.p0
 have c5:=h.c5
 rw [htv] at p0
 rw [hov] at c5
 by_cases ho:0<d.opn.length
 ·rw [if_pos ho]
  refine (ztz c0 p0 c5 yai hL0 w0).mono ?_
  rintro e w' ⟨rfl,rfl⟩
  exact ⟨Chg.refl _ _,rfl⟩
 rw [if_neg ho]
 have ho0:d.opn.length=0:=yai
 rw [ho0] at c5
 obtain ⟨c,hc⟩: ∃c:Nat,d.cells=(c:Int):=⟨d.cells.toNat,by have:=hk.c;omega⟩
 have hct:d.cells.toNat=c:=yai
 have hbb:m.br≠m.bp:=λe=>by
  have:=h.lb.1
  rw [e,h.lp.1] at this
  cases this
 have lb:=Qd h.sh
 have lp:=Qd h.psh
 have nL: ∀k k' l l',lab k=l->lab k'=l'->l≠l'->k≠k':=λk k' l l' a b c e=>c (by rw [<-a,<-b,e])
 have hS:SlotsAt (λk j=>D k/\FM D lab m [(0,7),(0,8),(0,9)] [4,6] [0,2,3] k j) w w [(m.br,0,ptr m.bp),(m.bp,1, .int .i64 (c:Int)),(m.br,5, .slice po 0 co),(m.br,4,m.lv),(m.br,6, .int .i64 d.stmts)] [(m.br,4),(m.br,6)] [zty m.bp m.tv d.thr.length (m.ts.map DT.nv),zp8 m.bp m.cv d.thr.length (m.ts.map λt=> .slice (some ⟨t.kb,0,none⟩) d.cells.toNat d.cells.toNat),zp9 m.bp m.pv d.thr.length (m.ps.map .bool)]:={
  chg:=Chg.refl _ _
  uniq:=λs hs q hq e=>by
   simp at hs hq
   rcases hs with rfl|rfl|rfl<;>rcases hq with rfl|rfl|rfl<;>first|rfl|(simp at e)
  cell:=λs hs=>by
   simp at hs
   rcases hs with rfl|rfl|rfl
   ·exact h.p0
   ·exact h.p2
   ·exact h.p3
  free:=λs hs=>by
   simp at hs
   rcases hs with rfl|rfl|rfl<;>exact h.pfree _
  row:=λs hs=>by
   simp at hs
   rcases hs with rfl|rfl|rfl
   ·exact h.trow
   ·exact h.crow
   ·exact h.prow
  keep:=λq hq=>by
   simp at hq
   rcases hq with rfl|rfl|rfl|rfl|rfl
   ·exact h.c0
   ·rw [<-hc];exact h.p1
   ·exact c5
   ·exact h.c4
   ·exact h.c6
  fr:=λq hq=>by
   simp at hq
   rcases hq with rfl|rfl
   ·exact ⟨lb,h.free 4⟩
   ·exact ⟨lb,h.free 6⟩
  dis:=λs hs q hq e=>by
   simp at hs hq
   rcases hs with rfl|rfl|rfl<;>rcases hq with rfl|rfl|rfl
   ·exact absurd rfl e
   ·exact ⟨.inr yaj,λg a b=>nL _ _ _ _ (h.lt g a).1 (h.lc g b).1 yaj rfl⟩
   ·exact ⟨.inr yaj,λg a b=>nL _ _ _ _ (h.lt g a).1 (h.lq g b).1 yaj rfl⟩
   ·exact ⟨.inr yaj,λg a b=>nL _ _ _ _ (h.lc g a).1 (h.lt g b).1 yaj rfl⟩
   ·exact absurd rfl e
   ·exact ⟨.inr yaj,λg a b=>nL _ _ _ _ (h.lc g a).1 (h.lq g b).1 yaj rfl⟩
   ·exact ⟨.inr yaj,λg a b=>nL _ _ _ _ (h.lq g a).1 (h.lt g b).1 yaj rfl⟩
   ·exact ⟨.inr yaj,λg a b=>nL _ _ _ _ (h.lq g a).1 (h.lc g b).1 yaj rfl⟩
   ·exact absurd rfl e
  nb:=λs hs g hg=>by
   have hl:lab g=(0,7)\/lab g=(0,8)\/lab g=(0,9):=by
    simp at hs
    rcases hs with rfl|rfl|rfl
    ·exact .inl (h.lt g hg).1
    ·exact .inr (.inl (h.lc g hg).1)
    ·exact .inr (.inr (h.lq g hg).1)
   have hgb:g≠m.br:=λe=>by
    rw [e,h.lb.1] at hl
    simp at hl
   have hgp:g≠m.bp:=λe=>by
    rw [e,h.lp.1] at hl
    simp at hl
   refine ⟨λq hq=>?_,λq hq=>?_⟩
   ·simp at hq
    rcases hq with rfl|rfl|rfl<;>exact hgp
   ·simp at hq
    rcases hq with rfl|rfl|rfl|rfl|rfl<;>first|exact hgb|exact hgp
  nk:=λs hs q hq=>by
   simp at hs hq
   rcases hs with rfl|rfl|rfl<;>rcases hq with rfl|rfl|rfl|rfl|rfl<;>first|exact .inl hbb.symm|exact .inr yaj
  old:=λs hs g hg _ j=>by
   simp at hs
   rcases hs with rfl|rfl|rfl
   ·exact ⟨(h.lt g hg).2,λ_=> .inl (by rw [(h.lt g hg).1];simp)⟩
   ·exact ⟨(h.lc g hg).2,λ_=> .inl (by rw [(h.lc g hg).1];simp)⟩
   ·exact ⟨(h.lq g hg).2,λ_=> .inl (by rw [(h.lq g hg).1];simp)⟩
  slot:=λs hs _=>by
   simp at hs
   rcases hs with rfl|rfl|rfl<;>exact ⟨h.lp.2,λ_=> .inr (.inr ⟨rfl,by simp⟩)⟩
  org:=λs hs g hg=>by
   simp at hs
   rcases hs with rfl|rfl|rfl<;>exact .inl hg}
 refine (zli htv hS hbb ⟨⟨h.lb.2,λ_=> .inr (.inl ⟨rfl,by simp⟩)⟩,⟨h.lb.2,λ_=> .inr (.inl ⟨rfl,by simp⟩)⟩⟩ (by have:=hk.t;omega) (by have:=hk.c;omega) hL0 w0).mono ?_
 rintro e w' ⟨rfl,g1,c1,g2,c2,g3,c3,kb,hT,hKB,hkl,e1,e2,e3⟩
 have n1:=(hT.dis _ (List.mem_cons_self ..) _ (List.mem_cons_of_mem _ (List.mem_cons_self ..)) ybr).2 g1 rfl
 have n2:=(hT.dis _ (List.mem_cons_self ..) _ (List.mem_cons_of_mem _ (List.mem_cons_of_mem _ (List.mem_cons_self ..))) ybr).2 g1 rfl
 have n3:=(hT.dis _ (List.mem_cons_of_mem _ (List.mem_cons_self ..)) _ (List.mem_cons_of_mem _ (List.mem_cons_of_mem _ (List.mem_cons_self ..))) ybr).2 g2 rfl
 have i1:=List.mem_cons_self (a:=(zty m.bp m.tv d.thr.length (m.ts.map DT.nv)).more g1 c1 (.slice none 0 0)) (l:=[(zp8 m.bp m.cv d.thr.length (m.ts.map λt=> .slice (some ⟨t.kb,0,none⟩) d.cells.toNat d.cells.toNat)).more g2 c2 (.slice (some ⟨kb,0,none⟩) c c),(zp9 m.bp m.pv d.thr.length (m.ps.map .bool)).more g3 c3 (.bool false)])
 have i2:=List.mem_cons_of_mem ((zty m.bp m.tv d.thr.length (m.ts.map DT.nv)).more g1 c1 (.slice none 0 0)) (List.mem_cons_self (a:=(zp8 m.bp m.cv d.thr.length (m.ts.map λt=> .slice (some ⟨t.kb,0,none⟩) d.cells.toNat d.cells.toNat)).more g2 c2 (.slice (some ⟨kb,0,none⟩) c c)) (l:=[(zp9 m.bp m.pv d.thr.length (m.ps.map .bool)).more g3 c3 (.bool false)]))
 have i3:=List.mem_cons_of_mem ((zty m.bp m.tv d.thr.length (m.ts.map DT.nv)).more g1 c1 (.slice none 0 0)) (List.mem_cons_of_mem ((zp8 m.bp m.cv d.thr.length (m.ts.map λt=> .slice (some ⟨t.kb,0,none⟩) d.cells.toNat d.cells.toNat)).more g2 c2 (.slice (some ⟨kb,0,none⟩) c c)) (List.mem_cons_self (a:=(zp9 m.bp m.pv d.thr.length (m.ps.map .bool)).more g3 c3 (.bool false)) (l:=[])))
 have r2:=hT.row _ i2
 have ks:=hKB.1
 rw [<-hct] at ks
 obtain ⟨lab',h'⟩:=h.threadF hD (hT.row _ i1) (by rw [<-hct] at r2;rw [hct] at r2⊢;exact r2) (hT.row _ i3) (hT.keep (m.br,4, .slice none 0 0) yaj) (hT.keep (m.br,6, .int .i64 0) yaj) (hT.cell _ i1) (hT.cell _ i2) (hT.cell _ i3) ks hKB.2 (hT.org _ i1 g1 rfl) (hT.org _ i2 g2 rfl) (hT.org _ i3 g3 rfl) hkl (λe=>n1 ybs) (λe=>n2 ybs) (λe=>n3 ybs) (λe=>e1 e.symm) (λe=>e2 e.symm) (λe=>e3 e.symm) (hT.chg.mono λ_ _ _ e=>e.2)
 exact ⟨hT.chg.mono λk j hk e=>e.1,rfl,lab',{m with tv:= .slice (some ⟨g1,0,none⟩) (d.thr.length+1) c1,cv:= .slice (some ⟨g2,0,none⟩) (d.thr.length+1) c2,pv:= .slice (some ⟨g3,0,none⟩) (d.thr.length+1) c3,lv:= .slice none 0 0,ps:=m.ps++[false],ts:=m.ts++[⟨.slice none 0 0,kb,[],[]⟩]},rfl,rfl,h'⟩
end
structure DGood(d:DR)(j:Nat):Prop where
 l:d.locals.length<=4
 s:d.shared.length<=j
 c:0<=d.cells/\d.cells<=6*j
 p: ∀p∈d.shared,0<=p.2.1/\p.2.1<d.cells
 o:d.opn.length<=3
 t:d.thr.length<=j
 n:d.stmts<=14
 no:d.thr=[]->d.opn=[]
 last: ∀N,d.thr.getLast?=some N->N.length+d.opn.length<=2*d.stmts/\ ∀a∈d.opn,∃k,N[a]?=some k/\(k.1=40\/k.1=108\/k.1=122)
theorem z37:DGood d0 0 where
 l:=ya3
 s:=ya3
 c:=ya3
 p:=ya3
 o:=ya3
 t:=ya3
 n:=ya3
 no:=ya3
 last:=ya3
theorem zt1(h:Qf s=true): ∃k,zb3 s=[k]/\(k.1=40\/k.1=108\/k.1=122):=by
 rcases s with ⟨to,a⟩|⟨to,k,a,c⟩|⟨to,f,a⟩|⟨f,a,c⟩|a|⟨⟩|a|n
 ·simp [Qf] at h
 ·simp [Qf] at h
 ·simp [Qf] at h
 ·simp [Qf] at h
 ·simp [Qf] at h
 ·exact ⟨_,rfl, .inl rfl⟩
 ·exact ⟨_,rfl, .inr (.inr rfl)⟩
 ·exact ⟨_,rfl, .inr (.inl rfl)⟩
section
variable{d d':DR}{j:Nat}
theorem DGood.share(h:DGood d j){n:Int}(hn:1<=n/\n<=6)(hd:Ge d x n= .ok d'):DGood d' (j+1):=by
 unfold Ge at hd
 by_cases c1:0<d.thr.length
 ·rw [if_pos c1] at hd;cases hd
 rw [if_neg c1] at hd
 by_cases c2:Gc d.shared x=true
 ·rw [if_pos c2] at hd;cases hd
 rw [if_neg c2] at hd
 obtain rfl:=Except.ok.inj hd
 have hc:=h.c
 refine {l:=h.l,s:=?_,c:=?_,p:=?_,o:=h.o,t:=Nat.le_succ_of_le h.t,n:=h.n,no:=h.no,last:=h.last}
 ·have:=h.s
  rw [List.length_append,List.length_singleton]
  omega
 ·show 0<=d.cells+n/\d.cells+n<=6*((j+1:Nat):Int)
  omega
 ·intro p hp
  show 0<=p.2.1/\p.2.1<d.cells+n
  rcases List.mem_append.1 hp with hp|hp
  ·have:=h.p p hp
   omega
  ·rw [List.mem_singleton.1 hp]
   dsimp only
   omega
theorem DGood.thread(h:DGood d j)(hd:Gx d= .ok d'):DGood d' (j+1):=by
 unfold Gx at hd
 by_cases c1:0<d.opn.length
 ·rw [if_pos c1] at hd;cases hd
 rw [if_neg c1] at hd
 obtain rfl:=Except.ok.inj hd
 have hc:=h.c
 have ho:d.opn=[]:=List.length_eq_zero_iff.1 yai
 refine {l:=Nat.zero_le _,s:=Nat.le_succ_of_le h.s,c:=⟨hc.1,?_⟩,p:=h.p,o:=h.o,t:=?_,n:=Nat.zero_le _,no:=λe=>?_,last:=λN hN=>?_}
 ·show d.cells<=6*((j+1:Nat):Int)
  omega
 ·have:=h.t
  rw [List.length_append,List.length_singleton]
  omega
 ·simp at e
 ·have e:N=[]:=by simpa using hN.symm
  subst e
  show _/\ ∀a∈d.opn,_
  rw [ho]
  simp
theorem DGood.fin(h:DGood d j)(hd:zb9 d= .ok d'):DGood d' (j+1):=by
 unfold zb9 at hd
 cases ho:d.opn.getLast? with
 |none=>rw [ho] at hd;cases hd
 |some a=>
  cases hN:d.thr.getLast? with
  |none=>rw [ho,hN] at hd;cases hd
  |some N=>
   rw [ho,hN] at hd
   obtain rfl:=Except.ok.inj hd
   have hc:=h.c
   obtain ⟨l1,l2⟩:=h.last N hN
   have hne:d.thr≠[]:=λe=>by rw [e] at hN;simp at hN
   have hon:d.opn≠[]:=λe=>by rw [e] at ho;simp at ho
   have hol:0<d.opn.length:=List.length_pos_iff.2 hon
   have htl:0<d.thr.length:=List.length_pos_iff.2 hne
   have hcl:(zo9 N[a]?).length<=1:=by
    unfold zo9
    split
    ·split
     ·simp
     ·split<;>simp
    ·simp
   refine {l:=h.l,s:=Nat.le_succ_of_le h.s,c:=⟨hc.1,?_⟩,p:=h.p,o:=?_,t:=?_,n:=h.n,no:=λe=>?_,last:=λN' hN'=>?_}
   ·show d.cells<=6*((j+1:Nat):Int)
    omega
   ·have:=h.o
    rw [List.length_dropLast]
    omega
   ·have:=h.t
    rw [List.length_append,List.length_singleton,List.length_dropLast]
    omega
   ·simp at e
   ·have e:N'=N++zo9 N[a]?:=by simpa using hN'.symm
    subst e
    refine ⟨?_,λb hb=>?_⟩
    ·show _+d.opn.dropLast.length<=2*d.stmts
     rw [List.length_append,List.length_dropLast]
     omega
    ·obtain ⟨k,k1,k2⟩:=l2 b (List.dropLast_subset _ hb)
     exact ⟨k,by rw [List.getElem?_append_left (List.getElem?_eq_some_iff.1 k1).1];exact k1,k2⟩
theorem DGood.st(h:DGood d j)(hd:dSt d s= .ok d'):DGood d' (j+1):=by
 unfold dSt at hd
 cases hN:d.thr.getLast? with
 |none=>rw [hN] at hd;cases hd
 |some N=>
  rw [hN] at hd
  dsimp only at hd
  by_cases q1:Gd (zhf d N) s=false
  ·rw [if_pos q1] at hd;cases hd
  rw [if_neg q1] at hd
  by_cases q2:zfv d s=false
  ·rw [if_pos q2] at hd;cases hd
  rw [if_neg q2] at hd
  by_cases q3:zip d s=false
  ·rw [if_pos q3] at hd;cases hd
  rw [if_neg q3] at hd
  obtain rfl:=Except.ok.inj hd
  have hr:zip d s=true:=by simpa using q3
  unfold zip at hr
  obtain ⟨r1,r2⟩:=Bool.and_eq_true_iff.1 hr
  obtain ⟨r2,r3⟩:=Bool.and_eq_true_iff.1 r2
  have r1: ¬d.stmts=14:=by simpa using r1
  have hc:=h.c
  have hnn:=h.n
  obtain ⟨l1,l2⟩:=h.last N hN
  have hne:d.thr≠[]:=λe=>by rw [e] at hN;simp at hN
  have htl:0<d.thr.length:=List.length_pos_iff.2 hne
  have ht:=h.t
  unfold z4u
  by_cases hh:Qf s=true
  ·rw [if_pos hh]
   obtain ⟨k,hk,hkk⟩:=zt1 hh
   have r3:d.opn.length<=2:=by rw [hh] at r3;simpa using r3
   rw [hk]
   refine {l:=h.l,s:=Nat.le_succ_of_le h.s,c:=⟨hc.1,?_⟩,p:=h.p,o:=?_,t:=?_,n:=?_,no:=λe=>?_,last:=λN' hN'=>?_}
   ·show d.cells<=6*((j+1:Nat):Int)
    omega
   ·rw [List.length_append,List.length_singleton]
    omega
   ·rw [List.length_append,List.length_singleton,List.length_dropLast]
    omega
   ·show d.stmts+1<=14
    omega
   ·simp at e
   ·have e:N'=N++[k]:=by simpa using hN'.symm
    subst e
    refine ⟨?_,λb hb=>?_⟩
    ·show _+(d.opn++[N.length]).length<=2*(d.stmts+1)
     rw [List.length_append,List.length_append,List.length_singleton,List.length_singleton]
     omega
    ·rcases List.mem_append.1 hb with hb|hb
     ·exact z9i
     ·rw [List.mem_singleton.1 hb]
      exact ⟨k,by simp,hkk⟩
  ·rw [if_neg hh]
   refine {l:=?_,s:=Nat.le_succ_of_le h.s,c:=⟨hc.1,?_⟩,p:=h.p,o:=h.o,t:=?_,n:=?_,no:=λe=>?_,last:=λN' hN'=>?_}
   ·have hl:=h.l
    dsimp only
    by_cases q:(Vg s).toList.isEmpty=false/\Uh d.locals (Vg s)=false
    ·rw [if_pos q,List.length_append,List.length_singleton]
     rw [q.1,q.2] at r2
     have: ¬d.locals.length=4:=by simpa using r2
     omega
    ·rw [if_neg q];exact hl
   ·show d.cells<=6*((j+1:Nat):Int)
    omega
   ·rw [List.length_append,List.length_singleton,List.length_dropLast]
    omega
   ·show d.stmts+1<=14
    omega
   ·simp at e
   ·have e:N'=N++[(kL s,0)]:=by simpa using hN'.symm
    subst e
    refine ⟨?_,λb hb=>?_⟩
    ·show _+d.opn.length<=2*(d.stmts+1)
     rw [List.length_append,List.length_singleton]
     omega
    ·exact z9i
theorem znj{m:Int}(h:Sx m x=true): ∃n,Qk x=some n/\1<=n/\n<=m:=by
 unfold Sx at h
 cases e:Qk x with
 |none=>rw [e] at h;cases h
 |some n=>
  rw [e] at h
  have h:=Bool.and_eq_true_iff.1 h
  exact ⟨n,rfl,by simpa using h.1,by simpa using h.2⟩
theorem DGood.line(h:DGood d j){ws:List ByteArray}(hb:Jr ws=true)(hd:Xw d ws= .ok d'):DGood d' (j+1):=by
 match ws,hb with
 |[],hb=>cases hb
 |u::us,hb=>
  unfold Xw at hd
  dsimp only at hd
  by_cases n1:u=Qy
  ·subst n1
   rw [Zf] at hb
   rw [if_pos rfl] at hd
   match us,hb with
   |[],hb=>cases hb
   |[v],_=>exact h.share yai hd
   |[v,x],hb=>
    have hb:(Vo v&&Sx 6 x)=true:=hb
    obtain ⟨n,hn,h1,h2⟩:=znj (Bool.and_eq_true_iff.1 hb).2
    have hd:Ge d v ((Qk x).getD 0)= .ok d':=hd
    rw [hn] at hd
    exact h.share ⟨h1,h2⟩ hd
   |_::_::_::_,hb=>cases hb
  rw [if_neg n1] at hd
  by_cases n2:u=Qt
  ·rw [if_pos n2] at hd
   exact h.thread hd
  rw [if_neg n2] at hd
  by_cases n3:u=Zd
  ·rw [if_pos n3] at hd
   exact h.fin hd
  rw [if_neg n3] at hd
  exact h.st hd
end
end Go.Proofs.YtphcopbffecceaaGreatDoor
