import Derived.Test.YtphcopbffecceaaGreatDoorP38
set_option maxRecDepth 100000
set_option maxHeartbeats 10000000
namespace Go.Proofs.YtphcopbffecceaaGreatDoor
open Go.RowKit
variable{w:World}{M:Nat->Nat->Prop}{v6:Value}{po pt:Option Addr}{ct:Nat}
theorem ziy:(Tryz.prog.info? 4).map (λi=>(i.zero,i.size,i.bytes))=some (some (.bool false),1,1):=yak
theorem zpk:(Tryz.prog.info? 59).map (λi=>(i.zero,i.size,i.bytes))=some (some (.slice none 0 0),1,24):=yak
theorem zpl:(Tryz.prog.info? 40).map (λi=>(i.zero,i.size,i.bytes))=some (some (.slice none 0 0),1,24):=yak
def Od(n:Nat):Array Value:=madeCells #[.bool false] n
theorem zlg(n:Nat)(hn:n<100000000)(w:World):(Instr.makeSlice 40 (.int .i64 n) (.int .i64 n)).run Tryz.prog w= .ok (.slice (some ⟨w.heap.size,0,none⟩) n n) (w.alloc (.cells (Od n) 4)):=by
 obtain ⟨i0,hi,hz0,hz1,hz2⟩:=info_parts ziy
 have:=run_make (P:=Tryz.prog) w 40 4 i0 (.bool false) Tryz.underlying40 hi hz0 .i64 .i64 n n yai (Int.le_refl _) (by rw [hz2];omega) yai
 rw [this,hz1]
 simp [Od]
 rfl
abbrev zty(b:Nat)(v:Value)(n:Nat)(xs:List Value):Slot:=⟨0,b,0,59,v,n,xs,v⟩
abbrev zp8(b:Nat)(v:Value)(n:Nat)(xs:List Value):Slot:=⟨1,b,2,40,v,n,xs,v⟩
abbrev zp9(b:Nat)(v:Value)(n:Nat)(xs:List Value):Slot:=⟨2,b,3,4,v,n,xs,v⟩
def KBAt(w:World)(kb c:Nat):Prop:=w.shape? kb=some (4,c)/\ ∀j,w.frozen? ⟨kb,j,none⟩=false
theorem KBAt.keep{w':World}{kb c:Nat}(h:KBAt w kb c)(hc:Chg M w w'):KBAt w' kb c:=
 ⟨(hc.shape _ (Qd h.1)).trans h.1,λj=>(hc.frozen _ _ (Qd h.1)).trans (h.2 j)⟩
theorem zxv(W:World)(a b:Obj):((W.alloc a).alloc b).drew.heap.size=W.heap.size+2:=by
 show ((W.alloc a).alloc b).heap.size=_
 simp
theorem z36(W:World)(c:Nat)(o:Obj):KBAt ((W.drew.alloc (.cells (Od c) 4)).alloc o) W.heap.size c:=by
 have h:KBAt (W.drew.alloc (.cells (Od c) 4)) W.heap.size c:=by
  have e:(W.drew.alloc (.cells (Od c) 4)).heap[W.heap.size]?=some (.cells (Od c) 4):=World.alloc_heap_new W.drew _
  refine ⟨?_,λj=>?_⟩
  ·unfold World.shape?
   rw [e]
   simp [Od,size_madeCells]
  ·unfold World.frozen?
   rw [e]
   simp
 exact h.keep ((Chg.refl (λ_ _=>False) _).alloc _)
theorem zlh{W:World}{br bp n1 n2 n3:Nat}{K:List (Nat×Nat×Value)}{v1 v2 v3 a1 a2 a3 v4:Value}{x1 x2 x3:List Value}(h:SlotsAt M w W K [(br,4),(br,6)] [⟨0,bp,0,59,v1,n1,x1,a1⟩,⟨1,bp,2,40,v2,n2,x2,a2⟩,⟨2,bp,3,4,v3,n3,x3,a3⟩])(k4:(br,4,v4)∈K)(k6:(br,6,v6)∈K)(m4:M br 4)(m6:M br 6)(hbb:br≠bp):
  SlotsAt M w ((W.setCell ⟨br,4,none⟩ (.slice none 0 0)).setCell ⟨br,6,none⟩ (.int .i64 0)) [(br,4, .slice none 0 0),(br,6, .int .i64 0)] [(br,4),(br,6)] [⟨0,bp,0,59,v1,n1,x1,a1⟩,⟨1,bp,2,40,v2,n2,x2,a2⟩,⟨2,bp,3,4,v3,n3,x3,a3⟩]:=by
 have hb: ∀o,∀s∈[(⟨0,bp,0,59,v1,n1,x1,a1⟩:Slot),⟨1,bp,2,40,v2,n2,x2,a2⟩,⟨2,bp,3,4,v3,n3,x3,a3⟩],(s.b≠br\/s.o≠o)/\ ∀g,s.v.ownBlock=some g->g≠br:=λo s hs=>⟨.inl (by simp at hs;rcases hs with rfl|rfl|rfl<;>exact hbb.symm),λg hg=>(h.nb s hs g hg).2 _ k4⟩
 have c6:(W.setCell ⟨br,4,none⟩ (.slice none 0 0)).cell? ⟨br,6,none⟩=some v6:=(Qb (.inr yai)).trans (h.keep _ k6)
 refine (h.set (b:=br) (o:=4) (v:= .slice none 0 0) (K':=[(br,4, .slice none 0 0)]) (h.keep _ k4) (hb 4) (λ_=>m4) (λq hq=> .inr (by simpa using hq))).set (b:=br) (o:=6) (v:= .int .i64 0) c6 (hb 6) (λ_=>m6) (λq hq=>?_)
 simp at hq
 rcases hq with rfl|rfl
 ·exact .inl ⟨by simp, .inr yaj⟩
 ·exact .inr rfl
section
variable{w:World}{br bp bw cap n L c co:Nat}{M:Nat->Nat->Prop}
theorem ztz{k:Nat}(c0:w.cell? ⟨br,0,none⟩=some (ptr bp))(p0:w.cell? ⟨bp,0,none⟩=some (.slice pt n ct))(c5:w.cell? ⟨br,5,none⟩=some (.slice po k co))(hk:0<(k:Int))(hL0:(0:Int)<(L:Int))(w0:w.cell? ⟨bw,0,none⟩=some (.string Qt)):
  Cl 12 #[ptr br, .slice (some ⟨bw,0,none⟩) L cap] w λe w'=>e= .returned (.int .i64 3)/\w'=w:=by
 have hlt:br<w.heap.size:=blt c0
 have hlp:bp<w.heap.size:=blt p0
 have hlw:bw<w.heap.size:=blt w0
 have e1:(Qt.toList==[115,104,97,114,101,100])=false:=yak
 have e2:(Qt.toList==[116,104,114,101,97,100])=true:=yak
 go_enter Tryz.func12,Tryz.ntmps12
 go_wp2
 go_ret
 exact ⟨rfl,rfl⟩
theorem zli{tv cv pv lv:Value}{xs1 xs2 xs3:List Value}(htv:tv= .slice pt n ct)(h:SlotsAt M w w [(br,0,ptr bp),(bp,1, .int .i64 (c:Int)),(br,5, .slice po 0 co),(br,4,lv),(br,6,v6)] [(br,4),(br,6)] [zty bp tv n xs1,zp8 bp cv n xs2,zp9 bp pv n xs3])(hbb:br≠bp)(hM:M br 4/\M br 6)(hn:n<1000000)(hc:c<100000000)(hL0:(0:Int)<(L:Int))(w0:w.cell? ⟨bw,0,none⟩=some (.string Qt)):
  Cl 12 #[ptr br, .slice (some ⟨bw,0,none⟩) L cap] w λe w'=>e= .returned (.int .i64 0)/\ ∃g1 c1 g2 c2 g3 c3 kb,SlotsAt M w w' [(br,4, .slice none 0 0),(br,6, .int .i64 0)] [(br,4),(br,6)] [(zty bp tv n xs1).more g1 c1 (.slice none 0 0),(zp8 bp cv n xs2).more g2 c2 (.slice (some ⟨kb,0,none⟩) c c),(zp9 bp pv n xs3).more g3 c3 (.bool false)]/\KBAt w' kb c/\w.heap.size<=kb/\g1≠kb/\g2≠kb/\g3≠kb:=by
 have c0:=h.keep (br,0,ptr bp) yaj
 have c5:=h.keep (br,5, .slice po 0 co) yaj
 have t0:=h.cell (zty bp tv n xs1) yaj
 dsimp only at c0 c5 t0
 have t0':w.cell? ⟨bp,0,none⟩=some (.slice pt n ct):=by rw [t0,htv]
 have hlt:br<w.heap.size:=blt c0
 have hlp:bp<w.heap.size:=blt t0
 have hlw:bw<w.heap.size:=blt w0
 have e1:(Qt.toList==[115,104,97,114,101,100])=false:=yak
 have e2:(Qt.toList==[116,104,114,101,97,100])=true:=yak
 have HX:=hid (h.below (Qi _ w))
 have HW:Hid (∀x,Below w.drew.heap.size w.drew (w.drew.alloc (.cells #[x] 59))):=hid λx=>(Below.refl _ _).alloc (Nat.le_refl _) _
 obtain ⟨i0,hi0,hz0,hz1,hz2⟩:=info_parts zpk
 obtain ⟨j0,hj0,hy0,hy1,hy2⟩:=info_parts zpl
 obtain ⟨k0,hk0,hx0,hx1,hx2⟩:=info_parts ziy
 have hl1:n+1<=maxLen:=yap
 have hl2:(n+1)*24<=140737488355328:=yai
 have hl3:(n+1)*1<=140737488355328:=yai
 have hmk:=zlg c hc
 have HM:=hid hM
 have HTV:=hid htv
 have HBB:=hid hbb
 clear h hM hc t0 htv hbb
 go_enter Tryz.func12,Tryz.ntmps12
 go_wp2_with fail
 refine wp_region_held_drew (S:=(λw'=>w'.cell? ⟨br,0,none⟩=some (ptr bp))) yak ?_ (λhHeld=>?_)
 ·(try dsimp only);go_keep
 refine Qa 0 (h:=Qa 1 (h:=Qa 2 (h:=Qa 3 (h:=Qa 4 (h:=Qa 5 (h:=Qa 6 (h:=Qa 7 (h:=Qa 8 (h:=Qa 9 (h:=?_))))))))))
 refine tr [10,11] (.cons rfl (λKQ hKQ=>?_) (.cons rfl (λKQ hKQ=>?_) .nil))
 go_simp
 refine hKQ.out _ _ ?_ (λhHeld=>?_)
 ·(try dsimp only);exact hHeld
 clear hKQ KQ
 refine tr [11] (.cons rfl (λKQ hKQ=>?_) .nil)
 go_simp
 rotate_left
 go_simp
 refine hKQ.out _ _ ?_ (λhHeld=>?_)
 ·(try dsimp only);go_keep
 clear hKQ KQ
 refine tr [10] (.cons rfl (λKQ hKQ=>?_) .nil)
 go_simp
 rotate_left
 all_goals
  refine hKQ.out _ _ ?_ (λhHeld=>?_)
  ·(try dsimp only);go_keep
  clear hKQ KQ
  refine tr [12] (.cons rfl (λKQ hKQ=>?_) .nil)
  (refine Je rfl (.tmp 45) (.tmp 46) 38 rfl 59 i0 (.slice none 0 0) 1 24 yal Tryz.underlying38 hi0 hz0 hz1 hz2 rfl tv n xs1 (by rw [HTV.out];rfl) ((HX.out.below (HW.out _)).row (zty bp tv n xs1) yaj) ⟨w.heap.size,0,none⟩ [.slice none 0 0] rfl rfl (cell_one_new _ _ _) yax hl1 hl2 ?_;intro g1 c1 w3 ho hch hg;have H1:=hid (SlotsAt.push0 HX.out rfl rfl rfl (HW.out _) ho hch hg);have mm:=HX.out.mid (s:=zty bp tv n xs1) yaj (HW.out _) hch;have d1:=(mm.1 (zty bp tv n xs1) yaj).1;have d2:=(mm.1 (zty bp tv n xs1) yaj).2;have d3:=mm.2 (br,0,ptr bp) yaj;dsimp only at d1 d2 d3;clear ho hch hg mm)
  refine hKQ.out _ _ ?_ (λhHeld=>?_)
  ·(try dsimp only);exact d3
  clear hKQ KQ
  refine Qa 13 (h:=Qa 14 (h:=?_))
  refine tr [15] (.cons rfl (λKQ hKQ=>?_) .nil)
  go_simp
  refine hKQ.out _ _ ?_ (λhHeld=>?_)
  ·(try dsimp only);exact H1.out.keep (br,0,ptr bp) yaj
  clear hKQ KQ
  refine wpAnyH_done yak ?_ _
  generalize hW1:World.setCell w3 ⟨bp,0,none⟩ (.slice (some ⟨g1,0,none⟩) (n+1) c1)=W1 at H1⊢
  have q0:=H1.out.keep (br,0,ptr bp) yaj
  have q1:=H1.out.keep (bp,1, .int .i64 (c:Int)) yaj
  have q2:=H1.out.cell (zp8 bp cv n xs2) yaj
  dsimp only at q0 q1 q2
  have l0:br<W1.heap.size:=blt q0
  have l1:bp<W1.heap.size:=blt q1
  have HB1:Hid (Below W1.heap.size W1 ((W1.drew.alloc (.cells (Od c) 4)).alloc (.cells #[.slice (some ⟨W1.heap.size,0,none⟩) c c] 40))):=hid (((Qi _ W1).alloc (Nat.le_refl _) _).alloc yaj _)
  have HU:Hid (∀j u',[Value.slice (some ⟨W1.heap.size,0,none⟩) c c][j]?=some u'->((W1.drew.alloc (.cells (Od c) 4)).alloc (.cells #[.slice (some ⟨W1.heap.size,0,none⟩) c c] 40)).cell? ((⟨W1.heap.size+1,0,none⟩:Addr).add j)=some u'):=hid (by
   have:=cell_one_new (W1.drew.alloc (.cells (Od c) 4)) (.slice (some ⟨W1.heap.size,0,none⟩) c c) 40
   simpa using this)
  have HKB:Hid (KBAt ((W1.drew.alloc (.cells (Od c) 4)).alloc (.cells #[.slice (some ⟨W1.heap.size,0,none⟩) c c] 40)) W1.heap.size c):=hid (z36 W1 c _)
  have HG1:Hid (g1<W1.heap.size):=hid ((H1.out.row _ (List.mem_cons_self ..)).lt g1 rfl).2
  have HSZ:Hid (w.heap.size<=W1.heap.size):=hid H1.out.chg.size
  clear hW1 hHeld d1 d2 d3
  go_wp2_with fail
  refine wp_region_held_drew (S:=(λw'=>w'.cell? ⟨br,0,none⟩=some (ptr bp)/\w'.cell? ⟨bp,1,none⟩=some (.int .i64 (c:Int)))) yak ?_ (λhHeld=>?_)
  ·(try dsimp only);go_keep
  refine Qa 0 (h:=Qa 1 (h:=Qa 2 (h:=Qa 3 (h:=Qa 4 (h:=Qa 5 (h:=Qa 6 (h:=Qa 7 (h:=Qa 8 (h:=Qa 9 (h:=Qa 11 (h:=Qa 12 (h:=Qa 13 (h:=Qa 14 (h:=Qa 15 (h:=Qa 16 (h:=Qa 17 (h:=?_)))))))))))))))))
  refine tr [10,18] (.cons rfl (λKQ hKQ=>?_) (.cons rfl (λKQ hKQ=>?_) .nil))
  go_simp
  refine hKQ.out _ _ ?_ (λhHeld=>?_)
  ·(try dsimp only);exact hHeld
  clear hKQ KQ
  refine tr [18] (.cons rfl (λKQ hKQ=>?_) .nil)
  go_simp
  refine hKQ.out _ _ ?_ (λhHeld=>?_)
  ·(try dsimp only);go_keep
  clear hKQ KQ
  refine tr [19] (.cons rfl (λKQ hKQ=>?_) .nil)
  go_simp
  rotate_left
  go_simp
  refine hKQ.out _ _ ?_ (λhHeld=>?_)
  ·(try dsimp only);go_keep
  clear hKQ KQ
  refine tr [10,19] (.cons rfl (λKQ hKQ=>?_) (.cons rfl (λKQ hKQ=>?_) .nil))
  go_simp
  refine hKQ.out _ _ ?_ (λhHeld=>?_)
  ·(try dsimp only);exact hHeld
  clear hKQ KQ
  refine tr [19] (.cons rfl (λKQ hKQ=>?_) .nil)
  go_simp
  rotate_left
  go_simp
  refine hKQ.out _ _ ?_ (λhHeld=>?_)
  ·(try dsimp only);go_keep
  clear hKQ KQ
  refine tr [10] (.cons rfl (λKQ hKQ=>?_) .nil)
  go_simp
  rotate_left
  all_goals
   refine hKQ.out _ _ ?_ (λhHeld=>?_)
   ·(try dsimp only);go_keep
   clear hKQ KQ
   refine tr [20] (.cons rfl (λKQ hKQ=>?_) .nil)
   (refine Je rfl (.tmp 60) (.tmp 69) 39 rfl 40 j0 (.slice none 0 0) 1 24 yal Tryz.underlying39 hj0 hy0 hy1 hy2 rfl cv n xs2 rfl ((H1.out.below HB1.out).row (zp8 bp cv n xs2) yaj) ⟨W1.heap.size+1,0,none⟩ [.slice (some ⟨W1.heap.size,0,none⟩) c c] rfl rfl HU.out yax hl1 hl2 ?_;intro g2 c2 w4 ho hch hg;have H2:=hid (SlotsAt.push1 H1.out rfl rfl rfl HB1.out ho hch hg);have mm:=H1.out.mid (s:=zp8 bp cv n xs2) yaj HB1.out hch;have d1:=(mm.1 (zp8 bp cv n xs2) yaj).1;have d2:=(mm.1 (zp8 bp cv n xs2) yaj).2;have d3:=mm.2 (br,0,ptr bp) yaj;have d4:=mm.2 (bp,1, .int .i64 (c:Int)) yaj;dsimp only at d1 d2 d3 d4;have HK2:=hid (HKB.out.keep hch);have HG2:Hid (g2≠W1.heap.size):=hid (by rcases hg with e|e;exact (by have:=((H1.out.row (zp8 bp cv n xs2) yaj).lt g2 e).2;omega);exact (by rw [e,zxv];omega));clear ho hch hg mm)
   refine hKQ.out _ _ ?_ (λhHeld=>?_)
   ·(try dsimp only);exact ⟨d3,d4⟩
   clear hKQ KQ
   refine Qa 21 (h:=Qa 22 (h:=?_))
   refine tr [23] (.cons rfl (λKQ hKQ=>?_) .nil)
   go_simp
   refine hKQ.out _ _ ?_ (λhHeld=>?_)
   ·(try dsimp only);exact ⟨H2.out.keep (br,0,ptr bp) yaj,H2.out.keep (bp,1, .int .i64 (c:Int)) yaj⟩
   clear hKQ KQ
   refine wpAnyH_done yak ?_ _
   generalize hW2:World.setCell w4 ⟨bp,2,none⟩ (.slice (some ⟨g2,0,none⟩) (n+1) c2)=W2 at H2⊢
   have HK3:Hid (KBAt W2 W1.heap.size c):=hid (by rw [<-hW2];exact HK2.out.keep ((Chg.refl (λk j=>k=bp/\j=2) w4).setCell (λ_=>⟨rfl,rfl⟩) _))
   have r0:=H2.out.keep (br,0,ptr bp) yaj
   have r3:=H2.out.cell (zp9 bp pv n xs3) yaj
   dsimp only at r0 r3
   have m0:br<W2.heap.size:=blt r0
   have m1:bp<W2.heap.size:=blt r3
   have HB2:Hid (∀x,Below W2.heap.size W2 (W2.drew.alloc (.cells #[x] 4))):=hid λx=>(Qi _ W2).alloc (Nat.le_refl _) _
   clear hW2 hHeld d1 d2 d3 d4 q0 q1 q2
   go_wp2_with fail
   refine wp_region_held_drew (S:=(λw'=>w'.cell? ⟨br,0,none⟩=some (ptr bp))) yak ?_ (λhHeld=>?_)
   ·(try dsimp only);go_keep
   refine Qa 0 (h:=Qa 1 (h:=Qa 2 (h:=Qa 3 (h:=Qa 4 (h:=Qa 5 (h:=Qa 6 (h:=Qa 7 (h:=Qa 8 (h:=Qa 9 (h:=?_))))))))))
   refine tr [10,11] (.cons rfl (λKQ hKQ=>?_) (.cons rfl (λKQ hKQ=>?_) .nil))
   go_simp
   refine hKQ.out _ _ ?_ (λhHeld=>?_)
   ·(try dsimp only);exact hHeld
   clear hKQ KQ
   refine tr [11] (.cons rfl (λKQ hKQ=>?_) .nil)
   go_simp
   rotate_left
   go_simp
   refine hKQ.out _ _ ?_ (λhHeld=>?_)
   ·(try dsimp only);go_keep
   clear hKQ KQ
   refine tr [10] (.cons rfl (λKQ hKQ=>?_) .nil)
   go_simp
   rotate_left
   all_goals
    refine hKQ.out _ _ ?_ (λhHeld=>?_)
    ·(try dsimp only);go_keep
    clear hKQ KQ
    refine tr [12] (.cons rfl (λKQ hKQ=>?_) .nil)
    (refine Je rfl (.tmp 83) (.tmp 84) 40 rfl 4 k0 (.bool false) 1 1 yal Tryz.underlying40 hk0 hx0 hx1 hx2 rfl pv n xs3 rfl ((H2.out.below (HB2.out _)).row (zp9 bp pv n xs3) yaj) ⟨W2.heap.size,0,none⟩ [.bool false] rfl rfl (cell_one_new _ _ _) yax hl1 hl3 ?_;intro g3 c3 w5 ho hch hg;have H3:=hid (SlotsAt.push2 H2.out rfl rfl rfl (HB2.out _) ho hch hg);have mm:=H2.out.mid (s:=zp9 bp pv n xs3) yaj (HB2.out _) hch;have d1:=(mm.1 (zp9 bp pv n xs3) yaj).1;have d2:=(mm.1 (zp9 bp pv n xs3) yaj).2;have d3:=mm.2 (br,0,ptr bp) yaj;dsimp only at d1 d2 d3;have HK4:=hid ((HK3.out.keep (Chg.of_below (M:=λ_ _=>False) (HB2.out (.bool false)))).keep hch);have HG3:Hid (g3≠W1.heap.size):=hid (by rcases hg with e|e;exact (by have:=((H1.out.row (zp9 bp pv n xs3) yaj).lt g3 e).2;omega);rw [e];have:=Qd HK3.out.1;simp;omega);clear ho hch hg mm)
    refine hKQ.out _ _ ?_ (λhHeld=>?_)
    ·(try dsimp only);exact d3
    clear hKQ KQ
    refine Qa 13 (h:=Qa 14 (h:=?_))
    refine tr [15] (.cons rfl (λKQ hKQ=>?_) .nil)
    go_simp
    refine hKQ.out _ _ ?_ (λhHeld=>?_)
    ·(try dsimp only);exact H3.out.keep (br,0,ptr bp) yaj
    clear hKQ KQ
    refine wpAnyH_done yak ?_ _
    generalize hW3:World.setCell w5 ⟨bp,3,none⟩ (.slice (some ⟨g3,0,none⟩) (n+1) c3)=W3 at H3⊢
    have HK5:Hid (KBAt W3 W1.heap.size c):=hid (by rw [<-hW3];exact HK4.out.keep ((Chg.refl (λk j=>k=bp/\j=3) w5).setCell (λ_=>⟨rfl,rfl⟩) _))
    have u4:=H3.out.keep (br,4,lv) yaj
    have u6:=H3.out.keep (br,6,v6) yaj
    have f4:=(H3.out.fr (br,4) yaj).2
    have f6:=(H3.out.fr (br,6) yaj).2
    dsimp only at u4 u6 f4 f6
    have n0:br<W3.heap.size:=blt u4
    clear hW3 hHeld d1 d2 d3 r0 r3
    go_wp2
    go_ret
    exact ⟨rfl,g1,c1,g2,c2,g3,c3,W1.heap.size,zlh H3.out (v4:=lv) (v6:=v6) yaj yaj HM.out.1 HM.out.2 HBB.out,HK5.out.keep (((Chg.refl (λ_ _=>True) W3).setCell (λ_=>trivial) _).setCell (λ_=>trivial) _),HSZ.out,by have:=HG1.out;omega,HG2.out,HG3.out⟩
end
end Go.Proofs.YtphcopbffecceaaGreatDoor
