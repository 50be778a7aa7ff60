import Derived.Test.YtphcopbffecceaaGreatDoorP26
set_option maxRecDepth 100000
set_option maxHeartbeats 10000000
namespace Go.Proofs.YtphcopbffecceaaGreatDoor
open Go.RowKit
section
variable{w:World}{br bp bw cap n L:Nat}{x y:ByteArray}{c k q:Int}{M:Nat->Nat->Prop}
abbrev ztv(br:Nat)(v:Value)(n:Nat)(xs:List Value):Slot:=⟨0,br,1,9,v,n,xs,v⟩
abbrev ztw(br:Nat)(v:Value)(n:Nat)(xs:List Value):Slot:=⟨1,br,2,3,v,n,xs,v⟩
abbrev ztx(br:Nat)(v:Value)(n:Nat)(xs:List Value):Slot:=⟨2,br,3,3,v,n,xs,v⟩
theorem zpi{sv fv zv:Value}{xs1 xs2 xs3:List Value}{pt:Option Addr}{ct:Nat}(h:SlotsAt M w w [(br,0,ptr bp),(bp,1, .int .i64 c),(bw,1, .string x)] [(bp,1)] [ztv br sv n xs1,ztw br fv n xs2,ztx br zv n xs3])(p0:w.cell? ⟨bp,0,none⟩=some (.slice pt 0 ct))(hbb:br≠bp)(hM:M bp 1)(hn:n<1000000)(hc:0<=c/\c<100000000)(hk: ¬0<=k)(hq:1<=q/\q<=6)(hL:(L=2/\q=1)\/(L=3/\w.cell? ⟨bw,2,none⟩=some (.string y)/\Qk y=some q))
  (KS:Hid (∀w',Below w.heap.size w w'->Cl 22 #[sv, .string x] w' λe w2=>e= .returned (.int .i64 k)/\w2=w')):
  Cl 23 #[ptr br, .slice (some ⟨bw,0,none⟩) L cap] w λe w'=>e= .returned (.int .i64 0)/\ ∃g1 c1 g2 c2 g3 c3,SlotsAt M w w' [(bp,1, .int .i64 (c+q))] [(bp,1)] [(ztv br sv n xs1).more g1 c1 (.string x),(ztw br fv n xs2).more g2 c2 (.int .i64 c),(ztx br zv n xs3).more g3 c3 (.int .i64 q)]:=by
 have c0:=h.keep (br,0,ptr bp) yaj
 have c1:=h.cell (ztv br sv n xs1) yaj
 have w1:=h.keep (bw,1, .string x) yaj
 dsimp only at c0 c1 w1
 have hlt:br<w.heap.size:=blt c0
 have hlp:bp<w.heap.size:=blt p0
 have hlw:bw<w.heap.size:=blt w1
 have HX:=hid (h.below ((Qi _ w).trans (Qi _ _)))
 have HW:Hid (∀x,Below w.drew.drew.heap.size w.drew.drew (w.drew.drew.alloc (.cells #[x] 9))):=hid λx=>(Below.refl _ _).alloc (Nat.le_refl _) _
 obtain ⟨i0,hi0,hz0,hz1,hz2⟩:=info_parts znd
 obtain ⟨j0,hj0,hy0,hy1,hy2⟩:=info_parts za7
 have hl1:n+1<=maxLen:=yap
 have hl2:(n+1)*16<=140737488355328:=yai
 have hl3:(n+1)*8<=140737488355328:=yai
 have hwr:IntKind.i64.wrap (c+q)=c+q:=yar
 have hL1:(1:Int)<(L:Int):=by rcases hL with ⟨e,_⟩|⟨e,_⟩<;>omega
 have HM:=hid hM
 have HBB:=hid hbb
 have KN:Hid (Qk y=some q->∀w,Cl 41 #[.string y] w λe w'=>e= .returned (.tuple #[.int .i64 q, .bool true])/\w'=w):=hid λhy w=>by
  have:=Ym w y
  rw [Yj hy] at this
  exact this
 clear h hn hM hbb hc hq
 go_enter Tryz.func23,Tryz.ntmps23
 go_wp2_with fail
 refine wp_region_held_drew (S:=(λw'=>w'.cell? ⟨br,1,none⟩=some sv/\w'.cell? ⟨bw,1,none⟩=some (.string x))) yak ?_ (λhHeld=>?_)
 ·(try dsimp only);go_keep
 refine Qa 0 (h:=Qa 1 (h:=Qa 2 (h:=Qa 3 (h:=Qa 4 (h:=Qa 5 (h:=Qa 6 (h:=?_)))))))
 refine tr [7] (.cons rfl (λKQ hKQ=>?_) .nil)
 (go_simp;go_at_call 22;refine (KS.out _ (Qi _ w)).mono ?_;rintro e w1 ⟨rfl,hw⟩;subst w1)
 refine hKQ.out _ _ ?_ (λhHeld=>?_)
 ·(try dsimp only);go_keep
 clear hKQ KQ
 refine Qa 8 (h:=?_)
 refine wpAnyH_done yak ?_ _
 rcases hL with ⟨rfl,rfl⟩|⟨rfl,w2,hy⟩
 case' inl=>go_wp2_with fail
 case' inr=>(go_wp2_with fail;refine (KN.out hy _).mono ?_;rintro e w1 ⟨rfl,hw⟩;subst w1;clear w2 hy;go_wp2_with fail)
 all_goals
  refine wp_region_held_drew (S:=(λw'=>w'.cell? ⟨bw,1,none⟩=some (.string x))) yak ?_ (λhHeld=>?_)
  ·(try dsimp only);go_keep
  refine Qa 0 (h:=Qa 1 (h:=Qa 2 (h:=Qa 3 (h:=Qa 5 (h:=Qa 6 (h:=Qa 7 (h:=?_)))))))
  refine tr [4,8] (.cons rfl (λKQ hKQ=>?_) (.cons rfl (λKQ hKQ=>?_) .nil))
  go_simp
  refine hKQ.out _ _ ?_ (λhHeld=>?_)
  ·exact z70
  clear hKQ KQ
  refine tr [8] (.cons rfl (λKQ hKQ=>?_) .nil)
  go_simp
  rotate_left
  go_simp
  refine hKQ.out _ _ ?_ (λhHeld=>?_)
  ·exact z70
  clear hKQ KQ
  refine tr [4] (.cons rfl (λKQ hKQ=>?_) .nil)
  go_simp
  rotate_left
  all_goals
   refine hKQ.out _ _ ?_ (λhHeld=>?_)
   ·exact z70
   clear hKQ KQ
   refine tr [9] (.cons rfl (λKQ hKQ=>?_) .nil)
   (refine Je rfl (.tmp 40) (.tmp 44) 49 rfl 9 i0 (.string ByteArray.empty) 1 16 yal Tryz.underlying49 hi0 hz0 hz1 hz2 rfl sv n xs1 rfl ((HX.out.below (HW.out _)).row (ztv br sv n xs1) yaj) ⟨w.heap.size,0,none⟩ [.string x] rfl rfl (cell_one_new _ _ _) yax hl1 hl2 ?_;intro g cp w3 ho hch hg;have H1:=hid (SlotsAt.push0 HX.out rfl rfl rfl (HW.out _) ho hch hg);have mm:=HX.out.mid (s:=ztv br sv n xs1) yaj (HW.out _) hch;have d1:=(mm.1 (ztv br sv n xs1) yaj).1;have d2:=(mm.1 (ztv br sv n xs1) yaj).2;have d3:=mm.2 (bw,1, .string x) yaj;dsimp only at d1 d2 d3;clear ho hch hg mm)
   refine hKQ.out _ _ ?_ (λhHeld=>?_)
   ·exact z70
   clear hKQ KQ
   refine Qa 10 (h:=Qa 11 (h:=?_))
   refine tr [12] (.cons rfl (λKQ hKQ=>?_) .nil)
   go_simp
   refine hKQ.out _ _ ?_ (λhHeld=>?_)
   ·exact z70
   clear hKQ KQ
   refine wpAnyH_done yak ?_ _
   generalize hW1:World.setCell w3 ⟨br,1,none⟩ (.slice (some ⟨g,0,none⟩) (n+1) cp)=W1 at H1⊢
   have e0:=H1.out.keep (br,0,ptr bp) yaj
   have e1:=H1.out.keep (bp,1, .int .i64 c) yaj
   have e2:=H1.out.cell (ztw br fv n xs2) yaj
   dsimp only at e0 e1 e2
   have l0:br<W1.heap.size:=blt e0
   have l1:bp<W1.heap.size:=blt e1
   have HX1:=hid (H1.out.below (Qi _ W1))
   have HW1:Hid (∀x,Below W1.drew.heap.size W1.drew (W1.drew.alloc (.cells #[x] 3))):=hid λx=>(Below.refl _ _).alloc (Nat.le_refl _) _
   clear hW1 hHeld
   go_wp2_with fail
   refine wp_region_held_drew (S:=(λw'=>w'.cell? ⟨br,0,none⟩=some (ptr bp)/\w'.cell? ⟨bp,1,none⟩=some (.int .i64 c))) yak ?_ (λhHeld=>?_)
   ·(try dsimp only);go_keep
   refine Qa 0 (h:=Qa 1 (h:=Qa 2 (h:=Qa 3 (h:=Qa 5 (h:=Qa 6 (h:=Qa 7 (h:=Qa 8 (h:=Qa 9 (h:=Qa 10 (h:=Qa 11 (h:=?_)))))))))))
   refine tr [4,12] (.cons rfl (λKQ hKQ=>?_) (.cons rfl (λKQ hKQ=>?_) .nil))
   go_simp
   refine hKQ.out _ _ ?_ (λhHeld=>?_)
   ·exact z7t
   clear hKQ KQ
   refine tr [12] (.cons rfl (λKQ hKQ=>?_) .nil)
   go_simp
   rotate_left
   go_simp
   refine hKQ.out _ _ ?_ (λhHeld=>?_)
   ·exact z7t
   clear hKQ KQ
   refine tr [4] (.cons rfl (λKQ hKQ=>?_) .nil)
   go_simp
   rotate_left
   all_goals
    refine hKQ.out _ _ ?_ (λhHeld=>?_)
    ·exact z7t
    clear hKQ KQ
    refine tr [13] (.cons rfl (λKQ hKQ=>?_) .nil)
    (refine Je rfl (.tmp 52) (.tmp 60) 52 rfl 3 j0 (.int .i64 0) 1 8 yal Tryz.underlying52 hj0 hy0 hy1 hy2 rfl fv n xs2 rfl ((HX1.out.below (HW1.out _)).row (ztw br fv n xs2) yaj) ⟨W1.heap.size,0,none⟩ [.int .i64 c] rfl rfl (cell_one_new _ _ _) yax hl1 hl3 ?_;intro g2 cp2 w4 ho hch hg;have H2:=hid (SlotsAt.push1 HX1.out rfl rfl rfl (HW1.out _) ho hch hg);have mm:=HX1.out.mid (s:=ztw br fv n xs2) yaj (HW1.out _) hch;have f1:=(mm.1 (ztw br fv n xs2) yaj).1;have f2:=(mm.1 (ztw br fv n xs2) yaj).2;have f0:=mm.2 (br,0,ptr bp) yaj;have f5:=mm.2 (bp,1, .int .i64 c) yaj;dsimp only at f0 f1 f2 f5;clear ho hch hg mm)
    refine hKQ.out _ _ ?_ (λhHeld=>?_)
    ·exact z7t
    clear hKQ KQ
    refine Qa 14 (h:=Qa 15 (h:=?_))
    refine tr [16] (.cons rfl (λKQ hKQ=>?_) .nil)
    go_simp
    refine hKQ.out _ _ ?_ (λhHeld=>?_)
    ·exact z7t
    clear hKQ KQ
    refine wpAnyH_done yak ?_ _
    generalize hW2:World.setCell w4 ⟨br,2,none⟩ (.slice (some ⟨g2,0,none⟩) (n+1) cp2)=W2 at H2⊢
    have q0:=H2.out.keep (br,0,ptr bp) yaj
    have q1:=H2.out.keep (bp,1, .int .i64 c) yaj
    have q3:=H2.out.cell (ztx br zv n xs3) yaj
    dsimp only at q0 q1 q3
    have m0:br<W2.heap.size:=blt q0
    have m1:bp<W2.heap.size:=blt q1
    have RW2:=λz=>((H2.out.below (X:=W2.alloc (.cells #[.int .i64 z] 3)) ((Below.refl _ _).alloc (Nat.le_refl _) _)).row (ztx br zv n xs3) yaj)
    clear hW2 hHeld
    go_wp2_with (at_builtin;refine Zk rfl _ _ 52 rfl 3 j0 (.int .i64 0) 8 Tryz.underlying52 hj0 hy0 hy1 hy2 rfl zv n xs3 rfl (RW2 _) ⟨W2.heap.size,0,none⟩ (.int .i64 _) rfl (cell_one_new _ _ _) rfl hl1 hl3 ?_;go_must (intro g3 cp3 w5 ho hch hg;have H3:=hid (SlotsAt.push2 H2.out rfl rfl rfl ((Below.refl _ _).alloc (Nat.le_refl _) _) ho hch hg);have mm:=H2.out.mid (s:=ztx br zv n xs3) yaj ((Below.refl _ _).alloc (Nat.le_refl _) _) hch;have f3:=(mm.1 (ztx br zv n xs3) yaj).1;have f4:=(mm.1 (ztx br zv n xs3) yaj).2;dsimp only at f3 f4;clear ho hch hg mm))
    generalize hW3:World.setCell w5 ⟨br,3,none⟩ (.slice (some ⟨g3,0,none⟩) (n+1) cp3)=W3 at H3⊢
    have s0:=H3.out.keep (br,0,ptr bp) yaj
    have s1:=H3.out.keep (bp,1, .int .i64 c) yaj
    have s2:=(H3.out.fr (bp,1) yaj).2
    dsimp only at s0 s1 s2
    have H4:=H3.out
    have H5:=λz=>hid ((H4.set (b:=bp) (o:=1) (v:= .int .i64 (c+z)) (K':=[(bp,1, .int .i64 (c+z))]) (by exact s1) (λs hs=>⟨by simp at hs;rcases hs with rfl|rfl|rfl<;>exact .inl HBB.out,λg hg=>((H4.nb s hs g hg).2 (bp,1, .int .i64 c) yaj)⟩) (λ_=>HM.out) (λq hq=> .inr (by simpa using hq))).below (Qi _ _))
    clear hW3 H4
    have n0:br<W3.heap.size:=blt s0
    have n1:bp<W3.heap.size:=blt s1
    go_wp2_with fail
    refine wp_region_held_drew (S:=(λw'=>w'.cell? ⟨br,0,none⟩=some (ptr bp))) yak ?_ (λhHeld=>?_)
    ·(try dsimp only);go_keep
    refine Qa 0 (h:=Qa 1 (h:=Qa 2 (h:=Qa 3 (h:=Qa 4 (h:=Qa 5 (h:=Qa 6 (h:=Qa 7 (h:=Qa 8 (h:=Qa 9 (h:=Qa 11 (h:=?_)))))))))))
    refine tr [10] (.cons rfl (λKQ hKQ=>?_) .nil)
    go_simp
    refine hKQ.out _ _ ?_ (λhHeld=>?_)
    ·(try dsimp only);exact hHeld
    clear hKQ KQ
    refine Qa 12 (h:=Qa 13 (h:=Qa 14 (h:=?_)))
    refine tr [15] (.cons rfl (λKQ hKQ=>?_) .nil)
    go_simp
    refine hKQ.out _ _ ?_ (λhHeld=>?_)
    ·(try dsimp only);exact (Qb (.inl HBB.out)).trans hHeld
    clear hKQ KQ
    refine wpAnyH_done yak ?_ _
    go_wp2
    go_ret
    exact ⟨rfl,_,_,_,_,_,_,(H5 _).out⟩
end
end Go.Proofs.YtphcopbffecceaaGreatDoor
