import Derived.Test.YtiiepngikigmbaaGreatDoorP22
set_option maxRecDepth 100000
set_option maxHeartbeats 2000000
namespace Go.Proofs.YtiiepngikigmbaaGreatDoor
open Go.RowKit
variable{k:Bk}
section
variable{W w w':World}{x:Cx}{K:List (Nat×Nat×Value)}{m:Cm}{c:Nat}{s:Ck}
theorem Cd.drew(h:Cd W x K m w c s):Cd W x K m w.drew c s:=h.below (Qi _ w)
theorem Cd.alloc(h:Cd W x K m w c s)(o:Obj):Cd W x K m (w.alloc o) c s:=h.below ((Below.refl _ w).alloc (Nat.le_refl _) o)
theorem Oi(h:Cw W x K w c s)(hG:s.g<10000000):
  Cl 141 #[ptr c] w λe w'=>e= .returned (.tuple #[])/\Cw W x K w' c s.trapIf:=by
 obtain ⟨i0,hi0,hz0,hz1,hz2⟩:=info_parts zyr
 obtain ⟨m,hm⟩:=h
 have hc:=hm.c6
 have lb:=hm.lt
 have hT:=hm.ok.t
 have hLg:=hm.ok.l
 have hl1:s.T.length+1<=maxLen:=ymb
 have hl2:(s.T.length+1)*8<=140737488355328:=yl5
 have nc: ¬m.tv.ownBlock=some c:=λe=>by have:=hm.ltv _ e;rw [hm.lc] at this;omega
 have NC:Hid (∀(w1 w3:World) (o:Obj),w1.cell? ⟨c,6,none⟩=some m.tv->c<w1.heap.size->Chg (λk _=>m.tv.ownBlock=some k) (w1.alloc o) w3->w3.cell? ⟨c,6,none⟩=some m.tv):=hid λw1 w3 o h1 h2 hch=>(hch.cell _ _ yma nc).trans ((World.cell?_alloc_past _ _ _ h2).trans h1)
 have NF:Hid (∀(w1 w3:World) (o:Obj),w1.frozen? ⟨c,6,none⟩=false->c<w1.heap.size->Chg (λk _=>m.tv.ownBlock=some k) (w1.alloc o) w3->w3.frozen? ⟨c,6,none⟩=false):=hid λw1 w3 o h1 h2 hch=>(hch.frozen _ _ yma).trans ((World.frozen?_alloc_past _ _ _ h2).trans h1)
 have H:=hid hm
 clear hm nc
 go_enter Tryz.func141,Tryz.ntmps141
 go_wp2_with fail
 go_region_law (first
  |(go_simp;go_at_call 98;refine (zai H.out.drew [yJz,yR4] yl6 ⟨by decide,by decide,trivial⟩ yl5).mono ?_;rintro e w1 ⟨bl,ba,rfl,lab1,lv1,h1⟩;have hc1:w1.cell? ⟨c,6,none⟩=some m.tv:=h1.c6;have hf1:=h1.free 6;have lb1:=h1.lt;have H1:=hid h1;clear h1 hc)
  |(refine Je rfl (.tmp 6) (.tmp 12) 96 rfl 1 i0 .nilFunc 1 8 yl8 Tryz.underlying96 hi0 hz0 hz1 hz2 rfl m.tv s.T.length m.TV rfl (H1.out.trow.alloc _) ⟨w1.heap.size,0,none⟩ [zcx bl ba] rfl rfl (cell_one_new _ _ _) (by simp [Value.oneCell',zcx]) hl1 hl2 ?_;intro g cp w3 ho hch hg;have hcb:=NC.out w1 w3 _ hc1 lb1 hch;have hfb:=NF.out w1 w3 _ hf1 lb1 hch;have HR:=hid (((H1.out.alloc _).pushTrap ((H1.out.alloc _).isLeap (bl:=bl) (ba:=ba) (n:=s.L.length) yl6 yl6) ymj (by simp only [Ck.add];omega) ho hch hg).less (K':=K) (λp hp=>List.mem_cons_of_mem _ (List.mem_cons_of_mem _ hp)));clear ho hch hg hc1 hf1))
 all_goals
  go_wp2
  go_end0
  exact ⟨rfl,HR.out⟩
theorem Sq(hk:s.blk=some k):s.bk=k:=by simp [Ck.bk,hk]
theorem zgi(h:Cw W x K w c s)(hk:s.blk=some k)(hG:s.g<10000000):
  Cl 166 #[ptr c] w λe w'=>e= .returned (.tuple #[])/\Cw W x K w' c s.undoIf:=by
 obtain ⟨i0,hi0,hz0,hz1,hz2⟩:=info_parts zyr
 obtain ⟨m,hm⟩:=h
 have hb:=hm.bk k hk
 have hc5:w.cell? ⟨c,5,none⟩=some (ptr m.b):=by rw [hm.c5];simp only [zjz,hk]
 have hu:=hb.un
 have lb:=hm.lt
 have hU:=(hm.ok.u k hk).1
 have hLg:=hm.ok.l
 have hl1:k.undo.length+1<=maxLen:=ymb
 have hl2:(k.undo.length+1)*8<=140737488355328:=yl5
 have nc: ¬m.uv.ownBlock=some m.b:=λe=>by have:=hb.luv _ e;rw [hb.lbk] at this;omega
 have NC:Hid (∀(w1 w3:World) (o:Obj),w1.cell? ⟨m.b,18,none⟩=some m.uv->Chg (λk _=>m.uv.ownBlock=some k) (w1.alloc o) w3->w3.cell? ⟨m.b,18,none⟩=some m.uv):=hid λw1 w3 o h1 hch=>by
  have h2:=blt h1
  exact (hch.cell _ _ (by simp at h2⊢;omega) nc).trans ((World.cell?_alloc_past _ _ _ h2).trans h1)
 have NF:Hid (∀(w1 w3:World) (o:Obj),w1.frozen? ⟨m.b,18,none⟩=false->m.b<w1.heap.size->Chg (λk _=>m.uv.ownBlock=some k) (w1.alloc o) w3->w3.frozen? ⟨m.b,18,none⟩=false):=hid λw1 w3 o h1 h2 hch=>(hch.frozen _ _ yma).trans ((World.frozen?_alloc_past _ _ _ h2).trans h1)
 have nc5: ¬m.uv.ownBlock=some c:=λe=>by have:=hb.luv _ e;rw [hm.lc] at this;omega
 have ncb:c≠m.b:=λe=>by have:=hb.lbk;rw [<-e,hm.lc] at this;omega
 have N5:Hid (∀(w1 w3:World) (o:Obj),w1.cell? ⟨c,5,none⟩=some (ptr m.b)->Chg (λk _=>m.uv.ownBlock=some k) (w1.alloc o) w3->w3.cell? ⟨c,5,none⟩=some (ptr m.b)):=hid λw1 w3 o h1 hch=>by
  have h2:=blt h1
  exact (hch.cell _ _ (by simp at h2⊢;omega) nc5).trans ((World.cell?_alloc_past _ _ _ h2).trans h1)
 have hR:s.undoIf={s.add [yJz,yR4] with blk:=some {k with undo:=k.undo++[s.L.length]}}:=by simp only [Ck.undoIf,Sq hk]
 rw [hR]
 have lbb:=Qd hb.sh
 have H:=hid hm
 clear hm nc hb hR nc5
 generalize hmb:m.b=b at*
 have HD5:Hid (∀{w1:World} (lab1:Nat->Nat) (lv1:Value),w1.cell? ⟨c,5,none⟩=some (zjz {m with lab:=lab1,lv:=lv1} (s.add [yJz,yR4]))->w1.cell? ⟨c,5,none⟩=some (ptr b)):=hid λ_ _ e=>by
  rw [e];simp only [zjz,Ck.add,hk,hmb]
 go_enter Tryz.func166,Tryz.ntmps166
 go_wp2_with fail
 refine wp_region_held_drew (S:=(λw'=>w'.cell? ⟨c,5,none⟩=some (ptr b))) yl7 ?_ (λhHeld=>?_)
 ·(try dsimp only);go_keep
 refine Qa 0 (h:=Qa 1 (h:=Qa 2 (h:=Qa 3 (h:=Qa 4 (h:=Qa 5 (h:=Qa 6 (h:=Qa 7 (h:=Qa 8 (h:=Qa 9 (h:=Qa 11 (h:=Qa 12 (h:=Qa 13 (h:=?_)))))))))))))
 refine z6u [10,14] (.cons rfl (λKQ hKQ=>?_) (.cons rfl (λKQ hKQ=>?_) .nil))
 go_simp
 refine hKQ.out _ _ ?_ (λhHeld=>?_)
 ·exact yjv
 clear hKQ KQ
 refine z6u [14] (.cons rfl (λKQ hKQ=>?_) .nil)
 go_simp
 refine hKQ.out _ _ ?_ (λhHeld=>?_)
 ·exact yjv
 clear hKQ KQ
 refine z6u [15] (.cons rfl (λKQ hKQ=>?_) .nil)
 (go_simp;go_at_call 98;refine (zai H.out.drew [yJz,yR4] yl6 ⟨by decide,by decide,trivial⟩ yl5).mono ?_;rintro e w1 ⟨bl,ba,rfl,lab1,lv1,h1⟩;have h1b:=h1.bk k hk;have hd1:w1.cell? ⟨c,5,none⟩=some (ptr b):=HD5.out _ _ h1.c5;have hu1:w1.cell? ⟨b,18,none⟩=some m.uv:=hmb▸h1b.un;have hf1:w1.frozen? ⟨b,18,none⟩=false:=hmb▸h1b.free 18;have lb1:=h1.lt;have lbb1:b<w1.heap.size:=blt hu1;have HR1:=hid h1b.urow;have H1:=hid h1;clear h1 h1b hc5 hu)
 refine hKQ.out _ _ ?_ (λhHeld=>?_)
 ·exact yjv
 clear hKQ KQ
 refine z6u [16] (.cons rfl (λKQ hKQ=>?_) .nil)
 go_simp
 rotate_left
 go_simp
 refine hKQ.out _ _ ?_ (λhHeld=>?_)
 ·exact yjv
 clear hKQ KQ
 refine z6u [10,15] (.cons rfl (λKQ hKQ=>?_) (.cons rfl (λKQ hKQ=>?_) .nil))
 go_simp
 refine hKQ.out _ _ ?_ (λhHeld=>?_)
 ·exact yjv
 clear hKQ KQ
 refine z6u [15] (.cons rfl (λKQ hKQ=>?_) .nil)
 (go_simp;go_at_call 98;refine (zai H.out.drew [yJz,yR4] yl6 ⟨by decide,by decide,trivial⟩ yl5).mono ?_;rintro e w1 ⟨bl,ba,rfl,lab1,lv1,h1⟩;have h1b:=h1.bk k hk;have hd1:w1.cell? ⟨c,5,none⟩=some (ptr b):=HD5.out _ _ h1.c5;have hu1:w1.cell? ⟨b,18,none⟩=some m.uv:=hmb▸h1b.un;have hf1:w1.frozen? ⟨b,18,none⟩=false:=hmb▸h1b.free 18;have lb1:=h1.lt;have lbb1:b<w1.heap.size:=blt hu1;have HR1:=hid h1b.urow;have H1:=hid h1;clear h1 h1b hc5 hu)
 refine hKQ.out _ _ ?_ (λhHeld=>?_)
 ·exact yjv
 clear hKQ KQ
 refine z6u [16] (.cons rfl (λKQ hKQ=>?_) .nil)
 go_simp
 rotate_left
 (go_simp;go_at_call 98;refine (zai H.out.drew [yJz,yR4] yl6 ⟨by decide,by decide,trivial⟩ yl5).mono ?_;rintro e w1 ⟨bl,ba,rfl,lab1,lv1,h1⟩;have h1b:=h1.bk k hk;have hd1:w1.cell? ⟨c,5,none⟩=some (ptr b):=HD5.out _ _ h1.c5;have hu1:w1.cell? ⟨b,18,none⟩=some m.uv:=hmb▸h1b.un;have hf1:w1.frozen? ⟨b,18,none⟩=false:=hmb▸h1b.free 18;have lb1:=h1.lt;have lbb1:b<w1.heap.size:=blt hu1;have HR1:=hid h1b.urow;have H1:=hid h1;clear h1 h1b hc5 hu)
 refine hKQ.out _ _ ?_ (λhHeld=>?_)
 ·exact yjv
 clear hKQ KQ
 refine z6u [10,16] (.cons rfl (λKQ hKQ=>?_) (.cons rfl (λKQ hKQ=>?_) .nil))
 go_simp
 refine hKQ.out _ _ ?_ (λhHeld=>?_)
 ·exact yjv
 clear hKQ KQ
 refine z6u [16] (.cons rfl (λKQ hKQ=>?_) .nil)
 go_simp
 rotate_left
 go_simp
 refine hKQ.out _ _ ?_ (λhHeld=>?_)
 ·exact yjv
 clear hKQ KQ
 refine z6u [10] (.cons rfl (λKQ hKQ=>?_) .nil)
 go_simp
 rotate_left
 all_goals
  refine hKQ.out _ _ ?_ (λhHeld=>?_)
  ·exact yjv
  clear hKQ KQ
  refine z6u [17] (.cons rfl (λKQ hKQ=>?_) .nil)
  (refine Je rfl (.tmp 12) (.tmp 18) 96 rfl 1 i0 .nilFunc 1 8 yl8 Tryz.underlying96 hi0 hz0 hz1 hz2 rfl m.uv k.undo.length m.UV rfl (HR1.out.alloc _) ⟨w1.heap.size,0,none⟩ [zcx bl ba] rfl rfl (cell_one_new _ _ _) (by simp [Value.oneCell']) hl1 hl2 ?_;intro g cp w3 ho hch hg;have hcb:=NC.out w1 w3 _ hu1 hch;have hfb:=NF.out w1 w3 _ hf1 lbb1 hch;have hd3:=N5.out w1 w3 _ hd1 hch;have HR:=hid (((H1.out.alloc _).pushUndo (k:=k) hk ((H1.out.alloc _).isLeap (bl:=bl) (ba:=ba) (n:=s.L.length) yl6 yl6) ymj (by simp only [Ck.add];omega) ho hch hg).less (K':=K) (λp hp=>List.mem_cons_of_mem _ (List.mem_cons_of_mem _ hp)));clear ho hch hg hu1 hf1 hd1)
  refine hKQ.out _ _ ?_ (λhHeld=>?_)
  ·exact yjv
  clear hKQ KQ
  refine Qa 18 (h:=Qa 19 (h:=?_))
  refine z6u [20] (.cons rfl (λKQ hKQ=>?_) .nil)
  go_simp
  refine hKQ.out _ _ ?_ (λhHeld=>?_)
  ·exact yjv
  clear hKQ KQ
  refine wpAnyH_done yl7 ?_ _
  go_end0
  have:=HR.out
  simp only [hmb] at this
  exact ⟨rfl,this⟩
end
end Go.Proofs.YtiiepngikigmbaaGreatDoor
