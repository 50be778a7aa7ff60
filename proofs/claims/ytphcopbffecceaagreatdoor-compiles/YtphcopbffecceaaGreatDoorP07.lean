import Derived.Test.YtphcopbffecceaaGreatDoorP06
import Derived.Deep.RegionHeld3
set_option maxRecDepth 100000
set_option maxHeartbeats 2000000
namespace Go.Proofs.YtphcopbffecceaaGreatDoor
open Go.RowKit
variable{n:Int}{k:Bk}{a:PV}{of:ByteArray}{b bx:Nat}
section
variable{W w w':World}{x:Cx}{K:List (Nat×Nat×Value)}{m:Cm}{c:Nat}{s:Ck}
theorem Cd.drew(h:Cd W x K m w c s):Cd W x K m w.drew c s:=h.below (Qi _ w)
theorem Cd.alloc(h:Cd W x K m w c s)(o:Obj):Cd W x K m (w.alloc o) c s:=h.below ((Below.refl _ w).alloc (Nat.le_refl _) o)
theorem Oi(h:Cw W x K w c s)(hG:s.g<10000000):
  Cl 138 #[ptr c] w λe w'=>e= .returned (.tuple #[])/\Cw W x K w' c s.trapIf:=by
 obtain ⟨i0,hi0,hz0,hz1,hz2⟩:=info_parts zyr
 obtain ⟨m,hm⟩:=h
 have hc:=hm.c6
 have lb:=hm.lt
 have hT:=hm.ok.t
 have hLg:=hm.ok.l
 have hl1:s.T.length+1<=maxLen:=yap
 have hl2:(s.T.length+1)*8<=140737488355328:=yai
 have nc: ¬m.tv.ownBlock=some c:=λe=>by have:=hm.ltv _ e;rw [hm.lc] at this;omega
 have NC:Hid (∀(w1 w3:World) (o:Obj),w1.cell? ⟨c,6,none⟩=some m.tv->c<w1.heap.size->Chg (λk _=>m.tv.ownBlock=some k) (w1.alloc o) w3->w3.cell? ⟨c,6,none⟩=some m.tv):=hid λw1 w3 o h1 h2 hch=>(hch.cell _ _ yan nc).trans ((World.cell?_alloc_past _ _ _ h2).trans h1)
 have NF:Hid (∀(w1 w3:World) (o:Obj),w1.frozen? ⟨c,6,none⟩=false->c<w1.heap.size->Chg (λk _=>m.tv.ownBlock=some k) (w1.alloc o) w3->w3.frozen? ⟨c,6,none⟩=false):=hid λw1 w3 o h1 h2 hch=>(hch.frozen _ _ yan).trans ((World.frozen?_alloc_past _ _ _ h2).trans h1)
 have H:=hid hm
 clear hm nc
 go_enter Tryz.func138,Tryz.ntmps138
 go_wp2_with fail
 go_region_law (first
  |(go_simp;go_at_call 102;refine (zai H.out.drew [yJz,yR4] yaj ⟨by decide,by decide,trivial⟩ yai).mono ?_;rintro e w1 ⟨bl,ba,rfl,lab1,lv1,h1⟩;have hc1:w1.cell? ⟨c,6,none⟩=some m.tv:=h1.c6;have hf1:=h1.free 6;have lb1:=h1.lt;have H1:=hid h1;clear h1 hc)
  |(refine Je rfl (.tmp 6) (.tmp 12) 120 rfl 1 i0 .nilFunc 1 8 yal Tryz.underlying120 hi0 hz0 hz1 hz2 rfl m.tv s.T.length m.TV rfl (H1.out.trow.alloc _) ⟨w1.heap.size,0,none⟩ [zcx bl ba] rfl rfl (cell_one_new _ _ _) (by simp [Value.oneCell',zcx]) hl1 hl2 ?_;intro g cp w3 ho hch hg;have hcb:=NC.out w1 w3 _ hc1 lb1 hch;have hfb:=NF.out w1 w3 _ hf1 lb1 hch;have HR:=hid (((H1.out.alloc _).pushTrap ((H1.out.alloc _).isLeap (bl:=bl) (ba:=ba) (n:=s.L.length) yaj yaj) (by simp [Ck.add]) (by simp only [Ck.add];omega) ho hch hg).less (K':=K) (λp hp=>List.mem_cons_of_mem _ (List.mem_cons_of_mem _ hp)));clear ho hch hg hc1 hf1))
 all_goals
  go_wp2
  go_end0
  exact ⟨rfl,HR.out⟩
theorem Sq(hk:s.blk=some k):s.bk=k:=by simp [Ck.bk,hk]
theorem zgi(h:Cw W x K w c s)(hk:s.blk=some k)(hG:s.g<10000000):
  Cl 163 #[ptr c] w λe w'=>e= .returned (.tuple #[])/\Cw W x K w' c s.undoIf:=by
 obtain ⟨i0,hi0,hz0,hz1,hz2⟩:=info_parts zyr
 obtain ⟨m,hm⟩:=h
 have hb:=hm.bk k hk
 have hc5:w.cell? ⟨c,5,none⟩=some (ptr m.b):=by rw [hm.c5];simp only [zjz,hk]
 have hu:=hb.un
 have lb:=hm.lt
 have hU:=(hm.ok.u k hk).1
 have hLg:=hm.ok.l
 have hl1:k.undo.length+1<=maxLen:=yap
 have hl2:(k.undo.length+1)*8<=140737488355328:=yai
 have nc: ¬m.uv.ownBlock=some m.b:=λe=>by have:=hb.luv _ e;rw [hb.lbk] at this;omega
 have NC:Hid (∀(w1 w3:World) (o:Obj),w1.cell? ⟨m.b,18,none⟩=some m.uv->Chg (λk _=>m.uv.ownBlock=some k) (w1.alloc o) w3->w3.cell? ⟨m.b,18,none⟩=some m.uv):=hid λw1 w3 o h1 hch=>by
  have h2:=blt h1
  exact (hch.cell _ _ (by simp at h2⊢;omega) nc).trans ((World.cell?_alloc_past _ _ _ h2).trans h1)
 have NF:Hid (∀(w1 w3:World) (o:Obj),w1.frozen? ⟨m.b,18,none⟩=false->m.b<w1.heap.size->Chg (λk _=>m.uv.ownBlock=some k) (w1.alloc o) w3->w3.frozen? ⟨m.b,18,none⟩=false):=hid λw1 w3 o h1 h2 hch=>(hch.frozen _ _ yan).trans ((World.frozen?_alloc_past _ _ _ h2).trans h1)
 have nc5: ¬m.uv.ownBlock=some c:=λe=>by have:=hb.luv _ e;rw [hm.lc] at this;omega
 have ncb:c≠m.b:=λe=>by have:=hb.lbk;rw [<-e,hm.lc] at this;omega
 have N5:Hid (∀(w1 w3:World) (o:Obj),w1.cell? ⟨c,5,none⟩=some (ptr m.b)->Chg (λk _=>m.uv.ownBlock=some k) (w1.alloc o) w3->w3.cell? ⟨c,5,none⟩=some (ptr m.b)):=hid λw1 w3 o h1 hch=>by
  have h2:=blt h1
  exact (hch.cell _ _ (by simp at h2⊢;omega) nc5).trans ((World.cell?_alloc_past _ _ _ h2).trans h1)
 have hR:s.undoIf={s.add [yJz,yR4] with blk:=some {k with undo:=k.undo++[s.L.length]}}:=by simp only [Ck.undoIf,Sq hk]
 rw [hR]
 have lbb:=Qd hb.sh
 have H:=hid hm
 clear hm nc hb hR nc5
 generalize hmb:m.b=b at*
 have HD5:Hid (∀{w1:World} (lab1:Nat->Nat) (lv1:Value),w1.cell? ⟨c,5,none⟩=some (zjz {m with lab:=lab1,lv:=lv1} (s.add [yJz,yR4]))->w1.cell? ⟨c,5,none⟩=some (ptr b)):=hid λ_ _ e=>by
  rw [e];simp only [zjz,Ck.add,hk,hmb]
 go_enter Tryz.func163,Tryz.ntmps163
 go_wp2_with fail
 refine wp_region_held_drew (S:=(λw'=>w'.cell? ⟨c,5,none⟩=some (ptr b))) yak ?_ (λhHeld=>?_)
 ·(try dsimp only);go_keep
 refine Qa 0 (h:=Qa 1 (h:=Qa 2 (h:=Qa 3 (h:=Qa 4 (h:=Qa 5 (h:=Qa 6 (h:=Qa 7 (h:=Qa 8 (h:=Qa 9 (h:=Qa 11 (h:=Qa 12 (h:=Qa 13 (h:=?_)))))))))))))
 refine z6u [10,14] (.cons rfl (λKQ hKQ=>?_) (.cons rfl (λKQ hKQ=>?_) .nil))
 go_simp
 refine hKQ.out _ _ ?_ (λhHeld=>?_)
 ·exact z7n
 clear hKQ KQ
 refine z6u [14] (.cons rfl (λKQ hKQ=>?_) .nil)
 go_simp
 refine hKQ.out _ _ ?_ (λhHeld=>?_)
 ·exact z7n
 clear hKQ KQ
 refine z6u [15] (.cons rfl (λKQ hKQ=>?_) .nil)
 (go_simp;go_at_call 102;refine (zai H.out.drew [yJz,yR4] yaj ⟨by decide,by decide,trivial⟩ yai).mono ?_;rintro e w1 ⟨bl,ba,rfl,lab1,lv1,h1⟩;have h1b:=h1.bk k hk;have hd1:w1.cell? ⟨c,5,none⟩=some (ptr b):=HD5.out _ _ h1.c5;have hu1:w1.cell? ⟨b,18,none⟩=some m.uv:=hmb▸h1b.un;have hf1:w1.frozen? ⟨b,18,none⟩=false:=hmb▸h1b.free 18;have lb1:=h1.lt;have lbb1:b<w1.heap.size:=blt hu1;have HR1:=hid h1b.urow;have H1:=hid h1;clear h1 h1b hc5 hu)
 refine hKQ.out _ _ ?_ (λhHeld=>?_)
 ·exact z7n
 clear hKQ KQ
 refine z6u [16] (.cons rfl (λKQ hKQ=>?_) .nil)
 go_simp
 rotate_left
 go_simp
 refine hKQ.out _ _ ?_ (λhHeld=>?_)
 ·exact z7n
 clear hKQ KQ
 refine z6u [10,15] (.cons rfl (λKQ hKQ=>?_) (.cons rfl (λKQ hKQ=>?_) .nil))
 go_simp
 refine hKQ.out _ _ ?_ (λhHeld=>?_)
 ·exact z7n
 clear hKQ KQ
 refine z6u [15] (.cons rfl (λKQ hKQ=>?_) .nil)
 (go_simp;go_at_call 102;refine (zai H.out.drew [yJz,yR4] yaj ⟨by decide,by decide,trivial⟩ yai).mono ?_;rintro e w1 ⟨bl,ba,rfl,lab1,lv1,h1⟩;have h1b:=h1.bk k hk;have hd1:w1.cell? ⟨c,5,none⟩=some (ptr b):=HD5.out _ _ h1.c5;have hu1:w1.cell? ⟨b,18,none⟩=some m.uv:=hmb▸h1b.un;have hf1:w1.frozen? ⟨b,18,none⟩=false:=hmb▸h1b.free 18;have lb1:=h1.lt;have lbb1:b<w1.heap.size:=blt hu1;have HR1:=hid h1b.urow;have H1:=hid h1;clear h1 h1b hc5 hu)
 refine hKQ.out _ _ ?_ (λhHeld=>?_)
 ·exact z7n
 clear hKQ KQ
 refine z6u [16] (.cons rfl (λKQ hKQ=>?_) .nil)
 go_simp
 rotate_left
 (go_simp;go_at_call 102;refine (zai H.out.drew [yJz,yR4] yaj ⟨by decide,by decide,trivial⟩ yai).mono ?_;rintro e w1 ⟨bl,ba,rfl,lab1,lv1,h1⟩;have h1b:=h1.bk k hk;have hd1:w1.cell? ⟨c,5,none⟩=some (ptr b):=HD5.out _ _ h1.c5;have hu1:w1.cell? ⟨b,18,none⟩=some m.uv:=hmb▸h1b.un;have hf1:w1.frozen? ⟨b,18,none⟩=false:=hmb▸h1b.free 18;have lb1:=h1.lt;have lbb1:b<w1.heap.size:=blt hu1;have HR1:=hid h1b.urow;have H1:=hid h1;clear h1 h1b hc5 hu)
 refine hKQ.out _ _ ?_ (λhHeld=>?_)
 ·exact z7n
 clear hKQ KQ
 refine z6u [10,16] (.cons rfl (λKQ hKQ=>?_) (.cons rfl (λKQ hKQ=>?_) .nil))
 go_simp
 refine hKQ.out _ _ ?_ (λhHeld=>?_)
 ·exact z7n
 clear hKQ KQ
 refine z6u [16] (.cons rfl (λKQ hKQ=>?_) .nil)
 go_simp
 rotate_left
 go_simp
 refine hKQ.out _ _ ?_ (λhHeld=>?_)
 ·exact z7n
 clear hKQ KQ
 refine z6u [10] (.cons rfl (λKQ hKQ=>?_) .nil)
 go_simp
 rotate_left
 all_goals
  refine hKQ.out _ _ ?_ (λhHeld=>?_)
  ·exact z7n
  clear hKQ KQ
  refine z6u [17] (.cons rfl (λKQ hKQ=>?_) .nil)
  (refine Je rfl (.tmp 12) (.tmp 18) 120 rfl 1 i0 .nilFunc 1 8 yal Tryz.underlying120 hi0 hz0 hz1 hz2 rfl m.uv k.undo.length m.UV rfl (HR1.out.alloc _) ⟨w1.heap.size,0,none⟩ [zcx bl ba] rfl rfl (cell_one_new _ _ _) yax hl1 hl2 ?_;intro g cp w3 ho hch hg;have hcb:=NC.out w1 w3 _ hu1 hch;have hfb:=NF.out w1 w3 _ hf1 lbb1 hch;have hd3:=N5.out w1 w3 _ hd1 hch;have HR:=hid (((H1.out.alloc _).pushUndo (k:=k) hk ((H1.out.alloc _).isLeap (bl:=bl) (ba:=ba) (n:=s.L.length) yaj yaj) (by simp [Ck.add]) (by simp only [Ck.add];omega) ho hch hg).less (K':=K) (λp hp=>List.mem_cons_of_mem _ (List.mem_cons_of_mem _ hp)));clear ho hch hg hu1 hf1 hd1)
  refine hKQ.out _ _ ?_ (λhHeld=>?_)
  ·exact z7n
  clear hKQ KQ
  refine Qa 18 (h:=Qa 19 (h:=?_))
  refine z6u [20] (.cons rfl (λKQ hKQ=>?_) .nil)
  go_simp
  refine hKQ.out _ _ ?_ (λhHeld=>?_)
  ·exact z7n
  clear hKQ KQ
  refine wpAnyH_done yak ?_ _
  go_end0
  have:=HR.out
  simp only [hmb] at this
  exact ⟨rfl,this⟩
end
section
variable{W w w':World}{x:Cx}{K:List (Nat×Nat×Value)}{m:Cm}{c:Nat}{s:Ck}
theorem Qx(s:Ck)(ws:List ByteArray):(s.add ws).L.length=s.L.length+1:=by simp [Ck.add]
theorem Vv(s:Ck)(n:Nat):(s.land n).L.length=s.L.length:=by simp [Ck.land]
theorem Ur(s:Ck):s.undoIf.L.length=s.L.length+1:=by simp [Ck.undoIf,Ck.add]
theorem zak(s:Ck)(n:Nat):(s.back n).L.length=s.L.length+1:=by simp [Ck.back,Ck.add]
theorem Sr(u:ByteArray)(n:Int)(s:Ck):(Zu u n s).L.length=s.L.length+2:=by simp [Zu,Ck.add]
theorem z2n(h:Cw W x K w c s)(hk:s.blk=some k)(h0:0<=n)(h1:n<=6)(hG:s.g+100<10000000):
  Cl 149 #[ptr c, .int .i64 n] w λe w'=>e= .returned (.tuple #[])/\Cw W x K w' c (x.lockC n s):=by
 have hth:=h.th
 have H0:=hid h
 clear h
 have q6:IntKind.i64.wrap (6+n)=6+n:=yar
 have q18:IntKind.i64.wrap (18+n)=18+n:=yar
 go_enter Tryz.func149,Tryz.ntmps149
 go_wp2_with fail
 go_region_law (first
  |(go_simp;go_at_call 123;refine (Fz H0.out.drew (6+n) yai yai).mono ?_;rintro e wj0 ⟨rfl,q⟩;have HJ0:=hid q;clear q)
  |(go_simp;go_at_call 67;refine (Qp HJ0.out [Qw,yR4,y0,x.own (6+n)] yaj ⟨by decide,by decide,by decide,Ea hth _ yai yai,trivial⟩ yav).mono ?_;rintro e w1 ⟨rfl,q⟩;have H1:=hid q;clear q))
 go_wp2_with fail
 refine (Xo H1.out [yJz,yR4] yaj ⟨by decide,by decide,trivial⟩ ya0).mono ?_
 rintro e w2 ⟨bl1,ba1,rfl,q⟩
 have H2:=hid q
 clear q
 go_wp2_with fail
 go_region_law (first
  |(go_simp;go_at_call 162;refine (Fk H2.out.drew n yai yai).mono ?_;rintro e wj1 ⟨rfl,q⟩;have HJ1:=hid q;clear q)
  |(go_simp;go_at_call 67;refine (Qp HJ1.out [Qw,yR5,y0,ze5 (n)] yaj ⟨by decide,by decide,by decide,zn8 _ yai yai,trivial⟩ ya5).mono ?_;rintro e w3 ⟨rfl,q⟩;have H3:=hid q;clear q))
 go_wp2_with fail
 refine (Qp H3.out [yLt,yR4,yR5,yR6] yaj ⟨by decide,by decide,by decide,by decide,trivial⟩ ya6).mono ?_
 rintro e w4 ⟨rfl,q⟩
 have H4:=hid q
 clear q
 go_wp2_with fail
 refine (zgi H4.out (k:=k) hk ybw).mono ?_
 rintro e w5 ⟨rfl,q⟩
 have H5:=hid q
 clear q
 go_wp2_with fail
 go_region_law (first
  |(go_simp;go_at_call 123;refine (Fz H5.out.drew (18+n) yai yai).mono ?_;rintro e wj2 ⟨rfl,q⟩;have HJ2:=hid q;clear q)
  |(go_simp;go_at_call 67;refine (Qp HJ2.out [Qh,y0,x.own (18+n),yR5] yaj ⟨by decide,by decide,Ea hth _ yai yai,by decide,trivial⟩ ybx).mono ?_;rintro e w6 ⟨rfl,q⟩;have H6:=hid q;clear q))
 go_wp2_with fail
 go_region_law (first
  |(go_simp;go_at_call 162;refine (Fk H6.out.drew n yai yai).mono ?_;rintro e wj3 ⟨rfl,q⟩;have HJ3:=hid q;clear q)
  |(go_simp;go_at_call 164;refine (zl4 HJ3.out).mono ?_;rintro e wj4 ⟨rfl,q⟩;have HJ4:=hid q;clear q)
  |(go_simp;go_at_call 67;refine (Qp HJ4.out [zvf,yR4,y0,ze5 (n),yR5,x.lock] yaj ⟨by decide,by decide,by decide,zn8 _ yai yai,by decide,zyq hth,trivial⟩ (by show s.g+6<_;omega)).mono ?_;rintro e w7 ⟨rfl,q⟩;have H7:=hid q;clear q))
 go_wp2_with fail
 refine (zgi H7.out rfl (by show s.g+7<_;omega)).mono ?_
 rintro e w8 ⟨rfl,q⟩
 have H8:=hid q
 clear q
 go_wp2_with fail
 refine (Se H8.out (bl:=bl1) (ba:=ba1) (n:=(s.add [Qw,yR4,y0,x.own (6+n)]).L.length) yaj yaj (by simp only [Qx,Ur];omega) (by show s.g+8<_;omega)).mono ?_
 rintro e w9 ⟨rfl,q⟩
 have H9:=hid q
 clear q
 go_wp2
 go_end0
 exact ⟨rfl,H9.out.less (K':=K) (λp hp=>List.mem_cons_of_mem _ (List.mem_cons_of_mem _ hp))⟩
theorem z2o(h:Cw W x K w c s)(hk:s.blk=some k)(h0:0<=n)(h1:n<=6)(hG:s.g+100<10000000):
  Cl 150 #[ptr c, .int .i64 n] w λe w'=>e= .returned (.tuple #[])/\Cw W x K w' c (x.lookC n s):=by
 have hth:=h.th
 have H0:=hid h
 clear h
 have q12:IntKind.i64.wrap (12+n)=12+n:=yar
 go_enter Tryz.func150,Tryz.ntmps150
 go_wp2_with fail
 go_region_law (first
  |(go_simp;go_at_call 123;refine (Fz H0.out.drew (12+n) yai yai).mono ?_;rintro e wj0 ⟨rfl,q⟩;have HJ0:=hid q;clear q)
  |(go_simp;go_at_call 67;refine (Qp HJ0.out [Qw,yR4,y0,x.own (12+n)] yaj ⟨by decide,by decide,by decide,Ea hth _ yai yai,trivial⟩ yav).mono ?_;rintro e w1 ⟨rfl,q⟩;have H1:=hid q;clear q))
 go_wp2_with fail
 refine (Xo H1.out [yJz,yR4] yaj ⟨by decide,by decide,trivial⟩ ya0).mono ?_
 rintro e w2 ⟨bl1,ba1,rfl,q⟩
 have H2:=hid q
 clear q
 go_wp2_with fail
 refine (zdu H2.out (u:=y0) yal h0 yai (by show s.g+2+2<_;omega)).mono ?_
 rintro e w3 ⟨rfl,q⟩
 have H3:=hid q
 clear q
 go_wp2_with fail
 refine (zgi H3.out (k:=k) hk ybw).mono ?_
 rintro e w4 ⟨rfl,q⟩
 have H4:=hid q
 clear q
 go_wp2_with fail
 refine (Se H4.out (bl:=bl1) (ba:=ba1) (n:=(s.add [Qw,yR4,y0,x.own (12+n)]).L.length) yaj yaj (by simp only [Qx,Sr,Ur];omega) ybx).mono ?_
 rintro e w5 ⟨rfl,q⟩
 have H5:=hid q
 clear q
 go_wp2
 go_end0
 exact ⟨rfl,H5.out.less (K':=K) (λp hp=>List.mem_cons_of_mem _ (List.mem_cons_of_mem _ hp))⟩
theorem zz2(h:Cw W x K w c s)(h0:0<=n)(h1:n<=6)(hG:s.g+100<10000000):
  Cl 151 #[ptr c, .int .i64 n] w λe w'=>e= .returned (.tuple #[])/\Cw W x K w' c (x.storeC n s):=by
 have hth:=h.th
 have H0:=hid h
 clear h
 have q0:IntKind.i64.wrap n=n:=yar
 have q6:IntKind.i64.wrap (6+n)=6+n:=yar
 go_enter Tryz.func151,Tryz.ntmps151
 go_wp2_with fail
 go_region_law (first
  |(go_simp;go_at_call 123;refine (Fz H0.out.drew (6+n) yai yai).mono ?_;rintro e wj0 ⟨rfl,q⟩;have HJ0:=hid q;clear q)
  |(go_simp;go_at_call 67;refine (Qp HJ0.out [Qw,yR4,y0,x.own (6+n)] yaj ⟨by decide,by decide,by decide,Ea hth _ yai yai,trivial⟩ yav).mono ?_;rintro e w1 ⟨rfl,q⟩;have H1:=hid q;clear q))
 go_wp2_with fail
 refine (Xo H1.out [yJz,yR4] yaj ⟨by decide,by decide,trivial⟩ ya0).mono ?_
 rintro e w2 ⟨bl1,ba1,rfl,q⟩
 have H2:=hid q
 clear q
 go_wp2_with fail
 go_region_law (first
  |(go_simp;go_at_call 123;refine (Fz H2.out.drew n yai yai).mono ?_;rintro e wj1 ⟨rfl,q⟩;have HJ1:=hid q;clear q)
  |(go_simp;go_at_call 67;refine (Qp HJ1.out [Qw,yR4,y0,x.own (n)] yaj ⟨by decide,by decide,by decide,Ea hth _ yai yai,trivial⟩ ya5).mono ?_;rintro e w3 ⟨rfl,q⟩;have H3:=hid q;clear q))
 go_wp2_with fail
 go_region_law (first
  |(go_simp;go_at_call 140;refine (zl3 H3.out.drew n yai yai).mono ?_;rintro e wj2 ⟨rfl,q⟩;have HJ2:=hid q;clear q)
  |(go_simp;go_at_call 67;refine (Qp HJ2.out [Qh,y0,dec (n),yR4] yaj ⟨by decide,by decide,Sp _ yai yai,by decide,trivial⟩ ya6).mono ?_;rintro e w4 ⟨rfl,q⟩;have H4:=hid q;clear q))
 go_wp2_with fail
 go_region_law (first
  |(go_simp;go_at_call 162;refine (Fk H4.out.drew n yai yai).mono ?_;rintro e wj3 ⟨rfl,q⟩;have HJ3:=hid q;clear q)
  |(go_simp;go_at_call 67;refine (Qp HJ3.out [Qh,y0,ze5 (n),yR5] yaj ⟨by decide,by decide,zn8 _ yai yai,by decide,trivial⟩ ybw).mono ?_;rintro e w5 ⟨rfl,q⟩;have H5:=hid q;clear q))
 go_wp2_with fail
 refine (Se H5.out (bl:=bl1) (ba:=ba1) (n:=(s.add [Qw,yR4,y0,x.own (6+n)]).L.length) yaj yaj yb8 ybx).mono ?_
 rintro e w6 ⟨rfl,q⟩
 have H6:=hid q
 clear q
 go_wp2
 go_end0
 exact ⟨rfl,H6.out.less (K':=K) (λp hp=>List.mem_cons_of_mem _ (List.mem_cons_of_mem _ hp))⟩
theorem zvk(h:Cw W x K w c s)(h0:0<=n)(h1:n<=6)(hG:s.g+100<10000000):
  Cl 165 #[ptr c, .int .i64 n] w λe w'=>e= .returned (.tuple #[])/\Cw W x K w' c (x.unlockC n s):=by
 have hth:=h.th
 have H0:=hid h
 clear h
 have q18:IntKind.i64.wrap (18+n)=18+n:=yar
 go_enter Tryz.func165,Tryz.ntmps165
 go_wp2_with fail
 go_region_law (first
  |(go_simp;go_at_call 162;refine (Fk H0.out.drew n yai yai).mono ?_;rintro e wj0 ⟨rfl,q⟩;have HJ0:=hid q;clear q)
  |(go_simp;go_at_call 67;refine (Qp HJ0.out [Qw,yR4,y0,ze5 (n)] yaj ⟨by decide,by decide,by decide,zn8 _ yai yai,trivial⟩ yav).mono ?_;rintro e w1 ⟨rfl,q⟩;have H1:=hid q;clear q))
 go_wp2_with fail
 go_region_law (first
  |(go_simp;go_at_call 164;refine (zl4 H1.out.drew).mono ?_;rintro e wj1 ⟨rfl,q⟩;have HJ1:=hid q;clear q)
  |(go_simp;go_at_call 67;refine (Qp HJ1.out [yEq,yR4,yR4,x.lock] yaj ⟨by decide,by decide,by decide,zyq hth,trivial⟩ ya0).mono ?_;rintro e w2 ⟨rfl,q⟩;have H2:=hid q;clear q))
 go_wp2_with fail
 refine (Xo H2.out [yJz,yR4] yaj ⟨by decide,by decide,trivial⟩ ya5).mono ?_
 rintro e w3 ⟨bl2,ba2,rfl,q⟩
 have H3:=hid q
 clear q
 go_wp2_with fail
 go_region_law (first
  |(go_simp;go_at_call 123;refine (Fz H3.out.drew (18+n) yai yai).mono ?_;rintro e wj2 ⟨rfl,q⟩;have HJ2:=hid q;clear q)
  |(go_simp;go_at_call 67;refine (Qp HJ2.out [Qw,yR4,y0,x.own (18+n)] yaj ⟨by decide,by decide,by decide,Ea hth _ yai yai,trivial⟩ ya6).mono ?_;rintro e w4 ⟨rfl,q⟩;have H4:=hid q;clear q))
 go_wp2_with fail
 go_region_law (first
  |(go_simp;go_at_call 162;refine (Fk H4.out.drew n yai yai).mono ?_;rintro e wj3 ⟨rfl,q⟩;have HJ3:=hid q;clear q)
  |(go_simp;go_at_call 67;refine (Qp HJ3.out [Qh,y0,ze5 (n),yR4] yaj ⟨by decide,by decide,zn8 _ yai yai,by decide,trivial⟩ ybw).mono ?_;rintro e w5 ⟨rfl,q⟩;have H5:=hid q;clear q))
 go_wp2_with fail
 refine (Se H5.out (bl:=bl2) (ba:=ba2) (n:=((s.add [Qw,yR4,y0,ze5 (n)]).add [yEq,yR4,yR4,x.lock]).L.length) yaj yaj yb8 ybx).mono ?_
 rintro e w6 ⟨rfl,q⟩
 have H6:=hid q
 clear q
 go_wp2
 go_end0
 exact ⟨rfl,H6.out.less (K':=K) (λp hp=>List.mem_cons_of_mem _ (List.mem_cons_of_mem _ hp))⟩
theorem zys(h:Cw W x K w c s)(hG:s.g+100<10000000):
  Cl 127 #[ptr c] w λe w'=>e= .returned (.tuple #[])/\Cw W x K w' c (x.give s):=by
 have hth:=h.th
 have hL:=h.ok.l
 have H0:=hid h
 clear h
 go_enter Tryz.func127,Tryz.ntmps127
 go_wp2_with fail
 refine (Qp H0.out [zdp,yR4,y0] yaj ⟨by decide,by decide,by decide,trivial⟩ yav).mono ?_
 rintro e w1 ⟨rfl,q⟩
 have H1:=hid q
 clear q
 go_wp2_with fail
 refine (zbu H1.out).mono ?_
 rintro e w' ⟨rfl,rfl⟩
 go_wp2_with fail
 refine (Qp H1.out [yLt,yR5,yR4,yR7] yaj ⟨by decide,by decide,by decide,by decide,trivial⟩ ya0).mono ?_
 rintro e w2 ⟨rfl,q⟩
 have H2:=hid q
 clear q
 go_wp2_with fail
 refine (Xo H2.out [yJz,yR5] yaj ⟨by decide,by decide,trivial⟩ ya5).mono ?_
 rintro e w3 ⟨bl2,ba2,rfl,q⟩
 have H3:=hid q
 clear q
 go_wp2_with fail
 go_region_law (first
  |(go_simp;go_at_call 123;refine (Fz H3.out.drew 24 yai yai).mono ?_;rintro e wj0 ⟨rfl,q⟩;have HJ0:=hid q;clear q)
  |(go_simp;go_at_call 67;refine (Qp HJ0.out [Qw,yR5,yR4,x.own (24)] yaj ⟨by decide,by decide,by decide,Ea hth _ yai yai,trivial⟩ ya6).mono ?_;rintro e w4 ⟨rfl,q⟩;have H4:=hid q;clear q))
 go_wp2_with fail
 refine (Qp H4.out [zp6,yR5] yaj ⟨by decide,by decide,trivial⟩ ybw).mono ?_
 rintro e w5 ⟨rfl,q⟩
 have H5:=hid q
 clear q
 go_wp2_with fail
 refine (Qp H5.out [Fy,yR4,yR4,y1] yaj ⟨by decide,by decide,by decide,by decide,trivial⟩ ybx).mono ?_
 rintro e w6 ⟨rfl,q⟩
 have H6:=hid q
 clear q
 go_wp2_with fail
 refine (zq1 H6.out (n:=(s.add [zdp,yR4,y0]).L.length) yb8 (by show s.g+6<_;omega)).mono ?_
 rintro e w7 ⟨rfl,q⟩
 have H7:=hid q
 clear q
 go_wp2_with fail
 refine (Se H7.out (bl:=bl2) (ba:=ba2) (n:=((s.add [zdp,yR4,y0]).add [yLt,yR5,yR4,yR7]).L.length) yaj yaj (by simp only [Qx,zak];omega) (by show s.g+7<_;omega)).mono ?_
 rintro e w8 ⟨rfl,q⟩
 have H8:=hid q
 clear q
 go_wp2
 go_end0
 exact ⟨rfl,H8.out.less (K':=K) (λp hp=>List.mem_cons_of_mem _ (List.mem_cons_of_mem _ hp))⟩
end
section
variable{W w w':World}{x:Cx}{K:List (Nat×Nat×Value)}{m:Cm}{c:Nat}{s:Ck}
theorem Cw.blk(h:Cw W x K w c s)(hk:s.blk=some k): ∃b,w.cell? ⟨c,5,none⟩=some (ptr b)/\w.cell? ⟨b,17,none⟩=some (.int .i64 k.again):=by
 obtain ⟨m,h⟩:=h
 refine ⟨m.b,?_,(h.bk k hk).ag⟩
 rw [h.c5]
 simp only [zjz,hk]
theorem zvl(h:Cw W x K w c s)(hbx:(bx,0,ptr c)∈K)(h0:0<=n)(h1:n<=6)(hG:s.g+100<10000000):
  Cl 143 #[.int .i64 n,ptr bx] w λe w'=>e= .returned (.tuple #[])/\Cw W x K w' c (s.add [Qh,y0,x.own (32+n),Zy (n)]):=by
 have hth:=h.th
 have cb:=h.kept hbx
 have H0:=hid h
 clear h
 have q32:IntKind.i64.wrap (32+n)=32+n:=yar
 go_enter Tryz.func143,Tryz.ntmps143
 go_wp2_with fail
 go_region_held3 (λw'=>w'.cell? ⟨bx,0,none⟩=some (ptr c)) (go_keep)
  (first
   |(go_at_call 123;refine (Fz H0.out.drew (32+n) yai yai).mono ?_;rintro e wj0 ⟨rfl,q⟩;have HJ0:=hid q;clear q;have cbj0:=HJ0.out.kept hbx)
   |(go_at_call 119;refine (zbt HJ0.out n yai yai).mono ?_;rintro e wj1 ⟨rfl,q⟩;have HJ1:=hid q;clear q;have cbj1:=HJ1.out.kept hbx)
   |(go_at_call 67;refine (Qp HJ1.out [Qh,y0,x.own (32+n),Zy (n)] yaj ⟨by decide,by decide,Ea hth _ yai yai,zz1 _ yai yai,trivial⟩ yav).mono ?_;rintro e w1 ⟨rfl,q⟩;have H1:=hid q;clear q;have cbh1:=H1.out.kept hbx))
 go_wp2
 go_end0
 exact ⟨rfl,H1.out⟩
theorem zvm(h:Cw W x K w c s)(hbx:(bx,0,ptr c)∈K)(h0:0<=n)(h1:n<=6)(hG:s.g+100<10000000):
  Cl 144 #[.int .i64 n,ptr bx] w λe w'=>e= .returned (.tuple #[])/\Cw W x K w' c (s.add [Qw,Zy (n),y0,x.own (32+n)]):=by
 have hth:=h.th
 have cb:=h.kept hbx
 have H0:=hid h
 clear h
 have q32:IntKind.i64.wrap (32+n)=32+n:=yar
 go_enter Tryz.func144,Tryz.ntmps144
 go_wp2_with fail
 go_region_held3 (λw'=>w'.cell? ⟨bx,0,none⟩=some (ptr c)) (go_keep)
  (first
   |(go_at_call 119;refine (zbt H0.out.drew n yai yai).mono ?_;rintro e wj0 ⟨rfl,q⟩;have HJ0:=hid q;clear q;have cbj0:=HJ0.out.kept hbx)
   |(go_at_call 123;refine (Fz HJ0.out (32+n) yai yai).mono ?_;rintro e wj1 ⟨rfl,q⟩;have HJ1:=hid q;clear q;have cbj1:=HJ1.out.kept hbx)
   |(go_at_call 67;refine (Qp HJ1.out [Qw,Zy (n),y0,x.own (32+n)] yaj ⟨by decide,zz1 _ yai yai,by decide,Ea hth _ yai yai,trivial⟩ yav).mono ?_;rintro e w1 ⟨rfl,q⟩;have H1:=hid q;clear q;have cbh1:=H1.out.kept hbx))
 go_wp2
 go_end0
 exact ⟨rfl,H1.out⟩
theorem zvn(h:Cw W x K w c s)(hbx:(bx,0,ptr c)∈K)(h0:0<=n)(h1:n<=6)(hG:s.g+100<10000000):
  Cl 147 #[.int .i64 n,ptr bx] w λe w'=>e= .returned (.tuple #[])/\Cw W x K w' c (s.add [Qh,y0,x.own (6+n),y0]):=by
 have hth:=h.th
 have cb:=h.kept hbx
 have H0:=hid h
 clear h
 have q6:IntKind.i64.wrap (6+n)=6+n:=yar
 go_enter Tryz.func147,Tryz.ntmps147
 go_wp2_with fail
 go_region_held3 (λw'=>w'.cell? ⟨bx,0,none⟩=some (ptr c)) (go_keep)
  (first
   |(go_at_call 123;refine (Fz H0.out.drew (6+n) yai yai).mono ?_;rintro e wj0 ⟨rfl,q⟩;have HJ0:=hid q;clear q;have cbj0:=HJ0.out.kept hbx)
   |(go_at_call 67;refine (Qp HJ0.out [Qh,y0,x.own (6+n),y0] yaj ⟨by decide,by decide,Ea hth _ yai yai,by decide,trivial⟩ yav).mono ?_;rintro e w1 ⟨rfl,q⟩;have H1:=hid q;clear q;have cbh1:=H1.out.kept hbx))
 go_wp2
 go_end0
 exact ⟨rfl,H1.out⟩
theorem zvo(h:Cw W x K w c s)(hbx:(bx,0,ptr c)∈K)(h0:0<=n)(h1:n<=6)(hG:s.g+100<10000000):
  Cl 148 #[.int .i64 n,ptr bx] w λe w'=>e= .returned (.tuple #[])/\Cw W x K w' c (s.add [Qh,y0,x.own (12+n),y0]):=by
 have hth:=h.th
 have cb:=h.kept hbx
 have H0:=hid h
 clear h
 have q12:IntKind.i64.wrap (12+n)=12+n:=yar
 go_enter Tryz.func148,Tryz.ntmps148
 go_wp2_with fail
 go_region_held3 (λw'=>w'.cell? ⟨bx,0,none⟩=some (ptr c)) (go_keep)
  (first
   |(go_at_call 123;refine (Fz H0.out.drew (12+n) yai yai).mono ?_;rintro e wj0 ⟨rfl,q⟩;have HJ0:=hid q;clear q;have cbj0:=HJ0.out.kept hbx)
   |(go_at_call 67;refine (Qp HJ0.out [Qh,y0,x.own (12+n),y0] yaj ⟨by decide,by decide,Ea hth _ yai yai,by decide,trivial⟩ yav).mono ?_;rintro e w1 ⟨rfl,q⟩;have H1:=hid q;clear q;have cbh1:=H1.out.kept hbx))
 go_wp2
 go_end0
 exact ⟨rfl,H1.out⟩
theorem zyt(h:Cw W x K w c s)(hk:s.blk=some k){to u:ByteArray}(hto:to.size<=30)(hu:u.size<=30)(h0:0<=n)(h1:n<=6)(hA:k.again<100000000)(hG:s.g+100<10000000):
  Cl 122 #[ptr c, .string to, .string u, .int .i64 n] w λe w'=>e= .returned (.tuple #[])/\Cw W x K w' c (x.readC to u n s):=by
 have hth:=h.th
 obtain ⟨b,c5,c17⟩:=h.blk hk
 have hR:x.readC to u n s=(((Zu u n (((Zu u n s).add [yJz,yR4,dec k.again]).add [Qw,yR5,u,dec n])).add [yJz,yR4,dec k.again]).add [Qh,u,x.own (12+n),y1]).add [zdp,to,yR5]:=by simp only [Cx.readC,Sq hk]
 rw [hR]
 have hdk:=Sp (k.again:Int) yai yai
 have H0:=hid h
 clear h hR
 have q12:IntKind.i64.wrap (12+n)=12+n:=yar
 go_enter Tryz.func122,Tryz.ntmps122
 go_wp2_with fail
 refine (zag H0.out k.again yai yai).mono ?_
 rintro e w1 ⟨rfl,q⟩
 have H1:=hid q
 clear q
 clear c5 c17
 go_wp2_with fail
 refine (zdu H1.out hu h0 yai (by show s.g+0+2<_;omega)).mono ?_
 rintro e w2 ⟨rfl,q⟩
 have H2:=hid q
 clear q
 go_wp2_with fail
 refine (Qp H2.out [yJz,yR4,dec k.again] yaj ⟨by decide,by decide,hdk,trivial⟩ ya5).mono ?_
 rintro e w3 ⟨rfl,q⟩
 have H3:=hid q
 clear q
 go_wp2_with fail
 go_region_law (first
  |(go_simp;go_at_call 140;refine (zl3 H3.out.drew n yai yai).mono ?_;rintro e wj0 ⟨rfl,q⟩;have HJ0:=hid q;clear q)
  |(go_simp;go_at_call 67;refine (Qp HJ0.out [Qw,yR5,u,dec (n)] yaj ⟨by decide,by decide,hu,Sp _ yai yai,trivial⟩ ya6).mono ?_;rintro e w4 ⟨rfl,q⟩;have H4:=hid q;clear q))
 go_wp2_with fail
 refine (zdu H4.out hu h0 yai (by show s.g+4+2<_;omega)).mono ?_
 rintro e w5 ⟨rfl,q⟩
 have H5:=hid q
 clear q
 go_wp2_with fail
 refine (Qp H5.out [yJz,yR4,dec k.again] yaj ⟨by decide,by decide,hdk,trivial⟩ (by show s.g+6<_;omega)).mono ?_
 rintro e w6 ⟨rfl,q⟩
 have H6:=hid q
 clear q
 go_wp2_with fail
 go_region_law (first
  |(go_simp;go_at_call 123;refine (Fz H6.out.drew (12+n) yai yai).mono ?_;rintro e wj1 ⟨rfl,q⟩;have HJ1:=hid q;clear q)
  |(go_simp;go_at_call 67;refine (Qp HJ1.out [Qh,u,x.own (12+n),y1] yaj ⟨by decide,hu,Ea hth _ yai yai,by decide,trivial⟩ (by show s.g+7<_;omega)).mono ?_;rintro e w7 ⟨rfl,q⟩;have H7:=hid q;clear q))
 go_wp2_with fail
 refine (Qp H7.out [zdp,to,yR5] yaj ⟨by decide,hto,by decide,trivial⟩ (by show s.g+8<_;omega)).mono ?_
 rintro e w8 ⟨rfl,q⟩
 have H8:=hid q
 clear q
 go_wp2
 go_end0
 exact ⟨rfl,H8.out⟩
end
def Jj(b:Nat):List Value->Nat->List (Nat×Nat×Value)
 |[],_=>[]
 |v::r,i=>(b,i,v)::Jj b r (i+1)
section
variable{W w w':World}{x:Cx}{K:List (Nat×Nat×Value)}{m:Cm}{c:Nat}{s:Ck}
theorem Cd.boxes(h:Cd W x K m w c s)(hb:b<w.heap.size)(hl:m.lab b=0): ∀(vs:List Value) (i:Nat),(∀(j:Nat) v,vs[j]?=some v->w.cell? ⟨b,i+j,none⟩=some v)->Cd W x (Jj b vs i++K) m w c s
 |[],_,_=>h
 |v::r,i,hc=>by
  have ih:=Cd.boxes h hb hl r (i+1) (λj u hu=>by
   have:=hc (j+1) u (by simpa using hu)
   rw [show i+(j+1)=i+1+j from by omega] at this
   exact this)
  exact ih.more hb hl (by simpa using hc 0 v rfl)
theorem Cw.box(h:Cw W x K w c s)(vs:List Value)(t:TypeId):Cw W x (Jj w.heap.size vs 0++K) (w.alloc (.cells vs.toArray t)) c s:=by
 obtain ⟨m,h⟩:=h
 refine ⟨m,(h.below ((Below.refl _ w).alloc (Nat.le_refl _) _)).boxes yaj (h.lz _ (Nat.le_refl _)) vs 0 (λj v hv=>?_)⟩
 rw [Nat.zero_add,World.cell?_alloc_new]
 simpa using hv
theorem Cw.unbox{i:Nat}{vs:List Value}(h:Cw W x (Jj b vs i++K) w c s):Cw W x K w c s:=h.less λ_ hp=>List.mem_append_right _ hp
theorem zz3(a b:Int)(w:World):(Instr.field 199 (.agg #[.int .i64 a, .int .i64 b]) 0).run Tryz.prog w= .ok (.int .i64 a) w:=yak
theorem zvp(a b:Int)(w:World):(Instr.field 199 (.agg #[.int .i64 a, .int .i64 b]) 1).run Tryz.prog w= .ok (.int .i64 b) w:=yak
theorem Cw.c5n(h:Cw W x K w c s)(hk:s.blk=none):w.cell? ⟨c,5,none⟩=some (.pointer none):=by
 obtain ⟨m,h⟩:=h
 rw [h.c5]
 simp only [zjz,hk]
theorem z43(h:Cw W x K w c s)(hk:s.blk=none)(ha:a.ok)(hG:s.g+100<10000000):
  Cl 100 #[ptr c, .agg #[.string a.name, .int .i64 a.num]] w λe w'=>e= .returned (.tuple #[])/\Cw W x K w' c (x.outC a s):=by
 have hth:=h.th
 have hR:x.outC a s=s.add [zp6,x.val a]:=by simp only [Cx.outC,hk]
 rw [hR]
 have hsv:=zaj h.base ha
 have HV:=hid (λ(K:List (Nat×Nat×Value)) (w:World) (s:Ck) (h:Cw W x K w c s)=>Yq h ha)
 have H0:=hid (h.box [.string a.name, .int .i64 a.num] 211)
 have c5:=h.c5n hk
 have lb:=h.lt
 clear h hR ha
 obtain ⟨nm,num⟩:=a
 dsimp only at H0 HV hsv⊢
 go_enter Tryz.func100,Tryz.ntmps100
 go_wp2_with fail
 generalize hwb:w.alloc (Obj.cells #[.string nm, .int .i64 num] 211)=wb at*
 generalize w.heap.size=bs at*
 have e0:=H0.out.kept (b:=bs) (o:=0) (v:= .string nm) yam
 have e1:=H0.out.kept (b:=bs) (o:=1) (v:= .int .i64 num) yam
 go_region_held3 (λw'=>w'.cell? ⟨bs,0,none⟩=some (.string nm)/\w'.cell? ⟨bs,1,none⟩=some (.int .i64 num)) (go_keep)
  (first
   |(go_at_call 96;refine (HV.out _ _ _ H0.out.drew).mono ?_;rintro e wj0 ⟨rfl,q⟩;have HJ0:=hid q;clear q;have e0j0:=HJ0.out.kept (b:=bs) (o:=0) (v:= .string nm) yam;have e1j0:=HJ0.out.kept (b:=bs) (o:=1) (v:= .int .i64 num) yam)
   |(go_at_call 67;refine (Qp HJ0.out [zp6,x.val ⟨nm,num⟩] yaj ⟨by decide,hsv,trivial⟩ yav).mono ?_;rintro e w1 ⟨rfl,q⟩;have H1:=hid q;clear q;have e0h1:=H1.out.kept (b:=bs) (o:=0) (v:= .string nm) yam;have e1h1:=H1.out.kept (b:=bs) (o:=1) (v:= .int .i64 num) yam))
 go_wp2
 (try simp only [Exit.inBlock,Exit.then])
 refine bodyPost_ret (results_none rfl _ _ _) rfl ?_
 exact ⟨rfl,H1.out.unbox⟩
theorem z44(h:Cw W x K w c s)(hk:s.blk=some k)(ha:a.ok)(hG:s.g+100<10000000):
  Cl 100 #[ptr c, .agg #[.string a.name, .int .i64 a.num]] w λe w'=>e= .returned (.tuple #[])/\Cw W x K w' c (x.outC a s):=by
 have hth:=h.th
 have hR:x.outC a s=(s.add [Qh,yR7,x.own 24,x.val a]).add [Fy,yR7,yR7,y1]:=by simp only [Cx.outC,hk]
 rw [hR]
 have hsv:=zaj h.base ha
 have HV:=hid (λ(K:List (Nat×Nat×Value)) (w:World) (s:Ck) (h:Cw W x K w c s)=>Yq h ha)
 have H0:=hid (h.box [.string a.name, .int .i64 a.num] 211)
 obtain ⟨b,c5,_⟩:=h.blk hk
 have lb:=h.lt
 clear h hR ha
 obtain ⟨nm,num⟩:=a
 dsimp only at H0 HV hsv⊢
 go_enter Tryz.func100,Tryz.ntmps100
 go_wp2_with fail
 generalize hwb:w.alloc (Obj.cells #[.string nm, .int .i64 num] 211)=wb at*
 generalize w.heap.size=bs at*
 have e0:=H0.out.kept (b:=bs) (o:=0) (v:= .string nm) yam
 have e1:=H0.out.kept (b:=bs) (o:=1) (v:= .int .i64 num) yam
 go_region_held3 (λw'=>w'.cell? ⟨bs,0,none⟩=some (.string nm)/\w'.cell? ⟨bs,1,none⟩=some (.int .i64 num)) (go_keep)
  (first
   |(go_at_call 123;refine (Fz H0.out.drew 24 yai yai).mono ?_;rintro e wj0 ⟨rfl,q⟩;have HJ0:=hid q;clear q;have e0j0:=HJ0.out.kept (b:=bs) (o:=0) (v:= .string nm) yam;have e1j0:=HJ0.out.kept (b:=bs) (o:=1) (v:= .int .i64 num) yam)
   |(go_at_call 96;refine (HV.out _ _ _ HJ0.out).mono ?_;rintro e wj1 ⟨rfl,q⟩;have HJ1:=hid q;clear q;have e0j1:=HJ1.out.kept (b:=bs) (o:=0) (v:= .string nm) yam;have e1j1:=HJ1.out.kept (b:=bs) (o:=1) (v:= .int .i64 num) yam)
   |(go_at_call 67;refine (Qp HJ1.out [Qh,yR7,x.own (24),x.val ⟨nm,num⟩] yaj ⟨by decide,by decide,Ea hth _ yai yai,hsv,trivial⟩ yav).mono ?_;rintro e w1 ⟨rfl,q⟩;have H1:=hid q;clear q;have e0h1:=H1.out.kept (b:=bs) (o:=0) (v:= .string nm) yam;have e1h1:=H1.out.kept (b:=bs) (o:=1) (v:= .int .i64 num) yam))
 go_wp2_with fail
 refine (Qp H1.out [Fy,yR7,yR7,y1] yaj ⟨by decide,by decide,by decide,by decide,trivial⟩ ya0).mono ?_
 rintro e w2 ⟨rfl,q⟩
 have H2:=hid q
 clear q
 go_wp2
 go_end0
 exact ⟨rfl,H2.out.unbox⟩
theorem zvq(h:Cw W x K w c s)(hof:of.size<=maxLen)(ha:a.ok)(hc:a.name=⟨#[]⟩/\0<=a.num/\a.num<(x.var of).2)(hv:0<=(x.var of).2/\(x.var of).2<=6):
  Cl 121 #[ptr c, .agg #[.string of, .string a.name, .int .i64 a.num]] w λe w'=>e= .returned (.tuple #[])/\Cw W x K w' c (x.check of a s):=by
 have hth:=h.th
 have hR:x.check of a s=s:=by
  simp only [Cx.check]
  rw [if_pos hc]
 rw [hR]
 have hsv:=zaj h.base ha
 have HV:=hid (λ(K:List (Nat×Nat×Value)) (w:World) (s:Ck) (h:Cw W x K w c s)=>Yq h ha)
 have hb:=h.box [.string of, .string a.name, .int .i64 a.num] 205
 have c1:=hb.c1
 have hlk:=hb.drew.lookS hof
 have H0:=hid hb
 have lb:=h.lt
 clear h ha hb hR
 obtain ⟨nm,num⟩:=a
 dsimp only at H0 HV hsv hlk c1 hc⊢
 generalize x.var of=fn at*
 obtain ⟨first,n⟩:=fn
 have hfd:=zvp first n
 dsimp only at hlk hv hc⊢
 obtain ⟨rfl,hc1,hc2⟩:=hc
 go_enter Tryz.func121,Tryz.ntmps121
 go_wp2_with fail
 generalize hwb:w.alloc (Obj.cells #[.string of, .string ⟨#[]⟩, .int .i64 num] 205)=wb at*
 generalize w.heap.size=bs at*
 have e0:=H0.out.kept (b:=bs) (o:=0) (v:= .string of) yam
 have e1:=H0.out.kept (b:=bs) (o:=1) (v:= .string ⟨#[]⟩) yam
 have e2:=H0.out.kept (b:=bs) (o:=2) (v:= .int .i64 num) yam
 go_region_held3 (λw'=>w'.cell? ⟨c,1,none⟩=some (.map (some x.sb))/\w'.cell? ⟨bs,0,none⟩=some (.string of)/\(Instr.lookup 92 (.map (some x.sb)) (.string of) false).run Tryz.prog w'= .ok (.agg #[.int .i64 first, .int .i64 n]) w') (go_keep) (fail)
 go_wp2_with fail
 (try simp only [Exit.inBlock,Exit.then])
 refine bodyPost_ret (results_none rfl _ _ _) rfl ?_
 exact ⟨rfl,H0.out.drew.unbox⟩
theorem zz4(h:Cw W x K w c s)(hof:of.size<=maxLen)(ha:a.ok)(hp: ¬a.name=⟨#[]⟩)(hv:0<=(x.var of).2/\(x.var of).2<=6)(hG:s.g+100<10000000):
  Cl 121 #[ptr c, .agg #[.string of, .string a.name, .int .i64 a.num]] w λe w'=>e= .returned (.tuple #[])/\Cw W x K w' c (x.check of a s):=by
 have hc: ¬(a.name=⟨#[]⟩/\0<=a.num/\a.num<(x.var of).2):=λe=>by
  exact hp e.1
 have hth:=h.th
 have hR:x.check of a s=(((s.add [yLt,yR4,yM1,x.val a]).trapIf).add [yLt,yR4,x.val a,dec (x.var of).2]).trapIf:=by
  simp only [Cx.check]
  rw [if_neg hc]
 rw [hR]
 have hsv:=zaj h.base ha
 have HV:=hid (λ(K:List (Nat×Nat×Value)) (w:World) (s:Ck) (h:Cw W x K w c s)=>Yq h ha)
 have hb:=h.box [.string of, .string a.name, .int .i64 a.num] 205
 have c1:=hb.c1
 have hlk:=hb.drew.lookS hof
 have H0:=hid hb
 have lb:=h.lt
 clear h ha hb hR hc
 obtain ⟨nm,num⟩:=a
 dsimp only at H0 HV hsv hlk c1 hp⊢
 generalize x.var of=fn at*
 obtain ⟨first,n⟩:=fn
 have hfd:=zvp first n
 dsimp only at hlk hv hp⊢
 have he:nm.toList.isEmpty=false:=by
  refine Ey ?_
  rcases nm with ⟨⟨l⟩⟩
  cases l with
  |nil=>exact (hp rfl).elim
  |cons a l=>simp [ByteArray.size]
 go_enter Tryz.func121,Tryz.ntmps121
 go_wp2_with fail
 generalize hwb:w.alloc (Obj.cells #[.string of, .string nm, .int .i64 num] 205)=wb at*
 generalize w.heap.size=bs at*
 have e0:=H0.out.kept (b:=bs) (o:=0) (v:= .string of) yam
 have e1:=H0.out.kept (b:=bs) (o:=1) (v:= .string nm) yam
 have e2:=H0.out.kept (b:=bs) (o:=2) (v:= .int .i64 num) yam
 go_region_held3 (λw'=>w'.cell? ⟨c,1,none⟩=some (.map (some x.sb))/\w'.cell? ⟨bs,0,none⟩=some (.string of)/\(Instr.lookup 92 (.map (some x.sb)) (.string of) false).run Tryz.prog w'= .ok (.agg #[.int .i64 first, .int .i64 n]) w') (go_keep) (fail)
 go_wp2_with fail
 refine (HV.out _ _ _ (Cw.drew H0.out)).mono ?_
 rintro e w1 ⟨rfl,q⟩
 have H1:=hid q
 clear q
 go_wp2_with fail
 refine (Qp H1.out [yLt,yR4,yM1,x.val ⟨nm,num⟩] yaj ⟨by decide,by decide,by decide,hsv,trivial⟩ yav).mono ?_
 rintro e w2 ⟨rfl,q⟩
 have H2:=hid q
 clear q
 go_wp2_with fail
 refine (Oi H2.out ya0).mono ?_
 rintro e w3 ⟨rfl,q⟩
 have H3:=hid q
 clear q
 go_wp2_with fail
 go_region_law (first
  |(go_simp;go_at_call 120;refine (zah H3.out.drew n yai yai).mono ?_;rintro e wj0 ⟨rfl,q⟩;have HJ0:=hid q;clear q)
  |(go_simp;go_at_call 67;refine (Qp HJ0.out [yLt,yR4,x.val ⟨nm,num⟩,dec (n)] yaj ⟨by decide,by decide,hsv,Sp _ yai yai,trivial⟩ ya5).mono ?_;rintro e w4 ⟨rfl,q⟩;have H4:=hid q;clear q))
 go_wp2_with fail
 refine (Oi H4.out ya6).mono ?_
 rintro e w5 ⟨rfl,q⟩
 have H5:=hid q
 clear q
 go_wp2
 go_end0
 exact ⟨rfl,H5.out.unbox⟩
theorem zvr(h:Cw W x K w c s)(hof:of.size<=maxLen)(ha:a.ok)(hp:a.name=⟨#[]⟩/\a.num<0)(hv:0<=(x.var of).2/\(x.var of).2<=6)(hG:s.g+100<10000000):
  Cl 121 #[ptr c, .agg #[.string of, .string a.name, .int .i64 a.num]] w λe w'=>e= .returned (.tuple #[])/\Cw W x K w' c (x.check of a s):=by
 have hc: ¬(a.name=⟨#[]⟩/\0<=a.num/\a.num<(x.var of).2):=λe=>by
  omega
 have hth:=h.th
 have hR:x.check of a s=(((s.add [yLt,yR4,yM1,x.val a]).trapIf).add [yLt,yR4,x.val a,dec (x.var of).2]).trapIf:=by
  simp only [Cx.check]
  rw [if_neg hc]
 rw [hR]
 have hsv:=zaj h.base ha
 have HV:=hid (λ(K:List (Nat×Nat×Value)) (w:World) (s:Ck) (h:Cw W x K w c s)=>Yq h ha)
 have hb:=h.box [.string of, .string a.name, .int .i64 a.num] 205
 have c1:=hb.c1
 have hlk:=hb.drew.lookS hof
 have H0:=hid hb
 have lb:=h.lt
 clear h ha hb hR hc
 obtain ⟨nm,num⟩:=a
 dsimp only at H0 HV hsv hlk c1 hp⊢
 generalize x.var of=fn at*
 obtain ⟨first,n⟩:=fn
 have hfd:=zvp first n
 dsimp only at hlk hv hp⊢
 obtain ⟨rfl,hp1⟩:=hp
 have hp2: ¬(0:Int)<=num:=yai
 go_enter Tryz.func121,Tryz.ntmps121
 go_wp2_with fail
 generalize hwb:w.alloc (Obj.cells #[.string of, .string ⟨#[]⟩, .int .i64 num] 205)=wb at*
 generalize w.heap.size=bs at*
 have e0:=H0.out.kept (b:=bs) (o:=0) (v:= .string of) yam
 have e1:=H0.out.kept (b:=bs) (o:=1) (v:= .string ⟨#[]⟩) yam
 have e2:=H0.out.kept (b:=bs) (o:=2) (v:= .int .i64 num) yam
 go_region_held3 (λw'=>w'.cell? ⟨c,1,none⟩=some (.map (some x.sb))/\w'.cell? ⟨bs,0,none⟩=some (.string of)/\(Instr.lookup 92 (.map (some x.sb)) (.string of) false).run Tryz.prog w'= .ok (.agg #[.int .i64 first, .int .i64 n]) w') (go_keep) (fail)
 go_wp2_with fail
 refine (HV.out _ _ _ (Cw.drew H0.out)).mono ?_
 rintro e w1 ⟨rfl,q⟩
 have H1:=hid q
 clear q
 go_wp2_with fail
 refine (Qp H1.out [yLt,yR4,yM1,x.val ⟨⟨#[]⟩,num⟩] yaj ⟨by decide,by decide,by decide,hsv,trivial⟩ yav).mono ?_
 rintro e w2 ⟨rfl,q⟩
 have H2:=hid q
 clear q
 go_wp2_with fail
 refine (Oi H2.out ya0).mono ?_
 rintro e w3 ⟨rfl,q⟩
 have H3:=hid q
 clear q
 go_wp2_with fail
 go_region_law (first
  |(go_simp;go_at_call 120;refine (zah H3.out.drew n yai yai).mono ?_;rintro e wj0 ⟨rfl,q⟩;have HJ0:=hid q;clear q)
  |(go_simp;go_at_call 67;refine (Qp HJ0.out [yLt,yR4,x.val ⟨⟨#[]⟩,num⟩,dec (n)] yaj ⟨by decide,by decide,hsv,Sp _ yai yai,trivial⟩ ya5).mono ?_;rintro e w4 ⟨rfl,q⟩;have H4:=hid q;clear q))
 go_wp2_with fail
 refine (Oi H4.out ya6).mono ?_
 rintro e w5 ⟨rfl,q⟩
 have H5:=hid q
 clear q
 go_wp2
 go_end0
 exact ⟨rfl,H5.out.unbox⟩
theorem zvs(h:Cw W x K w c s)(hof:of.size<=maxLen)(ha:a.ok)(hp:a.name=⟨#[]⟩/\0<=a.num/\ ¬a.num<(x.var of).2)(hv:0<=(x.var of).2/\(x.var of).2<=6)(hG:s.g+100<10000000):
  Cl 121 #[ptr c, .agg #[.string of, .string a.name, .int .i64 a.num]] w λe w'=>e= .returned (.tuple #[])/\Cw W x K w' c (x.check of a s):=by
 have hc: ¬(a.name=⟨#[]⟩/\0<=a.num/\a.num<(x.var of).2):=λe=>by
  exact hp.2.2 e.2.2
 have hth:=h.th
 have hR:x.check of a s=(((s.add [yLt,yR4,yM1,x.val a]).trapIf).add [yLt,yR4,x.val a,dec (x.var of).2]).trapIf:=by
  simp only [Cx.check]
  rw [if_neg hc]
 rw [hR]
 have hsv:=zaj h.base ha
 have HV:=hid (λ(K:List (Nat×Nat×Value)) (w:World) (s:Ck) (h:Cw W x K w c s)=>Yq h ha)
 have hb:=h.box [.string of, .string a.name, .int .i64 a.num] 205
 have c1:=hb.c1
 have hlk:=hb.drew.lookS hof
 have H0:=hid hb
 have lb:=h.lt
 clear h ha hb hR hc
 obtain ⟨nm,num⟩:=a
 dsimp only at H0 HV hsv hlk c1 hp⊢
 generalize x.var of=fn at*
 obtain ⟨first,n⟩:=fn
 have hfd:=zvp first n
 dsimp only at hlk hv hp⊢
 obtain ⟨rfl,hp1,hp2⟩:=hp
 go_enter Tryz.func121,Tryz.ntmps121
 go_wp2_with fail
 generalize hwb:w.alloc (Obj.cells #[.string of, .string ⟨#[]⟩, .int .i64 num] 205)=wb at*
 generalize w.heap.size=bs at*
 have e0:=H0.out.kept (b:=bs) (o:=0) (v:= .string of) yam
 have e1:=H0.out.kept (b:=bs) (o:=1) (v:= .string ⟨#[]⟩) yam
 have e2:=H0.out.kept (b:=bs) (o:=2) (v:= .int .i64 num) yam
 go_region_held3 (λw'=>w'.cell? ⟨c,1,none⟩=some (.map (some x.sb))/\w'.cell? ⟨bs,0,none⟩=some (.string of)/\(Instr.lookup 92 (.map (some x.sb)) (.string of) false).run Tryz.prog w'= .ok (.agg #[.int .i64 first, .int .i64 n]) w') (go_keep) (fail)
 go_wp2_with fail
 refine (HV.out _ _ _ (Cw.drew H0.out)).mono ?_
 rintro e w1 ⟨rfl,q⟩
 have H1:=hid q
 clear q
 go_wp2_with fail
 refine (Qp H1.out [yLt,yR4,yM1,x.val ⟨⟨#[]⟩,num⟩] yaj ⟨by decide,by decide,by decide,hsv,trivial⟩ yav).mono ?_
 rintro e w2 ⟨rfl,q⟩
 have H2:=hid q
 clear q
 go_wp2_with fail
 refine (Oi H2.out ya0).mono ?_
 rintro e w3 ⟨rfl,q⟩
 have H3:=hid q
 clear q
 go_wp2_with fail
 go_region_law (first
  |(go_simp;go_at_call 120;refine (zah H3.out.drew n yai yai).mono ?_;rintro e wj0 ⟨rfl,q⟩;have HJ0:=hid q;clear q)
  |(go_simp;go_at_call 67;refine (Qp HJ0.out [yLt,yR4,x.val ⟨⟨#[]⟩,num⟩,dec (n)] yaj ⟨by decide,by decide,hsv,Sp _ yai yai,trivial⟩ ya5).mono ?_;rintro e w4 ⟨rfl,q⟩;have H4:=hid q;clear q))
 go_wp2_with fail
 refine (Oi H4.out ya6).mono ?_
 rintro e w5 ⟨rfl,q⟩
 have H5:=hid q
 clear q
 go_wp2
 go_end0
 exact ⟨rfl,H5.out.unbox⟩
theorem zj2(h:Cw W x K w c s)(hof:of.size<=maxLen)(ha:a.ok)(hv:0<=(x.var of).2/\(x.var of).2<=6)(hG:s.g+100<10000000):
  Cl 121 #[ptr c, .agg #[.string of, .string a.name, .int .i64 a.num]] w λe w'=>e= .returned (.tuple #[])/\Cw W x K w' c (x.check of a s):=by
 by_cases h1:a.name=⟨#[]⟩
 ·by_cases h2:0<=a.num
  ·by_cases h3:a.num<(x.var of).2
   ·exact zvq h hof ha ⟨h1,h2,h3⟩ hv
   ·exact zvs h hof ha ⟨h1,h2,h3⟩ hv hG
  ·exact zvr h hof ha ⟨h1,by omega⟩ hv hG
 ·exact zz4 h hof ha h1 hv hG
end
end Go.Proofs.YtphcopbffecceaaGreatDoor
