import Derived.Test.YtphcopbffecceaaGreatDoorP28
set_option maxRecDepth 100000
set_option maxHeartbeats 2000000
namespace Go.Proofs.YtphcopbffecceaaGreatDoor
open Go.RowKit
section
variable{D:Nat->Prop}{lab:Nat->Nat×Nat}{w:World}{m:DM}{d:DR}{u v x y s f:ByteArray}{bw cap:Nat}
theorem ztn(h:DMach D lab w m d)(hk:DOk d)(hD: ∀k,w.heap.size<=k->D k)(w0:w.cell? ⟨bw,0,none⟩=some (.string Jz))(w1:w.cell? ⟨bw,1,none⟩=some (.string v))(w2:w.cell? ⟨bw,2,none⟩=some (.string x))(w3:w.cell? ⟨bw,3,none⟩=some (.string s))(w4:w.cell? ⟨bw,4,none⟩=some (.string y))(nw: ¬D bw){k:Nat}(hs:Uj s=some k):
  Cl 25 #[ptr m.br, .slice (some ⟨bw,0,none⟩) 5 cap] w (Jm D w m 115 0 (okP ((atV d.locals x).2.2&&(atV d.locals y).2.2) (zcc d v))):=by
 have hlw:bw<w.heap.size:=blt w0
 have eSet:(Jz.toList==[115,101,116])=true:=yak
 have hl:d.locals.length<1000000:=ya7
 have K0:=hid ((NodeS.init h hD 115 0).mach.atom hl x)
 have H0:=hid (NodeS.init h hD 115 0)
 have HK:=hid hk
 have HL:=hid hl
 have NW:=hid nw
 have hk12:k<12:=by
  have:=List.findIdx?_eq_some_iff_getElem.1 hs
  obtain ⟨h1,_⟩:=this
  exact h1
 have hk0:(0:Int)<=(k:Int):=yai
 have hk1:(k:Int)<12:=yai
 have KG:Hid (∀w1,Cl 21 #[] w1 λe w'=>∃g,e= .returned (.slice (some ⟨g,0,none⟩) 12 12)/\StrsAt w' g zbc/\Below w1.heap.size w1 w'):=hid λw1=>(zij (w:=w1)).mono λe w' h=>⟨_,h⟩
 have KV:Hid (∀w1,Cl 43 #[] w1 λe w'=>∃g,e= .returned (.slice (some ⟨g,0,none⟩) 12 12)/\StrsAt w' g ((List.range 12).map Jc)/\Below w1.heap.size w1 w'):=hid λw1=>(za5 (w:=w1)).mono λe w' h=>⟨_,h⟩
 have KP:Hid (∀w1 g,StrsAt w1 g zbc->Cl 22 #[.slice (some ⟨g,0,none⟩) 12 12, .string s] w1 λe w'=>e= .returned (.int .i64 (k:Int))/\w'=w1):=hid λw1 g h1=>by
  have:=zeh h1 s
  rw [hs] at this
  exact this
 have nb1:bw≠w.heap.size+1:=yai
 have nb2:w.heap.size+1≠bw:=yai
 clear h hD hk hl nw hs
 generalize hav:atV d.locals x=av at K0⊢
 obtain ⟨al,av,ok⟩:=av
 dsimp only at K0⊢
 generalize hbv:atV d.locals y=bv
 obtain ⟨bl,bv,too⟩:=bv
 dsimp only
 have HA:Hid (∀lab w',DMach (nD D w) lab w' m d->Cl 42 #[ptr m.br, .string y] w' λe w2=>e= .returned (.tuple #[.agg #[.bool bl, .int .i64 bv], .bool too])/\Below w'.heap.size w' w2):=hid λlab w' hm=>by
  have:=hm.atom HL.out y
  rw [hbv] at this
  exact this
 clear hav hbv
 go_enter Tryz.func25,Tryz.ntmps25
 go_wp2_with fail
 refine K0.out.mono ?_
 rintro e W ⟨rfl,hb⟩
 have H1:=hid (H0.out.below hb)
 have H2:=hid ((H1.out.set (X':={xz 115 0 with al:=al}) (u:= .bool al) (j:=3) yai rfl).set (X':={xz 115 0 with al:=al,av:=av}) (u:= .int .i64 av) (j:=4) yai rfl)
 have H3:=hid (H2.out.below ((Below.refl _ _).alloc (Nat.le_refl _) (.cells #[.bool al, .int .i64 av] 75)))
 have z3:=H1.out.s.x.c 3 _ rfl
 have z4:=H1.out.s.x.c 4 _ rfl
 have fz:=H1.out.s.x.f
 have lz:=H1.out.s.x.lt
 clear hb H0 K0
 go_wp2_with fail
 refine (KG.out _).mono ?_
 rintro e W1 ⟨g1,rfl,st1,hb⟩
 have H4:=hid (H3.out.below hb)
 have HT1:=hid st1
 clear hb st1 z3 z4 fz lz
 go_wp2_with fail
 refine (KV.out _).mono ?_
 rintro e W2 ⟨g2,rfl,st2,hb⟩
 have H5:=hid (H4.out.below hb)
 have HT2:=hid (HT1.out.keep (blt (HT1.out 0 yal)) hb)
 have HT3:=hid st2
 clear hb st2 HT1
 have q3:=(H5.out.s.chg.cell bw 3 hlw NW.out).trans w3
 have q4:=(H5.out.s.chg.cell bw 4 hlw NW.out).trans w4
 have lbw:bw<W2.heap.size:=blt q3
 go_wp2_with fail
 refine (KP.out _ _ HT2.out).mono ?_
 rintro e W3 ⟨rfl,hw⟩
 subst W3
 have v0:=HT3.out k hk12
 have z2:=H5.out.s.x.c 2 _ rfl
 have fz:=H5.out.s.x.f
 have lz:=H5.out.s.x.lt
 generalize ((List.range 12).map Jc)[k]'hk12=ow at v0
 have H6:=hid (H5.out.set (X':={xz 115 0 with al:=al,av:=av,op:=ow}) (u:= .string ow) (j:=2) yai rfl)
 have K6:=hid (HA.out _ _ H6.out.mach)
 go_wp2_with fail
 refine K6.out.mono ?_
 rintro e W4 ⟨rfl,hb⟩
 have H7:=hid (H6.out.below hb)
 have H8:=hid ((H7.out.set (X':={xz 115 0 with al:=al,av:=av,op:=ow,bl:=bl}) (u:= .bool bl) (j:=5) yai rfl).set (X':={xz 115 0 with al:=al,av:=av,op:=ow,bl:=bl,bv:=bv}) (u:= .int .i64 bv) (j:=6) yai rfl)
 clear hb HT2 HT3 v0 z2 fz lz q3 q4 lbw K6 H6 H5 H4 H3 H2 H1
 have q1:=(H7.out.s.chg.cell bw 1 hlw NW.out).trans w1
 have lbw:bw<W4.heap.size:=blt q1
 obtain ⟨x0,x1,x2,x3,x4,x5,x6,x7,x8,x9,x10,x11,x12,x13⟩:=H7.out.s.x.all
 obtain ⟨y0,y1,y2,y3,y4,y5,y6,y7,y8,y9,y10,y11,y12,y13⟩:=H7.out.s.r.all
 have fx:=H7.out.s.x.f
 have fy:=H7.out.s.r.f
 have lx:=H7.out.s.x.lt
 have ly:=H7.out.s.r.lt
 dsimp only [xz] at x0 x1 x2 x3 x4 x5 x6 x7 x8 x9 x10 x11 x12 x13 y0 y1 y2 y3 y4 y5 y6 y7 y8 y9 y10 y11 y12 y13
 cases ok with
 |false=>exact z98
 |true=>
  cases too with
  |false=>exact z98
  |true=>
   have H10:=hid (H8.out.below ((Below.refl _ _).alloc (Nat.le_refl _) (.cells #[.bool bl, .int .i64 bv] 75)))
   have KM:=hid (H10.out.mach.made_is (u:=v) HK.out H10.out.s.x (λe=>e.2.2 rfl) (λk hk=>⟨H10.out.s.hD k (by have:=H10.out.s.chg.size;omega),by have:=H10.out.s.r.lt;omega,by have:=H10.out.s.x.lt;omega⟩))
   go_wp2_with fail
   refine KM.out.mono ?_
   rintro e W9 ⟨hc,⟨X',hx,s1,s2,s3⟩,er,rfl,hr⟩
   have H9:=hid (H10.out.s.to hc hx)
   have HR:=hid hr
   have HS:=hid (And.intro s1 (And.intro s2 s3))
   clear hc hx hr KM H10 H8 H7 x0 x1 x2 x3 x4 x5 x6 x7 x8 x9 x10 x11 x12 x13 y0 y1 y2 y3 y4 y5 y6 y7 y8 y9 y10 y11 y12 y13 fx fy lx ly s1 s2 s3
   obtain ⟨x0,x1,x2,x3,x4,x5,x6,x7,x8,x9,x10,x11,x12,x13⟩:=H9.out.x.all
   obtain ⟨y0,y1,y2,y3,y4,y5,y6,y7,y8,y9,y10,y11,y12,y13⟩:=H9.out.r.all
   have fx:=H9.out.x.f
   have fy:=H9.out.r.f
   have lx:=H9.out.x.lt
   have ly:=H9.out.r.lt
   dsimp only [xz] at x0 x1 x2 x3 x4 x5 x6 x7 x8 x9 x10 x11 x12 x13 y0 y1 y2 y3 y4 y5 y6 y7 y8 y9 y10 y11 y12 y13
   go_wp2
   exact Zi H9.out (Below.refl _ _) HR.out HS.out.1 HS.out.2.1 HS.out.2.2 rfl rfl rfl
end
section
variable{D:Nat->Prop}{lab:Nat->Nat×Nat}{w:World}{m:DM}{d:DR}{u v x y s f:ByteArray}{bw cap:Nat}
theorem znf(h:DMach D lab w m d)(hk:DOk d)(hD: ∀k,w.heap.size<=k->D k)(w0:w.cell? ⟨bw,0,none⟩=some (.string Vd))(w1:w.cell? ⟨bw,1,none⟩=some (.string v))(w2:w.cell? ⟨bw,2,none⟩=some (.string f)){L:Nat}(nw: ¬D bw)(ht:d.thr≠[])(hL:L=3\/(L=5/\w.cell? ⟨bw,4,none⟩=some (.string y))):
  Cl 25 #[ptr m.br, .slice (some ⟨bw,0,none⟩) L cap] w (Jm D w m 103 0 (okP (Gc d.shared f&&(decide (L=3)||(atV d.locals y).2.2)) (zcc d v))):=by
 have hlw:bw<w.heap.size:=blt w0
 have eSet:(Vd.toList==[115,101,116])=false:=yak
 have eGet:(Vd.toList==[103,101,116])=true:=yak
 have hL0:(0:Int)<(L:Int):=ybq
 have hL1:(1:Int)<(L:Int):=ybq
 have hL2:(2:Int)<(L:Int):=ybq
 have H0:=hid (NodeS.init h hD 103 0)
 have hb0:Below w.heap.size w (zxp w 103 0):=((Below.refl _ w).alloc (Nat.le_refl _) _).alloc yaj _
 have K0:=hid (H0.out.mach.cell_is (u:=f) (cap:=cap) hk H0.out.s.x (λe=>e.2.2 rfl) (λe=>nw e.1) yai ht (hL.imp id (λe=>⟨e.1,(hb0.cell (p:=⟨bw,4,none⟩) hlw).trans e.2⟩)))
 have HK:=hid hk
 have NW:=hid nw
 have nb1:bw≠w.heap.size+1:=yai
 have nb2:w.heap.size+1≠bw:=yai
 clear h hD hk nw ht hL hb0
 generalize (Gc d.shared f&&(decide (L=3)||(atV d.locals y).2.2))=ok at K0⊢
 go_enter Tryz.func25,Tryz.ntmps25
 go_wp2_with fail
 refine K0.out.mono ?_
 rintro e W ⟨rfl,hm,hc,X,hx,s1,s2,s3⟩
 have H1:Hid (NodeS D w W lab m d {X with k:=103,n:=0,dp:=0}):=hid (by rw [ztk (k:=103) (n:=0) (dp:=0) s1 s2 s3];exact ⟨hm,H0.out.s.to hc hx⟩)
 clear hm hc hx H0 K0 s1 s2 s3
 have q1:=(H1.out.s.chg.cell bw 1 hlw NW.out).trans w1
 have lbw:bw<W.heap.size:=blt q1
 obtain ⟨x0,x1,x2,x3,x4,x5,x6,x7,x8,x9,x10,x11,x12,x13⟩:=H1.out.s.x.all
 obtain ⟨y0,y1,y2,y3,y4,y5,y6,y7,y8,y9,y10,y11,y12,y13⟩:=H1.out.s.r.all
 have fx:=H1.out.s.x.f
 have fy:=H1.out.s.r.f
 have lx:=H1.out.s.x.lt
 have ly:=H1.out.s.r.lt
 dsimp only [xz] at x0 x1 x2 x3 x4 x5 x6 x7 x8 x9 x10 x11 x12 x13 y0 y1 y2 y3 y4 y5 y6 y7 y8 y9 y10 y11 y12 y13
 cases ok with
 |false=>
  go_wp2
  exact Zi H1.out.s (Below.refl _ _) rfl rfl rfl rfl rfl rfl rfl
 |true=>
  have KM:=hid (H1.out.mach.made_is (u:=v) HK.out H1.out.s.x (λe=>e.2.2 rfl) (λk hk=>⟨H1.out.s.hD k (by have:=H1.out.s.chg.size;omega),by have:=H1.out.s.r.lt;omega,by have:=H1.out.s.x.lt;omega⟩))
  go_wp2_with fail
  refine KM.out.mono ?_
  rintro e W9 ⟨hc,⟨X',hx,s1,s2,s3⟩,er,rfl,hr⟩
  have H9:=hid (H1.out.s.to hc hx)
  have HR:=hid hr
  have HS:=hid (And.intro s1 (And.intro s2 s3))
  clear hc hx hr KM H1 x0 x1 x2 x3 x4 x5 x6 x7 x8 x9 x10 x11 x12 x13 y0 y1 y2 y3 y4 y5 y6 y7 y8 y9 y10 y11 y12 y13 fx fy lx ly s1 s2 s3
  obtain ⟨x0,x1,x2,x3,x4,x5,x6,x7,x8,x9,x10,x11,x12,x13⟩:=H9.out.x.all
  obtain ⟨y0,y1,y2,y3,y4,y5,y6,y7,y8,y9,y10,y11,y12,y13⟩:=H9.out.r.all
  have fx:=H9.out.x.f
  have fy:=H9.out.r.f
  have lx:=H9.out.x.lt
  have ly:=H9.out.r.lt
  dsimp only [xz] at x0 x1 x2 x3 x4 x5 x6 x7 x8 x9 x10 x11 x12 x13 y0 y1 y2 y3 y4 y5 y6 y7 y8 y9 y10 y11 y12 y13
  go_wp2
  exact Zi H9.out (Below.refl _ _) HR.out HS.out.1 HS.out.2.1 HS.out.2.2 rfl rfl rfl
end
end Go.Proofs.YtphcopbffecceaaGreatDoor
