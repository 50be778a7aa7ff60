import Derived.Test.YtkenoofmkbghiaaGreatDoorB23
set_option maxRecDepth 100000
set_option maxHeartbeats 4000000
namespace Go.Proofs.YtkenoofmkbghiaaGreatDoor
open Go.RowKit
variable{c o t:Nat}{ol tl:List Nat}{l:List ByteArray}
section
variable{D D0:Nat->Prop}{lab:Nat->Nat×Nat}{w:World}{br sb bs bl bw:Nat}{n:Int}{ws:List ByteArray}{tv ov:Value}{st:RS}{ms:List HM}
theorem zau(h:RMach D lab w br sb bs tv ov st ms)(ol:List Nat)(o:Nat)(hop:st.opn=ol++[o])(hol:o<ms.length): ∃g cp,ov= .slice (some ⟨g,0,none⟩) (ol.length+1) cp/\w.cell? ⟨g,ol.length,none⟩=some (.iface (hkT ms[o].h.k) (ptr ms[o].b)):=by
 have hr:=h.orow
 rw [hop] at hr
 simp only [List.length_append,List.length_cons,List.length_nil] at hr
 obtain ⟨g,cp,rfl⟩: ∃g cp,ov= .slice (some ⟨g,0,none⟩) (ol.length+1) cp:=ytc
 obtain ⟨q1,_,_⟩:=Qm hr ol.length yue
 refine ⟨g,cp,rfl,?_⟩
 rw [q1]
 simp [idV,Qu,List.getElem?_eq_getElem hol]
theorem zyx(ms:List HM)(hol:o<ms.length)(ht:t<ms.length)(l:List ByteArray)(c:Nat)(hk:zhr ms[o].h.k)(m':HM)(hm:m'.h.k= .thr l c)(he:m'.h.ents=ms[t].h.ents):zhr ((ms.set t m')[o]'(by simpa using hol)).h.k/\((ms.set t m')[o]'(by simpa using hol)).h.ents=ms[o].h.ents:=by
 by_cases e:t=o
 ·subst e
  rw [List.getElem_set_self,hm]
  exact ⟨trivial,he⟩
 ·rw [List.getElem_set_ne e]
  exact ⟨hk,rfl⟩
theorem Lays.okO(hy:Lays st ms tl ol t o l c)(h:RMach D lab w br sb bs tv ov st ms):zhr (ms[o]'hy.hol).h.k/\(ms[o]'hy.hol).h.ents.length<900:=by
 obtain ⟨x,hx,hok⟩:=hy.opn.2 o (by rw [hy.ho];simp)
 rw [h.hsAt o hy.hol] at hx
 injection hx with hx
 exact ⟨hx▸hok,hy.hents _ (by rw [<-h.hs];exact List.mem_map.2 ⟨_,List.getElem_mem hy.hol,rfl⟩)⟩
theorem Su(h:RMach D lab w br sb bs tv ov st ms)(t:Nat)(ht:t<ms.length)(l:List ByteArray)(c:Nat)(hk:ms[t].h.k= .thr l c)(o:Nat)(hol:o<ms.length)(hok:zhr ms[o].h.k)(hen:ms[o].h.ents.length<900)(ol:List Nat)(hop:st.opn=ol++[o]):
  ∃ms5:List HM,RMach D lab (w.setCell ⟨ms[t].b,2,none⟩ (.int .i64 ((c:Int)+1))) br sb bs tv ov (st.setK t (.thr l (c+1))) ms5/\Chg (λk _=>D k) w (w.setCell ⟨ms[t].b,2,none⟩ (.int .i64 ((c:Int)+1)))/\
   ∃(htl5:t<ms5.length) (hol5:o<ms5.length),zhr ms5[o].h.k/\ms5[o].h.ents.length<1000/\ms5[t].h.k= .thr l (c+1)/\ms5[t].b=ms[t].b/\Qu ms5=Qu ms/\(st.setK t (.thr l (c+1))).opn=ol++[o]:=by
 obtain ⟨r2,c2⟩:=h.count t ht l c hk
 rw [<-h.setK_eq t ht (.thr l (c+1))] at r2
 obtain ⟨hok5,hen5⟩:=zyx ms hol ht l (c+1) hok {ms[t] with h:=⟨.thr l (c+1),ms[t].h.ents⟩} rfl rfl
 refine ⟨_,r2,c2,by simpa using ht,by simpa using hol,hok5,by rw [hen5];omega,by rw [List.getElem_set_self],by rw [List.getElem_set_self],zaq ms t ht _ rfl (by rw [hk];rfl),?_⟩
 rw [<-hop]
 unfold RS.setK
 split<;>rfl
theorem zrz(h:RMach D0 lab w br sb bs tv ov st ms)(he:st.entOk)(h0: ∀k,D0 k->D k)(s:St)(b:Nat)(hb:zar w s b)(hD:D b)(hn: ¬D0 b)(t:Nat)(ht:t<ms.length)(l:List ByteArray)(c:Nat)(hk:ms[t].h.k= .thr l c)(o:Nat)(hol:o<ms.length)(hok:zhr ms[o].h.k)(hen:ms[o].h.ents.length<900):
  ∃lab1 ms1,RMach D lab1 w br sb bs tv ov (st.newH s) ms1/\ ∃(htl1:t<ms1.length) (hol1:o<ms1.length),ms1[t].h.k= .thr l c/\zhr ms1[o].h.k/\ms1[o].h.ents.length<900/\idV (Qu ms1) st.hs.length= .iface (hkT (.st s)) (ptr b)/\ms1[t].b=ms[t].b:=by
 obtain ⟨lab1,r0⟩:=h.newH (D:=D) he h0 s b hb hD hn
 have em: ∀i (hi:i<ms.length),(ms++[⟨b, .slice none 0 0,0,⟨.st s,[]⟩⟩]:List HM)[i]'(by simp;omega)=ms[i]:=λi hi=>List.getElem_append_left hi
 refine ⟨lab1,_,r0,by simp;omega,by simp;omega,by rw [em t ht];exact hk,by rw [em o hol];exact hok,by rw [em o hol];exact hen,?_,by rw [em t ht]⟩
 rw [<-h.len]
 simp [idV,Qu]
theorem zkg(h:RMach D lab w br sb bs tv ov st ms)(t:Nat)(ht:t<ms.length)(l:List ByteArray)(c:Nat)(hk:ms[t].h.k= .thr l c)(o:Nat)(hol:o<ms.length)(hok:zhr ms[o].h.k)(hen:ms[o].h.ents.length<1000)(ol:List Nat)(hop:st.opn=ol++[o])(u:ByteArray)(hu:u.size<=maxLen)(hnew:Uh l u=false)(hl:l.length<1000):
  ∃W,(Instr.mapUpdate 109 (.map (some ms[t].mb)) (.string u) (.int .i64 l.length)).run Tryz.prog w= .ok () W/\ ∃ms5:List HM,RMach D lab W br sb bs tv ov (st.setK t (.thr (l++[u]) c)) ms5/\Chg (λk _=>D k) w W/\
   ∃(hol5:o<ms5.length),zhr ms5[o].h.k/\ms5[o].h.ents.length<1000/\Qu ms5=Qu ms/\(st.setK t (.thr (l++[u]) c)).opn=ol++[o]:=by
 obtain ⟨W,hrun,r2,c2⟩:=h.local t ht l c hk u hu hnew hl
 rw [<-h.setK_eq t ht (.thr (l++[u]) c)] at r2
 obtain ⟨hok5,hen5⟩:=zyx ms hol ht (l++[u]) c hok {ms[t] with h:=⟨.thr (l++[u]) c,ms[t].h.ents⟩} rfl rfl
 refine ⟨W,hrun,_,r2,c2,by simpa using hol,hok5,by rw [hen5];exact hen,zaq ms t ht _ rfl (by rw [hk];rfl),?_⟩
 rw [<-hop]
 unfold RS.setK
 split<;>rfl
theorem zwm(h:RMach D0 lab w br sb bs tv ov st ms)(h0: ∀k,D0 k->D k)(hD: ∀k,w.heap.size<=k->D k)(hy:Lays st ms tl ol t o l c)(s:St)(b:Nat)(hS:StB w s b)(hz:zl9 s)(h2:(Qj s).length<=2)(hmay:st.mayStand s=true)(hnm:st.mayName l s=true)(hrm:st.hasRoom l c s=true)(hh:Qf s=false)(hno:(Vg s).toList.isEmpty=true\/((Vg s).toList.isEmpty=false/\Uh l (Vg s)=true)):
  Cl 63 #[ptr br,ptr bl,Vk s b] w λe w'=>e= .returned (.tuple #[])/\(∃lab' ov' ms',RMach D lab' w' br sb bs tv ov' ((st.setK t (.thr l (c+1))).addE o (.leaf s)) ms')/\Chg (λk _=>D k) w w':=by
 have K:=hid (Xm h hy.opn s b)
 rw [hmay] at K
 have K2:=hid (Fp h tl t hy.ht hy.htl hy.hn l c hy.hk s b hS hz h2)
 rw [hnm] at K2
 have K3:=hid (λW (hW:Below w.heap.size w W)=>Oj (h.below hW) hy.opn tl t hy.ht hy.htl hy.hn l c hy.hk s b hz)
 rw [hrm] at K3
 have htl:=hy.htl
 have hol:=hy.hol
 have K4:=hid (λW (hW:Below w.heap.size w W)=>zdq (h.below hW) tl t hy.ht htl hy.hn)
 obtain ⟨hok,hents⟩:zhr ms[o].h.k/\ms[o].h.ents.length<900:=hy.okO h
 have hk:ms[t].h.k= .thr l c:=hy.hk
 have hop:=hy.ho
 have hc14:=hy.hc
 have hl4:=hy.hl
 have r0:=h.newD (D':=D) (λk hk _=>h0 k hk)
 have R0:=hid r0
 clear r0
 obtain ⟨T,u,x,hTu,hta⟩:=zgl s b
 rw [hh] at hta
 have hTu2:stV s= .iface T u:=ys6
 have KT:=hid (λW=>Io s b W)
 rw [hTu] at K K2 K3 KT⊢
 have hzt:=hz.to
 have hwc:wrap64 ((c:Int)+1)=(c:Int)+1:=yul
 have hol4:ol.length<1000:=yv0
 have hwo:IntKind.i64.wrap (ol.length:Int)=(ol.length:Int):=yum
 have hwo2:(ol.length:Int)<(ol.length:Int)+1:=yue
 have HDw:=hid hD
 clear h hy hS hz h2 hmay hnm hrm hD h0
 go_enter Tryz.func63,Tryz.ntmps63
 go_wp2_with fail
 refine K.out.mono ?_
 rintro e w1 ⟨rfl,rfl⟩
 go_wp2_with fail
 refine K2.out.mono ?_
 rintro e w2 ⟨rfl,b2⟩
 have B2:=hid b2
 clear b2
 go_wp2_with fail
 refine (K3.out w2 B2.out).mono ?_
 rintro e w3 ⟨rfl,b3⟩
 have B3:=hid (B2.out.trans (b3.mono B2.out.size))
 clear b3 B2 K K2 K3
 go_wp2_with fail
 refine (K4.out w3 B3.out).mono ?_
 rintro e w4 ⟨rfl,rfl⟩
 have r1:=R0.out.below (B3.out.drew)
 obtain ⟨ms5,r2,c2,htl5,hol5,hok5,hen5,ek5,eb5,hid5,hop5⟩:=Su r1 t htl l c hk o hol hok hents ol hop
 have hkd:=(r1.hd t htl).kind
 rw [hk] at hkd
 have cc:=hkd.2.1
 have fc:=(r1.hd t htl).free 2
 have hlt4:=Qd (r1.hd t htl).sh
 have hcomm:w3.drew.setCell ⟨ms[t].b,2,none⟩ (.int .i64 ((c:Int)+1))=(w3.setCell ⟨ms[t].b,2,none⟩ (.int .i64 ((c:Int)+1))).drew:=rfl
 rw [hcomm] at r2 c2
 have R2:=hid r2
 have C2:=hid ((Chg.of_below (M:=λk _=>D k) B3.out.drew).trans c2)
 clear r1 r2 c2 hkd B3 K4 hcomm
 generalize htb:ms[t].b=tb at*
 go_wp2_with fail
 generalize hW4:(w3.setCell ⟨tb,2,none⟩ (.int .i64 ((c:Int)+1))).drew=W4 at*
 refine (KT.out W4).mono ?_
 rintro e w5 ⟨rfl,b5⟩
 have R5:=hid (R2.out.below b5)
 have C5:=hid (C2.out.trans (Chg.of_below (M:=λk _=>D k) b5))
 clear b5 R2 C2 hW4 cc fc hlt4
 generalize hst5:st.setK t (.thr l (c+1))=st5 at*
 have hth5:=(R5.out.hd t htl5).kind
 rw [ek5] at hth5
 have KH:=hid (zhp hth5.1 hth5.2.2 (Vg s) hzt)
 rw [eb5] at KH
 clear hth5
 rcases hno with hem|⟨hem,hha⟩
 ·clear KH
  go_wp2_with fail
  have r5:=R5.out.below (w':=w5.drew) (Qi _ _)
  obtain ⟨g,cp,hov,q1⟩:=zau r5 ol o hop5 hol5
  subst hov
  have c35:=r5.c3
  obtain ⟨hm1,hm2⟩:=zmc hok5 ms5[o].b
  have K6:=hid (zma r5 (λk hk=>HDw.out k yvz) o hol5 (.leaf s) T u hTu2 hen5)
  rw [<-r5.addE_eq o hol5 (.leaf s)] at K6
  have C6:=hid (C5.out.drew)
  clear r5 R5 C5
  generalize hkT ms5[o].h.k=To at*
  generalize ms5[o].b=ob at*
  go_region_law (go_simp;go_at_call 219;refine K6.out.mono ?_;rintro e w7 ⟨rfl,⟨lab7,rv7,r7⟩,c7⟩;have R7:=hid r7;have C7:=hid (C6.out.trans c7);clear r7 c7)
  all_goals
   go_wp2
   go_end0
   subst hst5
   exact ⟨rfl,⟨lab7,_,_,R7.out⟩,C7.out⟩
 ·rw [hha] at KH
  go_wp2_with fail
  refine KH.out.mono ?_
  rintro e w6 ⟨rfl,rfl⟩
  go_wp2_with fail
  have r5:=R5.out.below (w':=w6.drew) (Qi _ _)
  obtain ⟨g,cp,hov,q1⟩:=zau r5 ol o hop5 hol5
  subst hov
  have c35:=r5.c3
  obtain ⟨hm1,hm2⟩:=zmc hok5 ms5[o].b
  have K6:=hid (zma r5 (λk hk=>HDw.out k yvz) o hol5 (.leaf s) T u hTu2 hen5)
  rw [<-r5.addE_eq o hol5 (.leaf s)] at K6
  have C6:=hid (C5.out.drew)
  clear r5 R5 C5
  generalize hkT ms5[o].h.k=To at*
  generalize ms5[o].b=ob at*
  go_region_law (go_simp;go_at_call 219;refine K6.out.mono ?_;rintro e w7 ⟨rfl,⟨lab7,rv7,r7⟩,c7⟩;have R7:=hid r7;have C7:=hid (C6.out.trans c7);clear r7 c7)
  all_goals
   go_wp2
   go_end0
   subst hst5
   exact ⟨rfl,⟨lab7,_,_,R7.out⟩,C7.out⟩
theorem zwn(h:RMach D0 lab w br sb bs tv ov st ms)(h0: ∀k,D0 k->D k)(hD: ∀k,w.heap.size<=k->D k)(hy:Lays st ms tl ol t o l c)(s:St)(b:Nat)(hS:StB w s b)(hz:zl9 s)(h2:(Qj s).length<=2)(hmay:st.mayStand s=true)(hnm:st.mayName l s=true)(hrm:st.hasRoom l c s=true)(hh:Qf s=false)(hem:(Vg s).toList.isEmpty=false)(hha:Uh l (Vg s)=false):
  Cl 63 #[ptr br,ptr bl,Vk s b] w λe w'=>e= .returned (.tuple #[])/\(∃lab' ov' ms',RMach D lab' w' br sb bs tv ov' (((st.setK t (.thr l (c+1))).setK t (.thr (l++[Vg s]) (c+1))).addE o (.leaf s)) ms')/\Chg (λk _=>D k) w w':=by
 have K:=hid (Xm h hy.opn s b)
 rw [hmay] at K
 have K2:=hid (Fp h tl t hy.ht hy.htl hy.hn l c hy.hk s b hS hz h2)
 rw [hnm] at K2
 have K3:=hid (λW (hW:Below w.heap.size w W)=>Oj (h.below hW) hy.opn tl t hy.ht hy.htl hy.hn l c hy.hk s b hz)
 rw [hrm] at K3
 have htl:=hy.htl
 have hol:=hy.hol
 have K4:=hid (λW (hW:Below w.heap.size w W)=>zdq (h.below hW) tl t hy.ht htl hy.hn)
 obtain ⟨hok,hents⟩:zhr ms[o].h.k/\ms[o].h.ents.length<900:=hy.okO h
 have hk:ms[t].h.k= .thr l c:=hy.hk
 have hop:=hy.ho
 have hc14:=hy.hc
 have hl4:=hy.hl
 have r0:=h.newD (D':=D) (λk hk _=>h0 k hk)
 have R0:=hid r0
 clear r0
 obtain ⟨T,u,x,hTu,hta⟩:=zgl s b
 rw [hh] at hta
 have hTu2:stV s= .iface T u:=ys6
 have KT:=hid (λW=>Io s b W)
 rw [hTu] at K K2 K3 KT⊢
 have hzt:=hz.to
 have hwc:wrap64 ((c:Int)+1)=(c:Int)+1:=yul
 have hol4:ol.length<1000:=yv0
 have hwo:IntKind.i64.wrap (ol.length:Int)=(ol.length:Int):=yum
 have hwo2:(ol.length:Int)<(ol.length:Int)+1:=yue
 have HDw:=hid hD
 clear h hy hS hz h2 hmay hnm hrm hD h0
 go_enter Tryz.func63,Tryz.ntmps63
 go_wp2_with fail
 refine K.out.mono ?_
 rintro e w1 ⟨rfl,rfl⟩
 go_wp2_with fail
 refine K2.out.mono ?_
 rintro e w2 ⟨rfl,b2⟩
 have B2:=hid b2
 clear b2
 go_wp2_with fail
 refine (K3.out w2 B2.out).mono ?_
 rintro e w3 ⟨rfl,b3⟩
 have B3:=hid (B2.out.trans (b3.mono B2.out.size))
 clear b3 B2 K K2 K3
 go_wp2_with fail
 refine (K4.out w3 B3.out).mono ?_
 rintro e w4 ⟨rfl,rfl⟩
 have r1:=R0.out.below (B3.out.drew)
 obtain ⟨ms5,r2,c2,htl5,hol5,hok5,hen5,ek5,eb5,hid5,hop5⟩:=Su r1 t htl l c hk o hol hok hents ol hop
 have hkd:=(r1.hd t htl).kind
 rw [hk] at hkd
 have cc:=hkd.2.1
 have fc:=(r1.hd t htl).free 2
 have hlt4:=Qd (r1.hd t htl).sh
 have hcomm:w3.drew.setCell ⟨ms[t].b,2,none⟩ (.int .i64 ((c:Int)+1))=(w3.setCell ⟨ms[t].b,2,none⟩ (.int .i64 ((c:Int)+1))).drew:=rfl
 rw [hcomm] at r2 c2
 have R2:=hid r2
 have C2:=hid ((Chg.of_below (M:=λk _=>D k) B3.out.drew).trans c2)
 clear r1 r2 c2 hkd B3 K4 hcomm
 generalize htb:ms[t].b=tb at*
 go_wp2_with fail
 generalize hW4:(w3.setCell ⟨tb,2,none⟩ (.int .i64 ((c:Int)+1))).drew=W4 at*
 refine (KT.out W4).mono ?_
 rintro e w5 ⟨rfl,b5⟩
 have R5:=hid (R2.out.below b5)
 have C5:=hid (C2.out.trans (Chg.of_below (M:=λk _=>D k) b5))
 clear b5 R2 C2 hW4 cc fc hlt4
 generalize hst5:st.setK t (.thr l (c+1))=st5 at*
 have hth5:=(R5.out.hd t htl5).kind
 rw [ek5] at hth5
 have KH:=hid (zhp hth5.1 hth5.2.2 (Vg s) hzt)
 rw [eb5] at KH
 have hc15:=hth5.1
 rw [eb5] at hc15
 have hm5:=hid hth5.2.2
 clear hth5
 rw [hha] at KH
 go_wp2_with fail
 refine KH.out.mono ?_
 rintro e w6 ⟨rfl,rfl⟩
 have r5:=R5.out.below (w':=w6.drew) (Qi _ _)
 have hlen5:=(hm5.out.keep (Chg.of_below (M:=λ_ _=>False) (Qi _ w6)) (λ_ e=>e)).len Tryz.underlying109
 obtain ⟨W7,hmu,ms7,r7,c7,hol7,hok7,hen7,hid7,hop7⟩:=zkg r5 t htl5 l (c+1) ek5 o hol5 hok5 hen5 ol hop5 (Vg s) hzt hha yue
 have R7:=hid r7
 have C7:=hid (C5.out.drew.trans c7)
 clear r5 r7 c7 R5 C5 KH hm5
 generalize ms5[t].mb=tm at*
 go_wp2_with fail
 go_region
 all_goals
  go_wp2_with fail
  have r5:=R7.out.below (w':=W7.drew) (Qi _ _)
  obtain ⟨g,cp,hov,q1⟩:=zau r5 ol o hop7 hol7
  subst hov
  have c35:=r5.c3
  obtain ⟨hm1,hm2⟩:=zmc hok7 ms7[o].b
  have K6:=hid (zma r5 (λk hk=>HDw.out k (by have:=C7.out.size;simp at hk;omega)) o hol7 (.leaf s) T u hTu2 hen7)
  rw [<-r5.addE_eq o hol7 (.leaf s)] at K6
  have C6:=hid (C7.out.drew)
  clear r5 R7 C7
  generalize hkT ms7[o].h.k=To at*
  generalize ms7[o].b=ob at*
  go_region_law (go_simp;go_at_call 219;refine K6.out.mono ?_;rintro e w8 ⟨rfl,⟨lab8,rv8,r8⟩,c8⟩;have R8:=hid r8;have C8:=hid (C6.out.trans c8);clear r8 c8)
  all_goals
   go_wp2
   go_end0
   subst hst5
   exact ⟨rfl,⟨lab8,_,_,R8.out⟩,C8.out⟩
theorem zr0(h:RMach D0 lab w br sb bs tv ov st ms)(h0: ∀k,D0 k->D k)(hD: ∀k,w.heap.size<=k->D k)(hy:Lays st ms tl ol t o l c)(s:St)(b:Nat)(hS:StB w s b)(hz:zl9 s)(h2:(Qj s).length<=2)(hmay:st.mayStand s=true)(hnm:st.mayName l s=true)(hrm:st.hasRoom l c s=true)(hB:zar w s b)(hDb:D b)(hnb: ¬D0 b)(hh:Qf s=true):
  Cl 63 #[ptr br,ptr bl,Vk s b] w λe w'=>e= .returned (.tuple #[])/\(∃lab' ov' ms',RMach D lab' w' br sb bs tv ov' ({(((st.newH s).setK t (.thr l (c+1))).addE o (.sub st.hs.length)) with opn:=st.opn++[st.hs.length]}) ms')/\Chg (λk _=>D k) w w':=by
 have K:=hid (Xm h hy.opn s b)
 rw [hmay] at K
 have K2:=hid (Fp h tl t hy.ht hy.htl hy.hn l c hy.hk s b hS hz h2)
 rw [hnm] at K2
 have K3:=hid (λW (hW:Below w.heap.size w W)=>Oj (h.below hW) hy.opn tl t hy.ht hy.htl hy.hn l c hy.hk s b hz)
 rw [hrm] at K3
 have htl:=hy.htl
 have hol:=hy.hol
 have K4:=hid (λW (hW:Below w.heap.size w W)=>zdq (h.below hW) tl t hy.ht htl hy.hn)
 obtain ⟨hok,hents⟩:zhr ms[o].h.k/\ms[o].h.ents.length<900:=hy.okO h
 have hk:ms[t].h.k= .thr l c:=hy.hk
 have hop:=hy.ho
 have hc14:=hy.hc
 have hl4:=hy.hl
 obtain ⟨lab1,ms1,r0,htl1,hol1,hk1,hok1,hents1,hj,et⟩:=zrz h hy.ent h0 s b hB hDb hnb t htl l c hk o hol hok hents
 have hT:Vk s b= .iface (hkT (.st s)) (ptr b):=ys0
 have hto:Vg s=ByteArray.empty:=ys0
 have hem:(Vg s).toList.isEmpty=true:=by rw [hto,ByteArray.toList_eq];rfl
 clear hto
 generalize hn1:st.newH s=st1 at*
 have hop1:st1.opn=ol++[o]:=by rw [<-hn1];exact hop
 rw [<-et] at K4
 have R0:=hid r0
 clear r0 et
 obtain ⟨T,u,x,hTu,hta⟩:=zgl s b
 rw [hh] at hta
 obtain ⟨rfl,rfl⟩:hkT (.st s)=T/\ptr b=u:=by rw [hT] at hTu;simpa using hTu
 have hx:x= .iface (hkT (.st s)) (ptr b):=by
  rcases s with ⟨to,a⟩|⟨to,k,a,c⟩|⟨to,f,a⟩|⟨f,a,c⟩|a|⟨⟩|a|n
  ·simp [Qf] at hh
  ·simp [Qf] at hh
  ·simp [Qf] at hh
  ·simp [Qf] at hh
  ·simp [Qf] at hh
  ·have:=(hta w).symm.trans (Xk (ptr b) w);exact (show x= .iface 162 (ptr b) from by simpa using this)
  ·have:=(hta w).symm.trans (Ed (ptr b) w);exact (show x= .iface 206 (ptr b) from by simpa using this)
  ·have:=(hta w).symm.trans (Uy (ptr b) w);exact (show x= .iface 209 (ptr b) from by simpa using this)
 subst hx
 obtain ⟨oi0,ohi,ohz0,ohz1,ohz2⟩:=info_parts zod
 have KT:=hid (λW=>Io s b W)
 rw [hTu] at K K2 K3 KT⊢
 have hzt:=hz.to
 have hwc:wrap64 ((c:Int)+1)=(c:Int)+1:=yul
 have hol4:ol.length<1000:=yv0
 have hwo:IntKind.i64.wrap (ol.length:Int)=(ol.length:Int):=yum
 have hwo2:(ol.length:Int)<(ol.length:Int)+1:=yue
 have HDw:=hid hD
 clear h hy hS hz h2 hmay hnm hrm hD h0
 go_enter Tryz.func63,Tryz.ntmps63
 go_wp2_with fail
 refine K.out.mono ?_
 rintro e w1 ⟨rfl,rfl⟩
 go_wp2_with fail
 refine K2.out.mono ?_
 rintro e w2 ⟨rfl,b2⟩
 have B2:=hid b2
 clear b2
 go_wp2_with fail
 refine (K3.out w2 B2.out).mono ?_
 rintro e w3 ⟨rfl,b3⟩
 have B3:=hid (B2.out.trans (b3.mono B2.out.size))
 clear b3 B2 K K2 K3
 go_wp2_with fail
 refine (K4.out w3 B3.out).mono ?_
 rintro e w4 ⟨rfl,rfl⟩
 have r1:=R0.out.below (B3.out.drew)
 obtain ⟨ms5,r2,c2,htl5,hol5,hok5,hen5,ek5,eb5,hid5,hop5⟩:=Su r1 t htl1 l c hk1 o hol1 hok1 hents1 ol hop1
 have hkd:=(r1.hd t htl1).kind
 rw [hk1] at hkd
 have cc:=hkd.2.1
 have fc:=(r1.hd t htl1).free 2
 have hlt4:=Qd (r1.hd t htl1).sh
 have hcomm:w3.drew.setCell ⟨ms1[t].b,2,none⟩ (.int .i64 ((c:Int)+1))=(w3.setCell ⟨ms1[t].b,2,none⟩ (.int .i64 ((c:Int)+1))).drew:=rfl
 rw [hcomm] at r2 c2
 have R2:=hid r2
 have C2:=hid ((Chg.of_below (M:=λk _=>D k) B3.out.drew).trans c2)
 clear r1 r2 c2 hkd B3 K4 hcomm
 generalize htb:ms1[t].b=tb at*
 go_wp2_with fail
 generalize hW4:(w3.setCell ⟨tb,2,none⟩ (.int .i64 ((c:Int)+1))).drew=W4 at*
 refine (KT.out W4).mono ?_
 rintro e w5 ⟨rfl,b5⟩
 have R5:=hid (R2.out.below b5)
 have C5:=hid (C2.out.trans (Chg.of_below (M:=λk _=>D k) b5))
 clear b5 R2 C2 hW4 cc fc hlt4
 generalize hst5:st1.setK t (.thr l (c+1))=st5 at*
 have hth5:=(R5.out.hd t htl5).kind
 rw [ek5] at hth5
 have KH:=hid (zhp hth5.1 hth5.2.2 (Vg s) hzt)
 rw [eb5] at KH
 clear KH hth5
 go_wp2_with fail
 have r5:=R5.out.below (w':=w5.drew) (Qi _ _)
 obtain ⟨g,cp,hov,q1⟩:=zau r5 ol o hop5 hol5
 subst hov
 have c35:=r5.c3
 obtain ⟨hm1,hm2⟩:=zmc hok5 ms5[o].b
 have hv5:enV (Qu ms5) (.sub st.hs.length)= .iface (hkT (.st s)) (ptr b):=by rw [hid5];exact hj
 have K6:=hid (zma r5 (λk hk=>HDw.out k yvz) o hol5 (.sub st.hs.length) _ _ hv5 hen5)
 rw [<-r5.addE_eq o hol5 (.sub st.hs.length)] at K6
 have hid6: ∀rv,Qu (ms5.set o {ms5[o] with rv:=rv,h:=⟨ms5[o].h.k,ms5[o].h.ents++[.sub st.hs.length]⟩})=Qu ms5:=λrv=>zaq ms5 o hol5 _ rfl rfl
 have hop6:(st5.addE o (.sub st.hs.length)).opn=ol++[o]:=by rw [<-hop5];unfold RS.addE;split<;>rfl
 have C6:=hid (C5.out.drew)
 have hl1:ol.length+1+1<=maxLen:=yuk
 have hl2:(ol.length+1+1)*16<=140737488355328:=yue
 clear r5 R5 C5
 generalize hTo:hkT ms5[o].h.k=To at*
 generalize hob:ms5[o].b=ob at*
 generalize hTs:hkT (.st s)=Ts at*
 go_region_law (go_simp;go_at_call 219;refine K6.out.mono ?_;rintro e w7 ⟨rfl,⟨lab7,rv7,r7⟩,c7⟩;have R7:=hid r7;have C7:=hid (C6.out.trans c7);clear r7 c7)
 all_goals
  have horow:=R7.out.orow
  have hpush:=λoo w9 g9 cp9=>R7.out.push (λk hk=>HDw.out k (by have:=C7.out.size;omega)) st.hs.length oo (w3:=w9) (g:=g9) (cp:=cp9)
  simp only [hop6,hid6,List.length_append,List.length_cons,List.length_nil] at horow hpush
  have hvj:idV (Qu ms5) st.hs.length= .iface Ts (ptr b):=hv5
  rw [hvj] at hpush
  have c37:=R7.out.c3
  have nr: ¬(Value.slice (some ⟨g,0,none⟩) (ol.length+1) cp).ownBlock=some br:=λe=>zd3 (R7.out.lov _ e).1 R7.out.lbr.1 yuf rfl
  have lb7:=Qd R7.out.sh
  have HO7:=hid horow
  have HP7:=hid hpush
  have HCB:Hid (∀w9 oo,Chg (λk _=>(Value.slice (some ⟨g,0,none⟩) (ol.length+1) cp).ownBlock=some k) (w7.alloc oo) w9->w9.cell? ⟨br,3,none⟩=some (.slice (some ⟨g,0,none⟩) (ol.length+1) cp)/\w9.frozen? ⟨br,3,none⟩=false):=hid (λw9 oo hch=>⟨(hch.cell _ _ yuj nr).trans ((World.cell?_alloc_past _ _ _ lb7).trans c37),(hch.frozen _ _ yuj).trans ((World.frozen?_alloc_past _ _ _ lb7).trans (R7.out.free 3))⟩)
  clear horow hpush hvj nr R7
  go_wp2_with (at_builtin;refine Zk rfl _ _ 94 rfl 216 oi0 .nilIface 16 Tryz.underlying94 ohi ohz0 ohz1 ohz2 rfl (.slice (some ⟨g,0,none⟩) (ol.length+1) cp) (ol.length+1) _ rfl (HO7.out.alloc _) ⟨w7.heap.size,0,none⟩ (.iface Ts (ptr b)) rfl (cell_one_new _ _ _) rfl hl1 hl2 ?_;go_must (intro g9 cp9 w9 hown1 hch hg;have hcb:=(HCB.out w9 _ hch).1;have hfb:=(HCB.out w9 _ hch).2;have HO1:=hid hown1;have HC1:=hid hch;have HG1:=hid hg;clear hown1 hch hg))
  go_end0
  obtain ⟨lab9,r9,c9⟩:=HP7.out _ w9 g9 cp9 HO1.out HC1.out HG1.out
  subst hst5
  exact ⟨rfl,⟨lab9,_,_,by simpa using r9⟩,C7.out.trans c9⟩
end
end Go.Proofs.YtkenoofmkbghiaaGreatDoor
