import Derived.Test.YtphcopbffecceaaGreatDoorP14
set_option maxRecDepth 100000
set_option maxHeartbeats 4000000
namespace Go.Proofs.YtphcopbffecceaaGreatDoor
open Go.RowKit
variable{c o t:Nat}{ol tl:List Nat}{l:List ByteArray}{u:ByteArray}
def Ck.none':Ck:=⟨[],[],0,Option.none,0⟩
theorem Ck.none_ok:Ck.none'.Ok:=⟨Nat.le_refl _,λ_ h=>by simp [Ck.none'] at h,Nat.le_refl _,λ_ h=>by simp [Ck.none'] at h,λ_ h=>by simp [Ck.none'] at h⟩
theorem zyw(w:World)(o:Obj):(w.alloc o).heap[w.heap.size]?=some o:=yct
theorem z0n{W:World}{x:Cx}(h:zj0 W x):
  Cw W x [] (W.alloc (.cells #[.slice Option.none 0 0, .map (some x.sb), .map (some x.lb), .int .i64 x.th, .int .i64 0, .pointer Option.none, .slice Option.none 0 0] 122)) W.heap.size Ck.none':=by
 refine ⟨⟨λk=>if k=W.heap.size then 1 else 0, .slice Option.none 0 0, .slice Option.none 0 0,[],0, .slice Option.none 0 0,[]⟩,{
  base:=h,ok:=Ck.none_ok,low:=(Below.refl _ W).alloc (Nat.le_refl _) _
  sh:=by unfold World.shape?;rw [zyw];rfl
  c0:=World.cell?_alloc_new _ _ _ 0,c1:=World.cell?_alloc_new _ _ _ 1,c2:=World.cell?_alloc_new _ _ _ 2,c3:=World.cell?_alloc_new _ _ _ 3
  c4:=World.cell?_alloc_new _ _ _ 4,c5:=World.cell?_alloc_new _ _ _ 5,c6:=World.cell?_alloc_new _ _ _ 6
  free:=λj=>by unfold World.frozen?;rw [zyw];simp
  lrow:=⟨rfl, .inl ⟨rfl,rfl⟩⟩,trow:=⟨rfl, .inl ⟨rfl,rfl⟩⟩
  tl:=⟨rfl,λi f n hf=>by simp at hf⟩
  bk:=λk hk=>by simp [Ck.none'] at hk
  kp:=λp hp=>by simp at hp
  lz:=λk hk=>if_neg (by simp at hk;omega)
  lo:=λk hk=>if_neg yai
  lc:=if_pos rfl
  llv:=λg hg=>by simp [Value.ownBlock] at hg
  ltv:=λg hg=>by simp [Value.ownBlock] at hg}⟩
def It(hs:List Hd)(x:Cx)(es:List En):Ck:=(es.foldl (λs e=>cEn hs x 3 e s) Ck.none').endC
def zfr(hs:List Hd)(x:Cx)(es:List En):ByteArray:=⟨#[116,104,114,101,97,100,10]⟩++(It hs x es).text
open Go.RowKit Go.Shelf
section
variable{w:World}{B b:Nat}{l:List UInt8}{u:ByteArray}
theorem z0o(h:Lib.IsBuilderF 108 5 B b (Lib.byteCells l) w)(hlen:l.length+u.size<=140737488355328)(hB:B<=w.heap.size):
  Cl 34 #[ptr b, .string u] w λe w'=>e= .returned (.tuple #[.int .i64 u.size, .nilIface])/\Lib.IsBuilderF 108 5 B b (Lib.byteCells (l++u.data.toList)) w'/\Below B w w':=by
 have hl:(Lib.byteCells l).length+u.size<=140737488355328:=by simpa [Lib.byteCells] using hlen
 refine (Any.Builder_WriteString_k (ρ:=Tryz.lays156_ren) {Tryz.lays156 with} Tryz.Builder_Extra_156 B b (Lib.byteCells l) u w h hl hB).mono ?_
 rintro e w' ⟨he,h1,h2,_⟩
 refine ⟨he, .inr ?_,h2⟩
 have e1:Lib.byteCells (l++u.data.toList)=Lib.byteCells l++Lib.strCells u:=by simp [Lib.byteCells,Lib.strCells]
 rw [e1]
 exact h1
theorem zwl(h:Lib.IsBuilderF 108 5 B b (Lib.byteCells l) w)(hB:B<=w.heap.size):
  Cl 36 #[ptr b] w λe w'=>e= .returned (.string ⟨l.toArray⟩)/\Below B w w':=by
 refine (Tryz.Builder_String_any_k B b l w h hB).mono ?_
 rintro e w' ⟨he,_,h2,_⟩
 exact ⟨he,h2⟩
end
abbrev z3i(sb lb i:Nat):Obj:= .cells #[.slice none 0 0, .map (some sb), .map (some lb), .int .i64 (i:Int), .int .i64 0, .pointer none, .slice none 0 0] 122
section
variable{W:World}{br sb n:Nat}{ta:Option Addr}{tk:Nat}{tb lb:Nat->Nat}{rv:Nat->Value}{tx:Nat->ByteArray}
theorem z3j(hn:n<=3)(c0:W.cell? ⟨br,0,none⟩=some (.map (some sb)))(c1:W.cell? ⟨br,1,none⟩=some (.slice ta n tk))
  (HT:Hid (∀i,i<n->∃g,ta=some ⟨g,0,none⟩/\W.cell? ⟨g,i,none⟩=some (ptr (tb i))/\W.cell? ⟨tb i,0,none⟩=some (rv i)/\W.cell? ⟨tb i,1,none⟩=some (.map (some (lb i)))))
  (J:Nat->World->Prop) (P1 P2 P3:Nat->Nat->World->Prop) (R:Value->World->Prop) (HTX:Hid (∀i c w,i<n->P3 i c w->(tx i).size<=1000000000000))
  (hlow:Hid (∀i wr,J i wr->Below W.heap.size W wr)) (h0:Hid (J 0 (W.alloc (.cells #[.pointer none, .slice none 0 0] 108))))
  (K1:Hid (∀i wr,i<n->J i wr->Cl 32 #[ptr wr.heap.size,rv i] (wr.drew.alloc (z3i sb (lb i) i)) λe w'=>e= .returned (.tuple #[])/\P1 i wr.heap.size w'))
  (K2:Hid (∀i c w,i<n->P1 i c w->Cl 33 #[ptr c] w λe w'=>e= .returned (.tuple #[])/\P2 i c w'))
  (K3:Hid (∀i c w,i<n->P2 i c w->Cl 35 #[ptr c] w λe w'=>e= .returned (.string (tx i))/\P3 i c w'))
  (K4:Hid (∀i c w,i<n->P3 i c w->Cl 34 #[ptr W.heap.size, .string (⟨#[116,104,114,101,97,100,10]⟩++tx i)] w λe w'=>(∃v,e= .returned v)/\J (i+1) w'))
  (K5:Hid (∀w,J n w->Cl 36 #[ptr W.heap.size] w λe w'=>∃v,e= .returned v/\R v w')):
  Cl 16 #[ptr br] W λe w'=>∃v,e= .returned v/\R v w':=by
 have l0:=blt c0
 have HC0:Hid (∀wr,Below W.heap.size W wr->wr.cell? ⟨br,0,none⟩=some (.map (some sb))):=hid λwr h=>(h.cell (p:=⟨br,0,none⟩) l0).trans c0
 have HK:Hid (∀wr,Below W.heap.size W wr->∀b o v,W.cell? ⟨b,o,none⟩=some v->wr.cell? ⟨b,o,none⟩=some v):=hid λwr h b o v hv=>(h.cell (p:=⟨b,o,none⟩) (blt hv)).trans hv
 go_enter Tryz.func16,Tryz.ntmps16
 go_wp2
 go_loopw [12] (λv12 wr=>∃i:Nat,i<=n/\v12= .int .i64 i/\Hid (J i wr)) (λv12 _=>n- (intOf v12).toNat)
 case atStart=>exact ⟨0,Nat.zero_le _,rfl,h0⟩
 case round=>
  obtain ⟨i,hi,rfl,hB⟩:=hrel
  by_cases hlt:i<n
  ·have hlt':(i:Int)<(n:Int):=by omega
   have hi0:(0:Int)<=(i:Int):=yai
   obtain ⟨g,hta,t1,t2,t3⟩:=HT.out i hlt
   subst hta
   have hbl:=hlow.out i wr hB.out
   have d0:=HC0.out wr hbl
   have d1:=HK.out wr hbl _ _ _ t1
   have d3:=HK.out wr hbl _ _ _ t3
   have d2:=HK.out wr hbl _ _ _ t2
   have lt:tb i<wr.heap.size:=blt d2
   have D1:=hid (K1.out i wr hlt hB.out)
   have D2:=hid (λc w=>K2.out i c w hlt)
   have D3:=hid (λc w=>K3.out i c w hlt)
   have D4:=hid (λc w=>K4.out i c w hlt)
   have D5:=hid (λc w=>HTX.out i c w hlt)
   clear hbl t1 t2 t3 K1 K2 K3 K4 HT HC0 HK c0 c1
   generalize tb i=tbi at*
   generalize lb i=lbi at*
   generalize rv i=rvi at*
   generalize tx i=txi at*
   go_wp2_with fail
   go_region_law fail
   all_goals
    go_wp2_with fail
    refine D1.out.mono ?_
    rintro e w1 ⟨rfl,q⟩
    have H1:=hid q
    clear q
    go_wp2_with fail
    refine (D2.out _ _ H1.out).mono ?_
    rintro e w2 ⟨rfl,q⟩
    have H2:=hid q
    clear q
    go_wp2_with fail
    refine (D3.out _ _ H2.out).mono ?_
    rintro e w3 ⟨rfl,q⟩
    have hs: ¬9223372036854775807<7+txi.size:=by have:=D5.out _ _ q;omega
    have H3:=hid q
    clear q
    go_wp2_with fail
    refine (D4.out _ _ H3.out).mono ?_
    rintro e w4 ⟨⟨v,rfl⟩,q⟩
    have H4:=hid q
    clear q
    go_wp2
    go_roundw
    case rel=>exact ⟨i+1,by omega,by go_num,H4⟩
    case measure=>simp [intOf];omega
  ·have hlt': ¬(i:Int)<(n:Int):=by omega
   have hie:i=n:=yai
   subst hie
   have D5:=hid (K5.out wr hB.out)
   go_wp2_with fail
   refine D5.out.mono ?_
   rintro e w1 ⟨v,rfl,q⟩
   have H1:=hid q
   clear q
   go_wp2
   go_ret
   exact ⟨v,rfl,H1.out⟩
end
section
variable{D D0:Nat->Prop}{lab:Nat->Nat×Nat}{w:World}{br sb bs bl bw:Nat}{n:Int}{ws:List ByteArray}{tv ov:Value}{st:RS}{ms:List HM}
theorem zau(h:RMach D lab w br sb bs tv ov st ms)(ol:List Nat)(o:Nat)(hop:st.opn=ol++[o])(hol:o<ms.length): ∃g cp,ov= .slice (some ⟨g,0,none⟩) (ol.length+1) cp/\w.cell? ⟨g,ol.length,none⟩=some (.iface (hkT ms[o].h.k) (ptr ms[o].b)):=by
 have hr:=h.orow
 rw [hop] at hr
 simp only [List.length_append,List.length_cons,List.length_nil] at hr
 obtain ⟨g,cp,rfl⟩: ∃g cp,ov= .slice (some ⟨g,0,none⟩) (ol.length+1) cp:=z9b
 obtain ⟨q1,_,_⟩:=Qm hr ol.length yai
 refine ⟨g,cp,rfl,?_⟩
 rw [q1]
 simp [idV,Qu,List.getElem?_eq_getElem hol]
theorem zyx(ms:List HM)(hol:o<ms.length)(ht:t<ms.length)(l:List ByteArray)(c:Nat)(hk:zhr ms[o].h.k)(m':HM)(hm:m'.h.k= .thr l c)(he:m'.h.ents=ms[t].h.ents):zhr ((ms.set t m')[o]'(by simpa using hol)).h.k/\((ms.set t m')[o]'(by simpa using hol)).h.ents=ms[o].h.ents:=by
 by_cases e:t=o
 ·subst e
  rw [List.getElem_set_self,hm]
  exact ⟨trivial,he⟩
 ·rw [List.getElem_set_ne e]
  exact ⟨hk,rfl⟩
theorem Lays.okO(hy:Lays st ms tl ol t o l c)(h:RMach D lab w br sb bs tv ov st ms):zhr (ms[o]'hy.hol).h.k/\(ms[o]'hy.hol).h.ents.length<900:=by
 obtain ⟨x,hx,hok⟩:=hy.opn.2 o (by rw [hy.ho];simp)
 rw [h.hsAt o hy.hol] at hx
 injection hx with hx
 exact ⟨hx▸hok,hy.hents _ (by rw [<-h.hs];exact List.mem_map.2 ⟨_,List.getElem_mem hy.hol,rfl⟩)⟩
theorem Su(h:RMach D lab w br sb bs tv ov st ms)(t:Nat)(ht:t<ms.length)(l:List ByteArray)(c:Nat)(hk:ms[t].h.k= .thr l c)(o:Nat)(hol:o<ms.length)(hok:zhr ms[o].h.k)(hen:ms[o].h.ents.length<900)(ol:List Nat)(hop:st.opn=ol++[o]):
  ∃ms5:List HM,RMach D lab (w.setCell ⟨ms[t].b,2,none⟩ (.int .i64 ((c:Int)+1))) br sb bs tv ov (st.setK t (.thr l (c+1))) ms5/\Chg (λk _=>D k) w (w.setCell ⟨ms[t].b,2,none⟩ (.int .i64 ((c:Int)+1)))/\
   ∃(htl5:t<ms5.length) (hol5:o<ms5.length),zhr ms5[o].h.k/\ms5[o].h.ents.length<1000/\ms5[t].h.k= .thr l (c+1)/\ms5[t].b=ms[t].b/\Qu ms5=Qu ms/\(st.setK t (.thr l (c+1))).opn=ol++[o]:=by
 obtain ⟨r2,c2⟩:=h.count t ht l c hk
 rw [<-h.setK_eq t ht (.thr l (c+1))] at r2
 obtain ⟨hok5,hen5⟩:=zyx ms hol ht l (c+1) hok {ms[t] with h:=⟨.thr l (c+1),ms[t].h.ents⟩} rfl rfl
 refine ⟨_,r2,c2,by simpa using ht,by simpa using hol,hok5,by rw [hen5];omega,by rw [List.getElem_set_self],by rw [List.getElem_set_self],zaq ms t ht _ rfl (by rw [hk];rfl),?_⟩
 rw [<-hop]
 unfold RS.setK
 split<;>rfl
theorem zrz(h:RMach D0 lab w br sb bs tv ov st ms)(he:st.entOk)(h0: ∀k,D0 k->D k)(s:St)(b:Nat)(hb:zar w s b)(hD:D b)(hn: ¬D0 b)(t:Nat)(ht:t<ms.length)(l:List ByteArray)(c:Nat)(hk:ms[t].h.k= .thr l c)(o:Nat)(hol:o<ms.length)(hok:zhr ms[o].h.k)(hen:ms[o].h.ents.length<900):
  ∃lab1 ms1,RMach D lab1 w br sb bs tv ov (st.newH s) ms1/\ ∃(htl1:t<ms1.length) (hol1:o<ms1.length),ms1[t].h.k= .thr l c/\zhr ms1[o].h.k/\ms1[o].h.ents.length<900/\idV (Qu ms1) st.hs.length= .iface (hkT (.st s)) (ptr b)/\ms1[t].b=ms[t].b:=by
 obtain ⟨lab1,r0⟩:=h.newH (D:=D) he h0 s b hb hD hn
 have em: ∀i (hi:i<ms.length),(ms++[⟨b, .slice none 0 0,0,⟨.st s,[]⟩⟩]:List HM)[i]'(by simp;omega)=ms[i]:=λi hi=>List.getElem_append_left hi
 refine ⟨lab1,_,r0,by simp;omega,by simp;omega,by rw [em t ht];exact hk,by rw [em o hol];exact hok,by rw [em o hol];exact hen,?_,by rw [em t ht]⟩
 rw [<-h.len]
 simp [idV,Qu]
theorem zkg(h:RMach D lab w br sb bs tv ov st ms)(t:Nat)(ht:t<ms.length)(l:List ByteArray)(c:Nat)(hk:ms[t].h.k= .thr l c)(o:Nat)(hol:o<ms.length)(hok:zhr ms[o].h.k)(hen:ms[o].h.ents.length<1000)(ol:List Nat)(hop:st.opn=ol++[o])(u:ByteArray)(hu:u.size<=maxLen)(hnew:Uh l u=false)(hl:l.length<1000):
  ∃W,(Instr.mapUpdate 114 (.map (some ms[t].mb)) (.string u) (.int .i64 l.length)).run Tryz.prog w= .ok () W/\ ∃ms5:List HM,RMach D lab W br sb bs tv ov (st.setK t (.thr (l++[u]) c)) ms5/\Chg (λk _=>D k) w W/\
   ∃(hol5:o<ms5.length),zhr ms5[o].h.k/\ms5[o].h.ents.length<1000/\Qu ms5=Qu ms/\(st.setK t (.thr (l++[u]) c)).opn=ol++[o]:=by
 obtain ⟨W,hrun,r2,c2⟩:=h.local t ht l c hk u hu hnew hl
 rw [<-h.setK_eq t ht (.thr (l++[u]) c)] at r2
 obtain ⟨hok5,hen5⟩:=zyx ms hol ht (l++[u]) c hok {ms[t] with h:=⟨.thr (l++[u]) c,ms[t].h.ents⟩} rfl rfl
 refine ⟨W,hrun,_,r2,c2,by simpa using hol,hok5,by rw [hen5];exact hen,zaq ms t ht _ rfl (by rw [hk];rfl),?_⟩
 rw [<-hop]
 unfold RS.setK
 split<;>rfl
theorem zwm(h:RMach D0 lab w br sb bs tv ov st ms)(h0: ∀k,D0 k->D k)(hD: ∀k,w.heap.size<=k->D k)(hy:Lays st ms tl ol t o l c)(s:St)(b:Nat)(hS:StB w s b)(hz:zl9 s)(h2:(Qj s).length<=2)(hmay:st.mayStand s=true)(hnm:st.mayName l s=true)(hrm:st.hasRoom l c s=true)(hh:Qf s=false)(hno:(Vg s).toList.isEmpty=true\/((Vg s).toList.isEmpty=false/\Uh l (Vg s)=true)):
  Cl 59 #[ptr br,ptr bl,Vk s b] w λe w'=>e= .returned (.tuple #[])/\(∃lab' ov' ms',RMach D lab' w' br sb bs tv ov' ((st.setK t (.thr l (c+1))).addE o (.leaf s)) ms')/\Chg (λk _=>D k) w w':=by
 have K:=hid (Xm h hy.opn s b)
 rw [hmay] at K
 have K2:=hid (Fp h tl t hy.ht hy.htl hy.hn l c hy.hk s b hS hz h2)
 rw [hnm] at K2
 have K3:=hid (λW (hW:Below w.heap.size w W)=>Oj (h.below hW) hy.opn tl t hy.ht hy.htl hy.hn l c hy.hk s b hz)
 rw [hrm] at K3
 have htl:=hy.htl
 have hol:=hy.hol
 have K4:=hid (λW (hW:Below w.heap.size w W)=>zdq (h.below hW) tl t hy.ht htl hy.hn)
 obtain ⟨hok,hents⟩:zhr ms[o].h.k/\ms[o].h.ents.length<900:=hy.okO h
 have hk:ms[t].h.k= .thr l c:=hy.hk
 have hop:=hy.ho
 have hc14:=hy.hc
 have hl4:=hy.hl
 have r0:=h.newD (D':=D) (λk hk _=>h0 k hk)
 have R0:=hid r0
 clear r0
 obtain ⟨T,u,x,hTu,hta⟩:=zgl s b
 rw [hh] at hta
 have hTu2:stV s= .iface T u:=z85
 have KT:=hid (λW=>Io s b W)
 rw [hTu] at K K2 K3 KT⊢
 have hzt:=hz.to
 have hwc:wrap64 ((c:Int)+1)=(c:Int)+1:=yao
 have hol4:ol.length<1000:=ycy
 have hwo:IntKind.i64.wrap (ol.length:Int)=(ol.length:Int):=yar
 have hwo2:(ol.length:Int)<(ol.length:Int)+1:=yai
 have HDw:=hid hD
 clear h hy hS hz h2 hmay hnm hrm hD h0
 go_enter Tryz.func59,Tryz.ntmps59
 go_wp2_with fail
 refine K.out.mono ?_
 rintro e w1 ⟨rfl,rfl⟩
 go_wp2_with fail
 refine K2.out.mono ?_
 rintro e w2 ⟨rfl,b2⟩
 have B2:=hid b2
 clear b2
 go_wp2_with fail
 refine (K3.out w2 B2.out).mono ?_
 rintro e w3 ⟨rfl,b3⟩
 have B3:=hid (B2.out.trans (b3.mono B2.out.size))
 clear b3 B2 K K2 K3
 go_wp2_with fail
 refine (K4.out w3 B3.out).mono ?_
 rintro e w4 ⟨rfl,rfl⟩
 have r1:=R0.out.below (B3.out.drew)
 obtain ⟨ms5,r2,c2,htl5,hol5,hok5,hen5,ek5,eb5,hid5,hop5⟩:=Su r1 t htl l c hk o hol hok hents ol hop
 have hkd:=(r1.hd t htl).kind
 rw [hk] at hkd
 have cc:=hkd.2.1
 have fc:=(r1.hd t htl).free 2
 have hlt4:=Qd (r1.hd t htl).sh
 have hcomm:w3.drew.setCell ⟨ms[t].b,2,none⟩ (.int .i64 ((c:Int)+1))=(w3.setCell ⟨ms[t].b,2,none⟩ (.int .i64 ((c:Int)+1))).drew:=rfl
 rw [hcomm] at r2 c2
 have R2:=hid r2
 have C2:=hid ((Chg.of_below (M:=λk _=>D k) B3.out.drew).trans c2)
 clear r1 r2 c2 hkd B3 K4 hcomm
 generalize htb:ms[t].b=tb at*
 go_wp2_with fail
 generalize hW4:(w3.setCell ⟨tb,2,none⟩ (.int .i64 ((c:Int)+1))).drew=W4 at*
 refine (KT.out W4).mono ?_
 rintro e w5 ⟨rfl,b5⟩
 have R5:=hid (R2.out.below b5)
 have C5:=hid (C2.out.trans (Chg.of_below (M:=λk _=>D k) b5))
 clear b5 R2 C2 hW4 cc fc hlt4
 generalize hst5:st.setK t (.thr l (c+1))=st5 at*
 have hth5:=(R5.out.hd t htl5).kind
 rw [ek5] at hth5
 have KH:=hid (zhp hth5.1 hth5.2.2 (Vg s) hzt)
 rw [eb5] at KH
 clear hth5
 rcases hno with hem|⟨hem,hha⟩
 ·clear KH
  go_wp2_with fail
  have r5:=R5.out.below (w':=w5.drew) (Qi _ _)
  obtain ⟨g,cp,hov,q1⟩:=zau r5 ol o hop5 hol5
  subst hov
  have c35:=r5.c3
  obtain ⟨hm1,hm2⟩:=zmc hok5 ms5[o].b
  have K6:=hid (zma r5 (λk hk=>HDw.out k ycx) o hol5 (.leaf s) T u hTu2 hen5)
  rw [<-r5.addE_eq o hol5 (.leaf s)] at K6
  have C6:=hid (C5.out.drew)
  clear r5 R5 C5
  generalize hkT ms5[o].h.k=To at*
  generalize ms5[o].b=ob at*
  go_region_law (go_simp;go_at_call 208;refine K6.out.mono ?_;rintro e w7 ⟨rfl,⟨lab7,rv7,r7⟩,c7⟩;have R7:=hid r7;have C7:=hid (C6.out.trans c7);clear r7 c7)
  all_goals
   go_wp2
   go_end0
   subst hst5
   exact ⟨rfl,⟨lab7,_,_,R7.out⟩,C7.out⟩
 ·rw [hha] at KH
  go_wp2_with fail
  refine KH.out.mono ?_
  rintro e w6 ⟨rfl,rfl⟩
  go_wp2_with fail
  have r5:=R5.out.below (w':=w6.drew) (Qi _ _)
  obtain ⟨g,cp,hov,q1⟩:=zau r5 ol o hop5 hol5
  subst hov
  have c35:=r5.c3
  obtain ⟨hm1,hm2⟩:=zmc hok5 ms5[o].b
  have K6:=hid (zma r5 (λk hk=>HDw.out k ycx) o hol5 (.leaf s) T u hTu2 hen5)
  rw [<-r5.addE_eq o hol5 (.leaf s)] at K6
  have C6:=hid (C5.out.drew)
  clear r5 R5 C5
  generalize hkT ms5[o].h.k=To at*
  generalize ms5[o].b=ob at*
  go_region_law (go_simp;go_at_call 208;refine K6.out.mono ?_;rintro e w7 ⟨rfl,⟨lab7,rv7,r7⟩,c7⟩;have R7:=hid r7;have C7:=hid (C6.out.trans c7);clear r7 c7)
  all_goals
   go_wp2
   go_end0
   subst hst5
   exact ⟨rfl,⟨lab7,_,_,R7.out⟩,C7.out⟩
theorem zwn(h:RMach D0 lab w br sb bs tv ov st ms)(h0: ∀k,D0 k->D k)(hD: ∀k,w.heap.size<=k->D k)(hy:Lays st ms tl ol t o l c)(s:St)(b:Nat)(hS:StB w s b)(hz:zl9 s)(h2:(Qj s).length<=2)(hmay:st.mayStand s=true)(hnm:st.mayName l s=true)(hrm:st.hasRoom l c s=true)(hh:Qf s=false)(hem:(Vg s).toList.isEmpty=false)(hha:Uh l (Vg s)=false):
  Cl 59 #[ptr br,ptr bl,Vk s b] w λe w'=>e= .returned (.tuple #[])/\(∃lab' ov' ms',RMach D lab' w' br sb bs tv ov' (((st.setK t (.thr l (c+1))).setK t (.thr (l++[Vg s]) (c+1))).addE o (.leaf s)) ms')/\Chg (λk _=>D k) w w':=by
 have K:=hid (Xm h hy.opn s b)
 rw [hmay] at K
 have K2:=hid (Fp h tl t hy.ht hy.htl hy.hn l c hy.hk s b hS hz h2)
 rw [hnm] at K2
 have K3:=hid (λW (hW:Below w.heap.size w W)=>Oj (h.below hW) hy.opn tl t hy.ht hy.htl hy.hn l c hy.hk s b hz)
 rw [hrm] at K3
 have htl:=hy.htl
 have hol:=hy.hol
 have K4:=hid (λW (hW:Below w.heap.size w W)=>zdq (h.below hW) tl t hy.ht htl hy.hn)
 obtain ⟨hok,hents⟩:zhr ms[o].h.k/\ms[o].h.ents.length<900:=hy.okO h
 have hk:ms[t].h.k= .thr l c:=hy.hk
 have hop:=hy.ho
 have hc14:=hy.hc
 have hl4:=hy.hl
 have r0:=h.newD (D':=D) (λk hk _=>h0 k hk)
 have R0:=hid r0
 clear r0
 obtain ⟨T,u,x,hTu,hta⟩:=zgl s b
 rw [hh] at hta
 have hTu2:stV s= .iface T u:=z85
 have KT:=hid (λW=>Io s b W)
 rw [hTu] at K K2 K3 KT⊢
 have hzt:=hz.to
 have hwc:wrap64 ((c:Int)+1)=(c:Int)+1:=yao
 have hol4:ol.length<1000:=ycy
 have hwo:IntKind.i64.wrap (ol.length:Int)=(ol.length:Int):=yar
 have hwo2:(ol.length:Int)<(ol.length:Int)+1:=yai
 have HDw:=hid hD
 clear h hy hS hz h2 hmay hnm hrm hD h0
 go_enter Tryz.func59,Tryz.ntmps59
 go_wp2_with fail
 refine K.out.mono ?_
 rintro e w1 ⟨rfl,rfl⟩
 go_wp2_with fail
 refine K2.out.mono ?_
 rintro e w2 ⟨rfl,b2⟩
 have B2:=hid b2
 clear b2
 go_wp2_with fail
 refine (K3.out w2 B2.out).mono ?_
 rintro e w3 ⟨rfl,b3⟩
 have B3:=hid (B2.out.trans (b3.mono B2.out.size))
 clear b3 B2 K K2 K3
 go_wp2_with fail
 refine (K4.out w3 B3.out).mono ?_
 rintro e w4 ⟨rfl,rfl⟩
 have r1:=R0.out.below (B3.out.drew)
 obtain ⟨ms5,r2,c2,htl5,hol5,hok5,hen5,ek5,eb5,hid5,hop5⟩:=Su r1 t htl l c hk o hol hok hents ol hop
 have hkd:=(r1.hd t htl).kind
 rw [hk] at hkd
 have cc:=hkd.2.1
 have fc:=(r1.hd t htl).free 2
 have hlt4:=Qd (r1.hd t htl).sh
 have hcomm:w3.drew.setCell ⟨ms[t].b,2,none⟩ (.int .i64 ((c:Int)+1))=(w3.setCell ⟨ms[t].b,2,none⟩ (.int .i64 ((c:Int)+1))).drew:=rfl
 rw [hcomm] at r2 c2
 have R2:=hid r2
 have C2:=hid ((Chg.of_below (M:=λk _=>D k) B3.out.drew).trans c2)
 clear r1 r2 c2 hkd B3 K4 hcomm
 generalize htb:ms[t].b=tb at*
 go_wp2_with fail
 generalize hW4:(w3.setCell ⟨tb,2,none⟩ (.int .i64 ((c:Int)+1))).drew=W4 at*
 refine (KT.out W4).mono ?_
 rintro e w5 ⟨rfl,b5⟩
 have R5:=hid (R2.out.below b5)
 have C5:=hid (C2.out.trans (Chg.of_below (M:=λk _=>D k) b5))
 clear b5 R2 C2 hW4 cc fc hlt4
 generalize hst5:st.setK t (.thr l (c+1))=st5 at*
 have hth5:=(R5.out.hd t htl5).kind
 rw [ek5] at hth5
 have KH:=hid (zhp hth5.1 hth5.2.2 (Vg s) hzt)
 rw [eb5] at KH
 have hc15:=hth5.1
 rw [eb5] at hc15
 have hm5:=hid hth5.2.2
 clear hth5
 rw [hha] at KH
 go_wp2_with fail
 refine KH.out.mono ?_
 rintro e w6 ⟨rfl,rfl⟩
 have r5:=R5.out.below (w':=w6.drew) (Qi _ _)
 have hlen5:=(hm5.out.keep (Chg.of_below (M:=λ_ _=>False) (Qi _ w6)) (λ_ e=>e)).len Tryz.underlying114
 obtain ⟨W7,hmu,ms7,r7,c7,hol7,hok7,hen7,hid7,hop7⟩:=zkg r5 t htl5 l (c+1) ek5 o hol5 hok5 hen5 ol hop5 (Vg s) hzt hha yai
 have R7:=hid r7
 have C7:=hid (C5.out.drew.trans c7)
 clear r5 r7 c7 R5 C5 KH hm5
 generalize ms5[t].mb=tm at*
 go_wp2_with fail
 go_region
 all_goals
  go_wp2_with fail
  have r5:=R7.out.below (w':=W7.drew) (Qi _ _)
  obtain ⟨g,cp,hov,q1⟩:=zau r5 ol o hop7 hol7
  subst hov
  have c35:=r5.c3
  obtain ⟨hm1,hm2⟩:=zmc hok7 ms7[o].b
  have K6:=hid (zma r5 (λk hk=>HDw.out k (by have:=C7.out.size;simp at hk;omega)) o hol7 (.leaf s) T u hTu2 hen7)
  rw [<-r5.addE_eq o hol7 (.leaf s)] at K6
  have C6:=hid (C7.out.drew)
  clear r5 R7 C7
  generalize hkT ms7[o].h.k=To at*
  generalize ms7[o].b=ob at*
  go_region_law (go_simp;go_at_call 208;refine K6.out.mono ?_;rintro e w8 ⟨rfl,⟨lab8,rv8,r8⟩,c8⟩;have R8:=hid r8;have C8:=hid (C6.out.trans c8);clear r8 c8)
  all_goals
   go_wp2
   go_end0
   subst hst5
   exact ⟨rfl,⟨lab8,_,_,R8.out⟩,C8.out⟩
theorem zr0(h:RMach D0 lab w br sb bs tv ov st ms)(h0: ∀k,D0 k->D k)(hD: ∀k,w.heap.size<=k->D k)(hy:Lays st ms tl ol t o l c)(s:St)(b:Nat)(hS:StB w s b)(hz:zl9 s)(h2:(Qj s).length<=2)(hmay:st.mayStand s=true)(hnm:st.mayName l s=true)(hrm:st.hasRoom l c s=true)(hB:zar w s b)(hDb:D b)(hnb: ¬D0 b)(hh:Qf s=true):
  Cl 59 #[ptr br,ptr bl,Vk s b] w λe w'=>e= .returned (.tuple #[])/\(∃lab' ov' ms',RMach D lab' w' br sb bs tv ov' ({(((st.newH s).setK t (.thr l (c+1))).addE o (.sub st.hs.length)) with opn:=st.opn++[st.hs.length]}) ms')/\Chg (λk _=>D k) w w':=by
 have K:=hid (Xm h hy.opn s b)
 rw [hmay] at K
 have K2:=hid (Fp h tl t hy.ht hy.htl hy.hn l c hy.hk s b hS hz h2)
 rw [hnm] at K2
 have K3:=hid (λW (hW:Below w.heap.size w W)=>Oj (h.below hW) hy.opn tl t hy.ht hy.htl hy.hn l c hy.hk s b hz)
 rw [hrm] at K3
 have htl:=hy.htl
 have hol:=hy.hol
 have K4:=hid (λW (hW:Below w.heap.size w W)=>zdq (h.below hW) tl t hy.ht htl hy.hn)
 obtain ⟨hok,hents⟩:zhr ms[o].h.k/\ms[o].h.ents.length<900:=hy.okO h
 have hk:ms[t].h.k= .thr l c:=hy.hk
 have hop:=hy.ho
 have hc14:=hy.hc
 have hl4:=hy.hl
 obtain ⟨lab1,ms1,r0,htl1,hol1,hk1,hok1,hents1,hj,et⟩:=zrz h hy.ent h0 s b hB hDb hnb t htl l c hk o hol hok hents
 have hT:Vk s b= .iface (hkT (.st s)) (ptr b):=z8z
 have hto:Vg s=ByteArray.empty:=z8z
 have hem:(Vg s).toList.isEmpty=true:=by rw [hto,ByteArray.toList_eq];rfl
 clear hto
 generalize hn1:st.newH s=st1 at*
 have hop1:st1.opn=ol++[o]:=by rw [<-hn1];exact hop
 rw [<-et] at K4
 have R0:=hid r0
 clear r0 et
 obtain ⟨T,u,x,hTu,hta⟩:=zgl s b
 rw [hh] at hta
 obtain ⟨rfl,rfl⟩:hkT (.st s)=T/\ptr b=u:=by rw [hT] at hTu;simpa using hTu
 have hx:x= .iface (hkT (.st s)) (ptr b):=by
  rcases s with ⟨to,a⟩|⟨to,k,a,c⟩|⟨to,f,a⟩|⟨f,a,c⟩|a|⟨⟩|a|n
  ·simp [Qf] at hh
  ·simp [Qf] at hh
  ·simp [Qf] at hh
  ·simp [Qf] at hh
  ·simp [Qf] at hh
  ·have:=(hta w).symm.trans (Xk (ptr b) w);exact (show x= .iface 171 (ptr b) from by simpa using this)
  ·have:=(hta w).symm.trans (Ed (ptr b) w);exact (show x= .iface 212 (ptr b) from by simpa using this)
  ·have:=(hta w).symm.trans (Uy (ptr b) w);exact (show x= .iface 215 (ptr b) from by simpa using this)
 subst hx
 obtain ⟨oi0,ohi,ohz0,ohz1,ohz2⟩:=info_parts zod
 have KT:=hid (λW=>Io s b W)
 rw [hTu] at K K2 K3 KT⊢
 have hzt:=hz.to
 have hwc:wrap64 ((c:Int)+1)=(c:Int)+1:=yao
 have hol4:ol.length<1000:=ycy
 have hwo:IntKind.i64.wrap (ol.length:Int)=(ol.length:Int):=yar
 have hwo2:(ol.length:Int)<(ol.length:Int)+1:=yai
 have HDw:=hid hD
 clear h hy hS hz h2 hmay hnm hrm hD h0
 go_enter Tryz.func59,Tryz.ntmps59
 go_wp2_with fail
 refine K.out.mono ?_
 rintro e w1 ⟨rfl,rfl⟩
 go_wp2_with fail
 refine K2.out.mono ?_
 rintro e w2 ⟨rfl,b2⟩
 have B2:=hid b2
 clear b2
 go_wp2_with fail
 refine (K3.out w2 B2.out).mono ?_
 rintro e w3 ⟨rfl,b3⟩
 have B3:=hid (B2.out.trans (b3.mono B2.out.size))
 clear b3 B2 K K2 K3
 go_wp2_with fail
 refine (K4.out w3 B3.out).mono ?_
 rintro e w4 ⟨rfl,rfl⟩
 have r1:=R0.out.below (B3.out.drew)
 obtain ⟨ms5,r2,c2,htl5,hol5,hok5,hen5,ek5,eb5,hid5,hop5⟩:=Su r1 t htl1 l c hk1 o hol1 hok1 hents1 ol hop1
 have hkd:=(r1.hd t htl1).kind
 rw [hk1] at hkd
 have cc:=hkd.2.1
 have fc:=(r1.hd t htl1).free 2
 have hlt4:=Qd (r1.hd t htl1).sh
 have hcomm:w3.drew.setCell ⟨ms1[t].b,2,none⟩ (.int .i64 ((c:Int)+1))=(w3.setCell ⟨ms1[t].b,2,none⟩ (.int .i64 ((c:Int)+1))).drew:=rfl
 rw [hcomm] at r2 c2
 have R2:=hid r2
 have C2:=hid ((Chg.of_below (M:=λk _=>D k) B3.out.drew).trans c2)
 clear r1 r2 c2 hkd B3 K4 hcomm
 generalize htb:ms1[t].b=tb at*
 go_wp2_with fail
 generalize hW4:(w3.setCell ⟨tb,2,none⟩ (.int .i64 ((c:Int)+1))).drew=W4 at*
 refine (KT.out W4).mono ?_
 rintro e w5 ⟨rfl,b5⟩
 have R5:=hid (R2.out.below b5)
 have C5:=hid (C2.out.trans (Chg.of_below (M:=λk _=>D k) b5))
 clear b5 R2 C2 hW4 cc fc hlt4
 generalize hst5:st1.setK t (.thr l (c+1))=st5 at*
 have hth5:=(R5.out.hd t htl5).kind
 rw [ek5] at hth5
 have KH:=hid (zhp hth5.1 hth5.2.2 (Vg s) hzt)
 rw [eb5] at KH
 clear KH hth5
 go_wp2_with fail
 have r5:=R5.out.below (w':=w5.drew) (Qi _ _)
 obtain ⟨g,cp,hov,q1⟩:=zau r5 ol o hop5 hol5
 subst hov
 have c35:=r5.c3
 obtain ⟨hm1,hm2⟩:=zmc hok5 ms5[o].b
 have hv5:enV (Qu ms5) (.sub st.hs.length)= .iface (hkT (.st s)) (ptr b):=by rw [hid5];exact hj
 have K6:=hid (zma r5 (λk hk=>HDw.out k ycx) o hol5 (.sub st.hs.length) _ _ hv5 hen5)
 rw [<-r5.addE_eq o hol5 (.sub st.hs.length)] at K6
 have hid6: ∀rv,Qu (ms5.set o {ms5[o] with rv:=rv,h:=⟨ms5[o].h.k,ms5[o].h.ents++[.sub st.hs.length]⟩})=Qu ms5:=λrv=>zaq ms5 o hol5 _ rfl rfl
 have hop6:(st5.addE o (.sub st.hs.length)).opn=ol++[o]:=by rw [<-hop5];unfold RS.addE;split<;>rfl
 have C6:=hid (C5.out.drew)
 have hl1:ol.length+1+1<=maxLen:=yap
 have hl2:(ol.length+1+1)*16<=140737488355328:=yai
 clear r5 R5 C5
 generalize hTo:hkT ms5[o].h.k=To at*
 generalize hob:ms5[o].b=ob at*
 generalize hTs:hkT (.st s)=Ts at*
 go_region_law (go_simp;go_at_call 208;refine K6.out.mono ?_;rintro e w7 ⟨rfl,⟨lab7,rv7,r7⟩,c7⟩;have R7:=hid r7;have C7:=hid (C6.out.trans c7);clear r7 c7)
 all_goals
  have horow:=R7.out.orow
  have hpush:=λoo w9 g9 cp9=>R7.out.push (λk hk=>HDw.out k (by have:=C7.out.size;omega)) st.hs.length oo (w3:=w9) (g:=g9) (cp:=cp9)
  simp only [hop6,hid6,List.length_append,List.length_cons,List.length_nil] at horow hpush
  have hvj:idV (Qu ms5) st.hs.length= .iface Ts (ptr b):=hv5
  rw [hvj] at hpush
  have c37:=R7.out.c3
  have nr: ¬(Value.slice (some ⟨g,0,none⟩) (ol.length+1) cp).ownBlock=some br:=λe=>zd3 (R7.out.lov _ e).1 R7.out.lbr.1 yaj rfl
  have lb7:=Qd R7.out.sh
  have HO7:=hid horow
  have HP7:=hid hpush
  have HCB:Hid (∀w9 oo,Chg (λk _=>(Value.slice (some ⟨g,0,none⟩) (ol.length+1) cp).ownBlock=some k) (w7.alloc oo) w9->w9.cell? ⟨br,3,none⟩=some (.slice (some ⟨g,0,none⟩) (ol.length+1) cp)/\w9.frozen? ⟨br,3,none⟩=false):=hid (λw9 oo hch=>⟨(hch.cell _ _ yan nr).trans ((World.cell?_alloc_past _ _ _ lb7).trans c37),(hch.frozen _ _ yan).trans ((World.frozen?_alloc_past _ _ _ lb7).trans (R7.out.free 3))⟩)
  clear horow hpush hvj nr R7
  go_wp2_with (at_builtin;refine Zk rfl _ _ 98 rfl 222 oi0 .nilIface 16 Tryz.underlying98 ohi ohz0 ohz1 ohz2 rfl (.slice (some ⟨g,0,none⟩) (ol.length+1) cp) (ol.length+1) _ rfl (HO7.out.alloc _) ⟨w7.heap.size,0,none⟩ (.iface Ts (ptr b)) rfl (cell_one_new _ _ _) rfl hl1 hl2 ?_;go_must (intro g9 cp9 w9 hown1 hch hg;have hcb:=(HCB.out w9 _ hch).1;have hfb:=(HCB.out w9 _ hch).2;have HO1:=hid hown1;have HC1:=hid hch;have HG1:=hid hg;clear hown1 hch hg))
  go_end0
  obtain ⟨lab9,r9,c9⟩:=HP7.out _ w9 g9 cp9 HO1.out HC1.out HG1.out
  subst hst5
  exact ⟨rfl,⟨lab9,_,_,by simpa using r9⟩,C7.out.trans c9⟩
end
def PLR(D:Nat->Prop)(br sb bs bl:Nat)(n:Int)(w:World)(r:Except Int RS)(e:Ending)(w':World):Prop:=match r with
 | .ok st'=>e= .returned (.tuple #[])/\(∃lab' tv' ov' ms',RMach D lab' w' br sb bs tv' ov' st' ms')/\Chg (λk _=>D k) w w'
 | .error er=>Fails er n bl w e w'
theorem Fr(s:St):(Qj s).length<=2:=by
 rcases s with ⟨to,a⟩|⟨to,k,a,c⟩|⟨to,f,a⟩|⟨f,a,c⟩|a|⟨⟩|a|n<;>simp [Qj]
theorem z0p{w0 w:World}{s:St}{v:Value}(h:z40 w0 w s v): ∃b,v=Vk s b/\StB w s b/\(Qf s=true->zar w s b/\w0.heap.size<=b):=by
 rcases s with ⟨to,a⟩|⟨to,k,a,c⟩|⟨to,f,a⟩|⟨f,a,c⟩|a|⟨⟩|a|n
 ·exact z9c
 ·exact z9c
 ·exact z9c
 ·exact z9c
 ·exact z9c
 ·obtain ⟨b,h1,h2,h3,h4,h5⟩:=h
  exact ⟨b,h2,trivial,λ_=>⟨⟨h3,h4,trivial,h5⟩,h1⟩⟩
 ·obtain ⟨b,h1,h2,h3,h4,h5,h6,h7⟩:=h
  exact ⟨b,h2,⟨h6,h7⟩,λ_=>⟨⟨h3,h4,⟨h6,h7⟩,h5⟩,h1⟩⟩
 ·obtain ⟨b,h1,h2,h3,h4,h5,h6⟩:=h
  exact ⟨b,h2,trivial,λ_=>⟨⟨h3,h4,h6,h5⟩,h1⟩⟩
theorem zr1(h:Vo u=true):u.size<=maxLen:=by
 unfold Vo at h
 simp only [Bool.and_eq_true,decide_eq_true_eq] at h
 have:=h.2.1
 unfold maxLen
 omega
theorem Ei:ByteArray.empty.size<=maxLen:=Nat.zero_le _
section
variable{ws ws1:List ByteArray}{x:ByteArray}{y:PV}{s:St}
theorem Ot(h:gNm ws=some (x,ws1)):x.size<=maxLen:=by
 cases ws with
 |nil=>simp [gNm] at h
 |cons u us=>
  simp only [gNm] at h
  split at h
  ·rename_i hu
   simp at h
   rw [<-h.1];exact zr1 hu
  ·simp at h
theorem Ej(h:gPV ws=some (y,ws1)):y.name.size<=maxLen:=by
 cases ws with
 |nil=>simp [gPV] at h
 |cons u us=>
  simp only [gPV] at h
  split at h
  ·rename_i hu
   simp at h
   rw [<-h.1];exact zr1 hu
  ·cases hn:Qk u with
   |none=>simp [hn] at h
   |some v=>
    simp [hn] at h
    rw [<-h.1];exact Ei
theorem zmo(h:gAt ws=some (y,ws1)):y.name.size<=maxLen:=by
 cases ws with
 |nil=>
  simp [gAt] at h
  rw [<-h.1];exact Ei
 |cons u us=>
  simp only [gAt] at h
  split at h
  ·exact Ej h
  ·simp at h
theorem zd5(h:Zs u ws=some (s,ws1)):zl9 s:=by
 unfold Zs at h
 split at h
 ·unfold zn4 at h
  cases h1:gNm ws with
  |none=>simp [h1] at h
  |some p=>
   obtain ⟨x,ws2⟩:=p
   rw [h1] at h
   simp only [Option.bind_some] at h
   cases h2:gPV ws2 with
   |none=>simp [h2] at h
   |some q=>
    obtain ⟨y,ws3⟩:=q
    rw [h2] at h
    simp only [Option.bind_some] at h
    rcases ws3 with _|⟨u3,ws3⟩
    ·simp at h
     obtain ⟨rfl,_⟩:=h
     exact ⟨λv hv=>by simp [Qj] at hv;subst hv;exact Ej h2,Ot h1,λf hf=>by simp [Xg] at hf⟩
    ·simp only at h
     cases h3:gOp (u3::ws3) with
     |none=>simp [h3] at h
     |some o=>
      rw [h3] at h
      simp only [Option.bind_some] at h
      cases h4:gPV o.2 with
      |none=>simp [h4] at h
      |some r=>
       rw [h4] at h
       simp at h
       obtain ⟨rfl,_⟩:=h
       exact ⟨λv hv=>by
        simp [Qj] at hv
        rcases hv with rfl|rfl
        ·exact Ej h2
        ·exact Ej (y:=r.1) (ws1:=r.2) h4,Ot h1,λf hf=>by simp [Xg] at hf⟩
 ·split at h
  ·unfold zvd at h
   cases h1:gNm ws with
   |none=>simp [h1] at h
   |some p=>
    rw [h1] at h
    simp only [Option.bind_some] at h
    cases h2:gNm p.2 with
    |none=>simp [h2] at h
    |some q=>
     rw [h2] at h
     simp only [Option.bind_some] at h
     cases h3:gAt q.2 with
     |none=>simp [h3] at h
     |some r=>
      rw [h3] at h
      simp at h
      obtain ⟨rfl,_⟩:=h
      exact ⟨λv hv=>by simp [Qj] at hv;subst hv;exact zmo (y:=r.1) (ws1:=r.2) h3,Ot (x:=p.1) (ws1:=p.2) h1,λf hf=>by simp [Xg] at hf;subst hf;exact Ot (x:=q.1) (ws1:=q.2) h2⟩
  ·split at h
   ·unfold zve at h
    cases h1:gNm ws with
    |none=>simp [h1] at h
    |some p=>
     rw [h1] at h
     simp only [Option.bind_some] at h
     cases h2:gPV p.2 with
     |none=>simp [h2] at h
     |some q=>
      rw [h2] at h
      simp only [Option.bind_some] at h
      cases h3:gAt q.2 with
      |none=>simp [h3] at h
      |some r=>
       rw [h3] at h
       simp at h
       obtain ⟨rfl,_⟩:=h
       exact ⟨λv hv=>by
        simp [Qj] at hv
        rcases hv with rfl|rfl
        ·exact zmo (y:=r.1) (ws1:=r.2) h3
        ·exact Ej (y:=q.1) (ws1:=q.2) h2,Ei,λf hf=>by simp [Xg] at hf;subst hf;exact Ot (x:=p.1) (ws1:=p.2) h1⟩
   ·split at h
    ·exact z8n
    ·split at h
     ·simp at h
      obtain ⟨rfl,_⟩:=h
      exact ⟨λv hv=>by simp [Qj] at hv,Ei,λf hf=>by simp [Xg] at hf⟩
     ·split at h
      ·exact z8n
      ·split at h
       ·cases h1:gIn 1 4 ws with
        |none=>simp [h1] at h
        |some p=>
         rw [h1] at h
         simp at h
         obtain ⟨rfl,_⟩:=h
         exact ⟨λv hv=>by simp [Qj] at hv,Ei,λf hf=>by simp [Xg] at hf⟩
       ·simp at h
end
section
variable{D D0:Nat->Prop}{lab:Nat->Nat×Nat}{w:World}{br sb bs bl bw:Nat}{n:Int}{ws:List ByteArray}{tv ov:Value}{st:RS}{ms:List HM}{k:Nat}
theorem Ok.lays(h:RMach D lab w br sb bs tv ov st ms)(hok:st.Ok k)(hk:k<900000)(hl:st.lastT=some (t,l,c))(ho:st.opn=ol++[o]): ∃tl,Lays st ms tl ol t o l c:=by
 obtain ⟨tl,htl,hkt⟩:=Us hl
 obtain ⟨l0,c0,q1,q2,q3⟩:=hok.thr t ybn
 obtain ⟨rfl,rfl⟩:l=l0/\c=c0:=by
  have:=hkt.symm.trans q1
  simpa using this
 have htlt:t<ms.length:=by rw [h.len];exact hok.ent.2.1 t ybn
 have holt:o<ms.length:=by rw [h.len];exact hok.ent.2.2 o yas
 have hn:=hok.tn
 rw [htl] at hn
 simp at hn
 refine ⟨tl,hok.opn,hok.ent,htl,htlt,by omega,?_,ho,holt,q2,q3,λx hx=>?_⟩
 ·obtain ⟨x,hx,hxk⟩:=Yy hkt
  rw [h.hsAt t htlt] at hx
  have:ms[t].h=x:=by simpa using hx
  rw [this];exact hxk
 ·obtain ⟨j,hj⟩:=List.mem_iff_getElem?.1 hx
  have:=hok.e14 j x hj
  omega
theorem zwo(h:RMach D0 lab w br sb bs tv ov st ms)(h0: ∀k,D0 k->D k)(hD: ∀k,w.heap.size<=k->D k)(hok:st.Ok k)(hk:k<900000)(hL:LineAt w bl n bw ws)(s:St)(b:Nat)(hS:StB w s b)(hz:zl9 s)(hB:Qf s=true->zar w s b/\D b/\ ¬D0 b):
  Cl 59 #[ptr br,ptr bl,Vk s b] w λe w'=>PLR D br sb bs bl n w (gSt st s) e w':=by
 unfold gSt
 cases hm:st.mayStand s with
 |false=>exact zoi h hL hok.opn s b hm
 |true=>
  simp only [Bool.true_eq_false,if_false]
  have hop:st.opn≠[]:=by
   intro e
   have:(decide (0<st.opn.length))=false:=by rw [e];rfl
   rcases s with ⟨to,a⟩|⟨to,k,a,c⟩|⟨to,f,a⟩|⟨f,a,c⟩|a|⟨⟩|a|n<;>simp [RS.mayStand,e] at hm
  obtain ⟨t,l,c,tl,hl,htl,_,_,_⟩:=zwd hok (hok.ne hop)
  obtain ⟨ol,o,ho⟩: ∃ol o,st.opn=ol++[o]:=⟨_,_,(List.dropLast_concat_getLast hop).symm⟩
  obtain ⟨tl',hy⟩:=Ok.lays h hok hk hl ho
  have hgo:st.opn.getLast?=some o:=yas
  rw [hl,hgo]
  simp only
  cases hn:st.mayName l s with
  |false=>exact zrn h hL hy s b hS hz (Fr s) hm hn
  |true=>
   simp only [Bool.true_eq_false,if_false]
   cases hr:st.hasRoom l c s with
   |false=>exact zro h hL hy s b hS hz (Fr s) hm hn hr
   |true=>
    simp only [Bool.true_eq_false,if_false]
    unfold RS.lay
    cases hh:Qf s with
    |true=>
     obtain ⟨hb1,hb2,hb3⟩:=hB hh
     rw [if_pos rfl]
     refine (zr0 h h0 hD hy s b hS hz (Fr s) hm hn hr hb1 hb2 hb3 hh).mono ?_
     rintro e w' ⟨e1,⟨lab',ov',ms',r⟩,c'⟩
     exact ⟨e1,⟨lab',tv,ov',ms',r⟩,c'⟩
    |false=>
     rw [if_neg yaj]
     by_cases hq:(Vg s).toList.isEmpty=false/\Uh l (Vg s)=false
     ·rw [if_pos hq]
      refine (zwn h h0 hD hy s b hS hz (Fr s) hm hn hr hh hq.1 hq.2).mono ?_
      rintro e w' ⟨e1,⟨lab',ov',ms',r⟩,c'⟩
      exact ⟨e1,⟨lab',tv,ov',ms',r⟩,c'⟩
     ·rw [if_neg hq]
      have hno:(Vg s).toList.isEmpty=true\/((Vg s).toList.isEmpty=false/\Uh l (Vg s)=true):=by
       cases h1:(Vg s).toList.isEmpty with
       |true=>exact .inl rfl
       |false=>
        right
        refine ⟨rfl,?_⟩
        cases h2:Uh l (Vg s) with
        |true=>rfl
        |false=>exact absurd ⟨h1,h2⟩ hq
      refine (zwm h h0 hD hy s b hS hz (Fr s) hm hn hr hh hno).mono ?_
      rintro e w' ⟨e1,⟨lab',ov',ms',r⟩,c'⟩
      exact ⟨e1,⟨lab',tv,ov',ms',r⟩,c'⟩
theorem zon(h:RMach D0 lab w br sb bs tv ov st ms)(h0: ∀k,D0 k->D k)(hD: ∀k,w.heap.size<=k->D k)(hD0: ∀k,D0 k->k<w.heap.size)(hok:st.Ok k)(hk:k<900000)(hL:LineAt w bl n bw ws):
  Cl 55 #[ptr br,ptr bl] w λe w'=>PLR D br sb bs bl n w (Ef st ws) e w':=by
 unfold Ef
 rcases ws with _|⟨u,us⟩
 ·simp only
  by_cases h1:1<st.opn.length
  ·rw [if_pos h1]
   exact zgm h hL h1
  ·rw [if_neg h1]
   exact zof h hok.ent h0 hD hD0 hL yai (by have:=hok.tn;omega)
 ·exact zhy hL
theorem z0q(h:RMach D0 lab w br sb bs tv ov st ms)(h0: ∀k,D0 k->D k)(hok:st.Ok k)(hL:LineAt w bl n bw ws):
  Cl 56 #[ptr br,ptr bl] w λe w'=>PLR D br sb bs bl n w (zwb st ws) e w':=by
 unfold zwb
 rcases ws with _|⟨u,us⟩
 ·simp only
  by_cases h1:st.opn.length<2
  ·rw [if_pos h1]
   exact zoe h hL h1
  ·rw [if_neg h1]
   have hne:st.opn≠[]:=λe=>by rw [e] at h1;simp at h1
   have e:=(List.dropLast_concat_getLast hne).symm
   have hl:st.opn.dropLast.length+1=st.opn.length:=by rw [List.length_dropLast];omega
   refine (z0e (h.newD (D':=D) (λk hk _=>h0 k hk)) hL st.opn.dropLast (st.opn.getLast hne) e yai (by have:=hok.opn.1;omega)).mono ?_
   rintro e w' ⟨e1,⟨lab',ov',ms',r⟩,c'⟩
   exact ⟨e1,⟨lab',tv,ov',ms',r⟩,c'⟩
 ·exact zrl hL
theorem zoo(h:RMach D0 lab w br sb bs tv ov st ms)(h0: ∀k,D0 k->D k)(hDl:D bl)(hn: ¬D0 bl)(hok:st.Ok k)(hk:k<900000)(hE:Hid (Env w))(hbl:10<=bl)(hz:SzOk ws)(hL:LineAt w bl n bw ws):
  Cl 54 #[ptr br,ptr bl] w λe w'=>PLR D br sb bs bl n w (Iq st ws) e w':=by
 have hsn:=hok.sn
 have hcn:=hok.cn
 unfold Iq
 cases g1:gNm ws with
 |none=>exact z3b hL hz g1
 |some p=>
  obtain ⟨x,us⟩:=p
  have hx:=Ot g1
  rcases us with _|⟨u,us⟩
  ·simp only
   by_cases h1:0<st.threads.length
   ·rw [if_pos h1]
    exact zj8 h hn hL hz g1 h1
   ·rw [if_neg h1]
    cases h2:st.isSh x with
    |true=>exact zog h hn hL hz g1 yai hx h2
    |false=>
     simp only [Bool.false_eq_true,if_false]
     refine (zv5 h hn hL hz g1 yai hx h2 h0 hDl yai yai).mono ?_
     rintro e w' ⟨e1,r,c'⟩
     exact ⟨e1,⟨_,_,_,_,r⟩,c'⟩
  ·simp only
   cases g2:gIn 1 6 (u::us) with
   |none=>exact z3c hL hz hE hbl g1 g2
   |some q=>
    obtain ⟨v,us2⟩:=q
    rcases us2 with _|⟨u2,us2⟩
    ·simp only
     by_cases h1:0<st.threads.length
     ·rw [if_pos h1]
      exact zj9 h hn hL hz hE hbl g1 g2 h1
     ·rw [if_neg h1]
      cases h2:st.isSh x with
      |true=>exact zoh h hn hL hz hE hbl g1 g2 yai hx h2
      |false=>
       simp only [Bool.false_eq_true,if_false]
       refine (zv6 h hn hL hz hE hbl g1 g2 yai hx h2 h0 hDl yai yai (zme g2)).mono ?_
       rintro e w' ⟨e1,r,c'⟩
       exact ⟨e1,⟨_,_,_,_,r⟩,c'⟩
    ·exact zrm hL hz hE hbl g1 g2
end
end Go.Proofs.YtphcopbffecceaaGreatDoor
