import Derived.Test.YtphcopbffecceaaGreatDoorP11
set_option maxRecDepth 100000
set_option maxHeartbeats 4000000
namespace Go.Proofs.YtphcopbffecceaaGreatDoor
open Go.RowKit
variable{ol tl:List Nat}{c o t:Nat}{l:List ByteArray}
section
variable{M:Nat->Nat->Prop}{D D0:Nat->Prop}{lab lab':Nat->Nat×Nat}{w W:World}{br sb bs bl bw:Nat}{n:Int}{ws:List ByteArray}{tv ov:Value}{st:RS}{ms:List HM}
def zmb(w:World)(b mb:Nat):Prop:=w.shape? b=some (116,3)/\w.cell? ⟨b,0,none⟩=some (.slice none 0 0)/\HkAt w b mb (.thr [] 0)/\ ∀j,w.frozen? ⟨b,j,none⟩=false
theorem RMach.newT(h:RMach D0 lab w br sb bs tv ov st ms)(he:st.entOk)(h0: ∀k,D0 k->D k)(b mb:Nat)(hb:zmb w b mb)(hD:D b)(hDm:D mb)(hn: ¬D0 b)(hnm: ¬D0 mb)(hbm:b≠mb):
  ∃lab',RMach D lab' w br sb bs tv ov {st with hs:=st.hs++[⟨.thr [] 0,[]⟩]} (ms++[⟨b, .slice none 0 0,mb,⟨.thr [] 0,[]⟩⟩]):=by
 let lab':Nat->Nat×Nat:=λk=>if k=b then (ms.length+1,0) else if k=mb then (ms.length+1,2) else lab k
 have hold: ∀k,D0 k->lab' k=lab k:=λk hk=>by
  show (if k=b then _ else if k=mb then _ else _)=_
  rw [if_neg (show ¬k=b from λe=>hn (e▸hk)),if_neg (show ¬k=mb from λe=>hnm (e▸hk))]
 have il:(Qu ms).length=st.hs.length:=h.idl
 have ids:Qu (ms++[⟨b, .slice none 0 0,mb,⟨.thr [] 0,[]⟩⟩])=Qu ms++[(hkT (.thr [] 0),b)]:=by simp [Qu]
 refine ⟨lab',{
  sh:=h.sh,c0:=h.c0,c1:=h.c1,c2:=h.c2,c3:=h.c3,c4:=h.c4,free:=h.free,mS:=h.mS,mG:=h.mG
  trow:=?_,orow:=?_,hd:=?_,hs:=?_
  lbr:=⟨(hold _ h.lbr.2).trans h.lbr.1,h0 _ h.lbr.2⟩
  lsb:=⟨(hold _ h.lsb.2).trans h.lsb.1,h0 _ h.lsb.2⟩
  ltv:=λg hg=>⟨(hold _ (h.ltv g hg).2).trans (h.ltv g hg).1,h0 _ (h.ltv g hg).2⟩
  lov:=λg hg=>⟨(hold _ (h.lov g hg).2).trans (h.lov g hg).1,h0 _ (h.lov g hg).2⟩
  lbs:=⟨(hold _ h.lbs.2).trans h.lbs.1,h0 _ h.lbs.2⟩
  lhd:=?_}⟩
 ·rw [ids]
  have e:st.threads.map (idP (Qu ms++[(hkT (.thr [] 0),b)]))=st.threads.map (idP (Qu ms)):=List.map_congr_left λj hj=>zqv _ _ j (by rw [il];exact he.2.1 j hj)
  rw [e]
  exact h.trow
 ·rw [ids]
  have e:st.opn.map (idV (Qu ms++[(hkT (.thr [] 0),b)]))=st.opn.map (idV (Qu ms)):=List.map_congr_left λj hj=>zjy _ _ j (by rw [il];exact he.2.2 j hj)
  rw [e]
  exact h.orow
 ·intro i hi
  rw [ids]
  by_cases hi':i<ms.length
  ·rw [List.getElem_append_left hi']
   have hd:=h.hd i hi'
   have e:ms[i].h.ents.map (enV (Qu ms++[(hkT (.thr [] 0),b)]))=ms[i].h.ents.map (enV (Qu ms)):=List.map_congr_left λx hx=>zrk _ _ x (λj hj=>by
    rw [il]
    exact he.1 ms[i].h ydk j (hj▸hx))
   exact ⟨hd.sh,hd.rc,by rw [e];exact hd.row,hd.kind,hd.free⟩
  ·exact z8y
 ·simp [h.hs]
 ·intro i hi
  by_cases hi':i<ms.length
  ·exact z8b
  ·obtain rfl:i=ms.length:=by simp at hi;omega
   rw [List.getElem_append_right (Nat.le_refl _)]
   simp only [Nat.sub_self,List.getElem_cons_zero]
   refine ⟨⟨if_pos rfl,hD⟩,λg hg=>by simp [Value.ownBlock] at hg,λ_=>⟨?_,hDm⟩⟩
   show (if mb=b then _ else if mb=mb then _ else _)=_
   rw [if_neg (λe=>hbm e.symm),if_pos rfl]
theorem RMach.pushT(h:RMach D lab w br sb bs tv ov st ms)(hD: ∀k,w.heap.size<=k->D k)(x:Nat)(o:Obj){w3:World}{g cp:Nat}
  (ho:w3.ownsRow 0 109 1 (.slice (some ⟨g,0,none⟩) (st.threads.length+1) cp) (st.threads.length+1) (st.threads.map (idP (Qu ms))++[idP (Qu ms) x]))
  (hc:Chg (λk _=>tv.ownBlock=some k) (w.alloc o) w3) (hg:tv.ownBlock=some g\/g=(w.alloc o).heap.size):
  ∃lab',RMach D lab' (w3.setCell ⟨br,1,none⟩ (.slice (some ⟨g,0,none⟩) (st.threads.length+1) cp)) br sb bs (.slice (some ⟨g,0,none⟩) (st.threads.length+1) cp) ov {st with threads:=st.threads++[x]} ms/\Chg (λk _=>D k) w (w3.setCell ⟨br,1,none⟩ (.slice (some ⟨g,0,none⟩) (st.threads.length+1) cp)):=by
 have lb:=Qd h.sh
 have hsz:(w.alloc o).heap.size=w.heap.size+1:=yaj
 have hc0:Chg (λk _=>tv.ownBlock=some k) w w3:=((Chg.refl _ w).alloc o).trans hc
 have hset:Chg (λk j=>k=br/\j=1) w3 (w3.setCell ⟨br,1,none⟩ (.slice (some ⟨g,0,none⟩) (st.threads.length+1) cp)):=(Chg.refl _ w3).setCell (λ_=>⟨rfl,rfl⟩) _
 have hall:Chg (λk j=>tv.ownBlock=some k\/(k=br/\j=1)) w (w3.setCell ⟨br,1,none⟩ (.slice (some ⟨g,0,none⟩) (st.threads.length+1) cp)):=(hc0.mono (λ_ _ _ e=> .inl e)).trans (hset.mono (λ_ _ _ e=> .inr e))
 have nr: ¬tv.ownBlock=some br:=λe=>zd3 (h.ltv _ e).1 h.lbr.1 yaj rfl
 have hgb:g≠br:=z95
 let lab':Nat->Nat×Nat:=λk=>if k=g then (0,2) else lab k
 have hold: ∀k,k<w.heap.size->lab' k=lab k:=by
  intro k hk
  show (if k=g then _ else _)=_
  by_cases e:k=g
  ·rw [if_pos e]
   rcases hg with hg|hg
   ·rw [e];exact ((h.ltv g hg).1).symm
   ·omega
  ·rw [if_neg e]
 have nb: ∀j,j≠1->¬(tv.ownBlock=some br\/(br=br/\j=1)):=λj hj e=>e.elim nr (λe=>hj e.2)
 have nk: ∀k l,lab k=l->l≠(0,2)->l≠(0,0)->∀j,¬(tv.ownBlock=some k\/(k=br/\j=1)):=λk l hk h1 h2 j e=>by
  rcases e with e|e
  ·exact h1 (hk.symm.trans (h.ltv k e).1)
  ·exact h2 (hk.symm.trans (e.1▸h.lbr.1))
 refine ⟨lab',h.updB (st':={st with threads:=st.threads++[x]}) rfl hall ?_ hold (Qg ((hc0.cell _ _ lb nr).trans h.c1) rfl) ((hall.cell _ _ lb (nb 2 yai)).trans h.c2) ((hall.cell _ _ lb (nb 3 yai)).trans h.c3) (h.mS.keep hall (nk _ _ h.lsb.1 yaj yaj)) ?_ (Qc h.orow hall (λq hq=>nk _ _ (h.lov q hq).1 yaj yaj)) ?_ (λq hq=>⟨(hold _ (h.orow.lt q hq).2).trans (h.lov q hq).1,(h.lov q hq).2⟩),hall.mono ?_⟩
 ·rintro k j _ (e|⟨rfl,rfl⟩)
  ·exact .inr (.inl (h.ltv k e).1)
  ·exact .inr (.inr (.inr ⟨rfl, .inl rfl⟩))
 ·exact z77
 ·intro q hq
  simp [Value.ownBlock] at hq
  subst hq
  refine ⟨if_pos rfl,?_⟩
  rcases hg with e|e
  ·exact (h.ltv _ e).2
  ·exact hD _ yai
 ·rintro k j _ (e|⟨rfl,_⟩)
  ·exact (h.ltv k e).2
  ·exact h.lbr.2
theorem z0f(w:World)(v:Value)(T:TypeId):(w.alloc (.cells #[v] T)).ownsRow 0 T 1 (.slice (some ⟨w.heap.size,0,none⟩) 1 1) 1 [v]:=
 ⟨rfl, .inr ⟨_,1,#[v],rfl,Nat.zero_le _,(show (w.heap.push _)[w.heap.size]?=_ from Array.getElem?_push_size),Nat.le_refl _,by unfold maxLen;omega,rfl,rfl⟩⟩
theorem RMach.setO(h:RMach D lab w br sb bs tv ov st ms)(hD: ∀k,w.heap.size<=k->D k)(x:Nat)(v:Value)(hv:idV (Qu ms) x=v):
  ∃lab',RMach D lab' ((w.alloc (.cells #[v] 222)).setCell ⟨br,3,none⟩ (.slice (some ⟨w.heap.size,0,none⟩) 1 1)) br sb bs tv (.slice (some ⟨w.heap.size,0,none⟩) 1 1) {st with opn:=[x]} ms/\Chg (λk _=>D k) w ((w.alloc (.cells #[v] 222)).setCell ⟨br,3,none⟩ (.slice (some ⟨w.heap.size,0,none⟩) 1 1)):=by
 have lb:=Qd h.sh
 have hall:Chg (λk j=>k=br/\j=3) w ((w.alloc (.cells #[v] 222)).setCell ⟨br,3,none⟩ (.slice (some ⟨w.heap.size,0,none⟩) 1 1)):=((Chg.refl (λk j=>k=br/\j=3) w).alloc _).setCell (λ_=>⟨rfl,rfl⟩) _
 have hset:Chg (λk j=>k=br/\j=3) (w.alloc (.cells #[v] 222)) ((w.alloc (.cells #[v] 222)).setCell ⟨br,3,none⟩ (.slice (some ⟨w.heap.size,0,none⟩) 1 1)):=(Chg.refl _ _).setCell (λ_=>⟨rfl,rfl⟩) _
 let lab':Nat->Nat×Nat:=λk=>if k=w.heap.size then (0,3) else lab k
 have hold: ∀k,k<w.heap.size->lab' k=lab k:=λk hk=>if_neg yai
 have nk: ∀k l,lab k=l->l≠(0,0)->∀j,¬(k=br/\j=3):=λk l hk h2 j e=>h2 (hk.symm.trans (e.1▸h.lbr.1))
 refine ⟨lab',h.updB (st':={st with opn:=[x]}) rfl hall ?_ hold ((hall.cell _ _ lb yai).trans h.c1) ((hall.cell _ _ lb yai).trans h.c2) (Qg ((World.cell?_alloc_past _ _ _ lb).trans h.c3) rfl) (h.mS.keep hall (nk _ _ h.lsb.1 yaj)) (Qc h.trow hall (λq hq=>nk _ _ (h.ltv q hq).1 yaj)) ?_ (λq hq=>⟨(hold _ (h.trow.lt q hq).2).trans (h.ltv q hq).1,(h.ltv q hq).2⟩) ?_,hall.mono (λk j _ e=>e.1▸h.lbr.2)⟩
 ·rintro k j _ ⟨rfl,rfl⟩
  exact .inr (.inr (.inr ⟨rfl, .inr (.inr rfl)⟩))
 ·have:=Qc (z0f w v 222) hset (λk hk j e=>by simp [Value.ownBlock] at hk;omega)
  simpa [hv] using this
 ·intro q hq
  simp [Value.ownBlock] at hq
  subst hq
  exact ⟨if_pos rfl,hD _ (Nat.le_refl _)⟩
end
section
variable{D D0:Nat->Prop}{lab:Nat->Nat×Nat}{w W:World}{br sb bs bl bw:Nat}{n:Int}{ws:List ByteArray}{tv ov:Value}{st:RS}{ms:List HM}
def RS.newT(st:RS):RS:={st with hs:=st.hs++[⟨.thr [] 0,[]⟩],threads:=st.threads++[st.hs.length],opn:=[st.hs.length]}
abbrev Uz(w:World):World:=(w.alloc (.map #[] 0)).alloc (.cells #[.slice none 0 0, .map (some w.heap.size), .int .i64 0] 116)
theorem zj7(w:World):zmb (Uz w) (w.heap.size+1) w.heap.size:=by
 have hb:(Uz w).heap[w.heap.size+1]?=some (.cells #[.slice none 0 0, .map (some w.heap.size), .int .i64 0] 116):=by
  have:(Uz w).heap[(w.alloc (.map #[] 0)).heap.size]?=some (.cells #[.slice none 0 0, .map (some w.heap.size), .int .i64 0] 116):=Array.getElem?_push_size
  rw [show (w.alloc (.map #[] 0)).heap.size=w.heap.size+1 from by simp] at this
  exact this
 refine ⟨?_,?_,⟨?_,?_,?_⟩,?_⟩
 ·unfold World.shape?;rw [hb];rfl
 ·unfold World.cell?;rw [hb];rfl
 ·unfold World.cell?;rw [hb];rfl
 ·unfold World.cell?;rw [hb];rfl
 ·exact (zbr w).keep (M:=λ_ _=>False) ((Chg.refl _ _).alloc _) (λ_ e=>e)
 ·intro j
  unfold World.frozen?
  rw [hb]
  simp
theorem zhx(h:RMach D0 lab w br sb bs tv ov st ms)(he:st.entOk)(h0: ∀k,D0 k->D k)(hD: ∀k,w.heap.size<=k->D k)(hlt: ∀k,D0 k->k<w.heap.size):
  ∃lab1 ms1,RMach D lab1 (Uz w) br sb bs tv ov {st with hs:=st.hs++[⟨.thr [] 0,[]⟩]} ms1/\idP (Qu ms1) st.hs.length=ptr (w.heap.size+1)/\idV (Qu ms1) st.hs.length= .iface 109 (ptr (w.heap.size+1))/\Chg (λk _=>D k) w (Uz w):=by
 have hc:Chg (λ_ _=>False) w (Uz w):=((Chg.refl _ w).alloc _).alloc _
 have r0:=h.keep hc (λ_ _ _ e=>e)
 obtain ⟨lab1,r1⟩:=r0.newT (D:=D) he h0 (w.heap.size+1) w.heap.size (zj7 w) (hD _ yai) (hD _ yai) (λe=>by have:=hlt _ e;omega) (λe=>by have:=hlt _ e;omega) yai
 refine ⟨lab1,_,r1,?_,?_,hc.mono (λ_ _ _ e=>e.elim)⟩
 ·rw [<-h.len]
  simp [idP,Qu]
 ·rw [<-h.len]
  simp [idV,Qu,hkT]
theorem zhy{u:ByteArray}{us:List ByteArray}(hL:LineAt w bl n bw (u::us)):Cl 55 #[ptr br,ptr bl] w λe w'=>Fails 2 n bl w e w':=by
 have H:=hid hL
 clear hL
 go_enter Tryz.func55,Tryz.ntmps55
 go_wp2_with fail
 refine (zc0 H.out).mono ?_
 rintro e w1 ⟨bf,rfl,h1⟩
 exact ⟨rfl,bf,rfl,h1⟩
theorem RMach.openS(h:RMach D lab w br sb bs tv ov st ms): ∃a k,ov= .slice a st.opn.length k:=z7v
theorem RMach.threadS(h:RMach D lab w br sb bs tv ov st ms): ∃a k,tv= .slice a st.threads.length k:=z8l
theorem zgm(h:RMach D lab w br sb bs tv ov st ms)(hL:LineAt w bl n bw [])(hlt:1<st.opn.length):Cl 55 #[ptr br,ptr bl] w λe w'=>Fails 3 n bl w e w':=by
 have c3:=h.c3
 obtain ⟨oa,ok,hov⟩:=h.openS
 rw [hov] at c3
 have hlt':1<(st.opn.length:Int):=yai
 have H:=hid hL
 clear hL h hov
 go_enter Tryz.func55,Tryz.ntmps55
 go_wp2_with fail
 refine (Eo H.out).mono ?_
 rintro e w1 ⟨rfl,rfl⟩
 go_wp2_with fail
 refine (Jv H.out 3).mono ?_
 rintro e w1 ⟨bf,rfl,h1⟩
 exact ⟨rfl,bf,rfl,h1⟩
theorem zof(h:RMach D0 lab w br sb bs tv ov st ms)(he:st.entOk)(h0: ∀k,D0 k->D k)(hD: ∀k,w.heap.size<=k->D k)(hD0: ∀k,D0 k->k<w.heap.size)(hL:LineAt w bl n bw [])(hle:st.opn.length<=1)(ht:st.threads.length<1000000):
  Cl 55 #[ptr br,ptr bl] w λe w'=>e= .returned (.tuple #[])/\(∃lab' tv' ov' ms',RMach D lab' w' br sb bs tv' ov' st.newT ms')/\Chg (λk _=>D k) w w':=by
 obtain ⟨lab1,ms1,r1,hp,hv,c1⟩:=zhx h he h0 hD hD0
 have cc3:=h.c3
 obtain ⟨oa,ok,hov⟩:=h.openS
 obtain ⟨ta,tk,htv⟩:=h.threadS
 subst htv
 have hle': ¬1<(st.opn.length:Int):=yai
 have H:=hid hL
 have cT:=r1.c1
 have fT:=r1.free 1
 have hl1:st.threads.length+1<=maxLen:=yap
 have hl2:(st.threads.length+1)*8<=140737488355328:=yai
 obtain ⟨oi0,ohi,ohz0,ohz1,ohz2⟩:=info_parts zv3
 have hrow:=r1.trow
 have hpush:=λoo w9 g9 cp9=>r1.pushT (λk hk=>hD k (by have:=c1.size;omega)) st.hs.length oo (w3:=w9) (g:=g9) (cp:=cp9)
 simp only at hrow hpush
 rw [hp] at hpush
 have nr: ¬(Value.slice ta st.threads.length tk).ownBlock=some br:=λe=>zd3 (r1.ltv _ e).1 r1.lbr.1 yaj rfl
 have lb:=Qd r1.sh
 have cO:=r1.c3
 have HO:=hid hrow
 have HP:=hid hpush
 have HCB:Hid (∀w9 oo,Chg (λk _=>(Value.slice ta st.threads.length tk).ownBlock=some k) ((Uz w).alloc oo) w9->w9.cell? ⟨br,1,none⟩=some (.slice ta st.threads.length tk)/\w9.frozen? ⟨br,1,none⟩=false/\(∀V o,((w9.setCell ⟨br,1,none⟩ V).alloc o).cell? ⟨br,3,none⟩=some ov)/\ ∀V o,((w9.setCell ⟨br,1,none⟩ V).alloc o).frozen? ⟨br,3,none⟩=false):=by
  refine hid (λw9 oo hch=>?_)
  have lb':br<((Uz w).alloc oo).heap.size:=by simp at lb⊢;omega
  have lb9:br<w9.heap.size:=Nat.lt_of_lt_of_le lb' hch.size
  refine ⟨(hch.cell _ _ lb' nr).trans ((World.cell?_alloc_past _ _ _ lb).trans cT),(hch.frozen _ _ lb').trans ((World.frozen?_alloc_past _ _ _ lb).trans fT),λV o=>?_,λV o=>?_⟩
  ·have hs:Chg (λk j=>k=br/\j=1) w9 ((w9.setCell ⟨br,1,none⟩ V).alloc o):=((Chg.refl _ w9).setCell (λ_=>⟨rfl,rfl⟩) V).alloc o
   exact (hs.cell _ _ lb9 yai).trans ((hch.cell _ _ lb' nr).trans ((World.cell?_alloc_past _ _ _ lb).trans cO))
  ·have hs:Chg (λk j=>k=br/\j=1) w9 ((w9.setCell ⟨br,1,none⟩ V).alloc o):=((Chg.refl _ w9).setCell (λ_=>⟨rfl,rfl⟩) V).alloc o
   exact (hs.frozen _ _ lb9).trans ((hch.frozen _ _ lb').trans ((World.frozen?_alloc_past _ _ _ lb).trans (r1.free 3)))
 have C1:=hid c1
 have HD:=hid hD
 have HV:=hid hv
 have HC3:=hid cc3
 have HCT:=hid cT
 clear h hL he h0 hD hD0 r1 c1 hrow hpush nr lb cO hp hv cc3 cT fT
 have cc3:=HC3.out
 rw [hov] at cc3
 clear hov
 go_enter Tryz.func55,Tryz.ntmps55
 go_wp2_with fail
 refine (Eo H.out).mono ?_
 rintro e w1 ⟨rfl,rfl⟩
 have cT:=HCT.out
 have hone:=cell_one_new (Uz w1) (ptr (w1.heap.size+1)) 109
 rw [show (Uz w1).heap.size=w1.heap.size+1+1 from by simp [Uz]] at hone
 have hmm: ∀w:World,(Instr.makeMap 114 none).run Tryz.prog w= .ok (.map (some w.heap.size)) (w.alloc (.map #[] 0)):=λ_=>rfl
 go_wp2_with (at_builtin;refine Zk rfl _ _ 93 rfl 109 oi0 (.pointer none) 8 Tryz.underlying93 ohi ohz0 ohz1 ohz2 rfl (.slice ta st.threads.length tk) st.threads.length _ rfl (HO.out.alloc _) ⟨w1.heap.size+1+1,0,none⟩ (ptr (w1.heap.size+1)) rfl hone rfl hl1 hl2 ?_;go_must (intro g9 cp9 w9 hown1 hch hg;have hcb:=(HCB.out w9 _ hch).1;have hfb:=(HCB.out w9 _ hch).2.1;have hcb3:=(HCB.out w9 _ hch).2.2.1;have hfb3:=(HCB.out w9 _ hch).2.2.2;have HO1:=hid hown1;have HC1:=hid hch;have HG1:=hid hg;clear hown1 hch hg))
 all_goals
  go_end0
  obtain ⟨lab9,r9,c9⟩:=HP.out _ w9 g9 cp9 HO1.out HC1.out HG1.out
  have hsz:=C1.out.size
  have hsz9:=c9.size
  obtain ⟨lab10,r10,c10⟩:=r9.setO (λk hk=>HD.out k yai) st.hs.length _ HV.out
  rw [show (w9.setCell ⟨br,1,none⟩ (.slice (some ⟨g9,0,none⟩) (st.threads.length+1) cp9)).heap.size=w9.heap.size from by simp] at r10 c10
  exact ⟨rfl,⟨lab10,_,_,_,r10⟩,(C1.out.trans c9).trans c10⟩
end
section
variable{D D0:Nat->Prop}{lab:Nat->Nat×Nat}{w W:World}{br sb bs bl bw:Nat}{n c:Int}{ws ws1 us us2:List ByteArray}{x u:ByteArray}{tv ov:Value}{st:RS}{ms:List HM}
theorem zv4(l:List (ByteArray×Int×Int))(u:ByteArray)(a c:Int)(hu:(l.any λp=>decide (p.1=u))=false): ∀x,zgd (shF l) u (.agg #[.int .i64 a, .int .i64 c]) x=shF (l++[(u,a,c)]) x:=by
 intro x
 unfold zgd shF
 rw [List.find?_append]
 by_cases e:x=u
 ·subst e
  rw [if_pos rfl]
  have:(l.find? λp=>decide (p.1=x))=none:=by
   rw [List.find?_eq_none]
   intro p hp
   rw [List.any_eq_false] at hu
   exact hu p hp
  simp [this]
 ·rw [if_neg e]
  have e':u≠x:=λh=>e h.symm
  cases h:(l.find? λp=>decide (p.1=x)) with
  |some p=>simp
  |none=>simp [e']
theorem RMach.share(h:RMach D lab w br sb bs tv ov st ms)(u:ByteArray)(hu:u.size<=maxLen)(hnew:st.isSh u=false)(c:Int)(hl:st.shared.length<1000000):
  ∃W,(Instr.mapUpdate 92 (.map (some sb)) (.string u) (.agg #[.int .i64 st.cells, .int .i64 c])).run Tryz.prog w= .ok () W/\
  RMach D lab W br sb bs tv ov {st with shared:=st.shared++[(u,st.cells,c)]} ms/\Chg (λk _=>D k) w W:=by
 have lb:=Qd h.sh
 obtain ⟨W,hrun,hm,hc⟩:=h.mS.put Tryz.underlying92 yap hu (.agg #[.int .i64 st.cells, .int .i64 c])
 have hsome:(shF st.shared u).isSome=false:=by rw [zl5];exact hnew
 rw [hsome] at hm
 simp only [Bool.false_eq_true,if_false] at hm
 have nb:br≠sb:=zd3 h.lbr.1 h.lsb.1 yaj
 refine ⟨W,hrun,h.updB (st':={st with shared:=st.shared++[(u,st.cells,c)]}) rfl hc (λk j _ e=> .inl (e▸h.lsb.1)) (λ_ _=>rfl) ((hc.cell _ _ lb nb).trans h.c1) ((hc.cell _ _ lb nb).trans h.c2) ((hc.cell _ _ lb nb).trans h.c3) ?_ (Qc h.trow hc (λg hg j=>zd3 (h.ltv g hg).1 h.lsb.1 yaj)) (Qc h.orow hc (λg hg j=>zd3 (h.lov g hg).1 h.lsb.1 yaj)) h.ltv h.lov,hc.mono (λk i _ e=>e▸h.lsb.2)⟩
 simp only [List.length_append,List.length_cons,List.length_nil]
 exact hm.congr (zv4 st.shared u st.cells c hnew)
theorem RMach.cellsTo(h:RMach D lab w br sb bs tv ov st ms)(v:Int):RMach D lab (w.setCell ⟨br,2,none⟩ (.int .i64 v)) br sb bs tv ov {st with cells:=v} ms/\Chg (λk _=>D k) w (w.setCell ⟨br,2,none⟩ (.int .i64 v)):=by
 have lb:=Qd h.sh
 have hset:Chg (λk j=>k=br/\j=2) w (w.setCell ⟨br,2,none⟩ (.int .i64 v)):=(Chg.refl _ w).setCell (λ_=>⟨rfl,rfl⟩) _
 have nk: ∀k l,lab k=l->l≠(0,0)->∀j,¬(k=br/\j=2):=λk l hk h2 j e=>h2 (hk.symm.trans (e.1▸h.lbr.1))
 refine ⟨h.updB (st':={st with cells:=v}) rfl hset ?_ (λ_ _=>rfl) ((hset.cell _ _ lb yai).trans h.c1) (Qg h.c2 rfl) ((hset.cell _ _ lb yai).trans h.c3) (h.mS.keep hset (nk _ _ h.lsb.1 yaj)) (Qc h.trow hset (λq hq=>nk _ _ (h.ltv q hq).1 yaj)) (Qc h.orow hset (λq hq=>nk _ _ (h.lov q hq).1 yaj)) h.ltv h.lov,hset.mono (λk j _ e=>e.1▸h.lbr.2)⟩
 rintro k j _ ⟨rfl,rfl⟩
 exact .inr (.inr (.inr ⟨rfl, .inr (.inl rfl)⟩))
theorem z3b(hL:LineAt w bl n bw ws)(hz:SzOk ws)(hv:gNm ws=none):Cl 54 #[ptr br,ptr bl] w λe w'=>Fails 2 n bl w e w':=by
 have K:=hid (zqs hL hz hv)
 clear hL
 go_enter Tryz.func54,Tryz.ntmps54
 go_wp2_with fail
 refine K.out.mono ?_
 rintro e w1 ⟨bf,rfl,h1⟩
 exact ⟨rfl,bf,rfl,h1⟩
theorem z3c(hL:LineAt w bl n bw ws)(hz:SzOk ws)(hE:Hid (Env w))(hbl:10<=bl)(hv:gNm ws=some (x,u::us))(hv2:gIn 1 6 (u::us)=none):Cl 54 #[ptr br,ptr bl] w λe w'=>Fails 2 n bl w e w':=by
 have K:=hid (Fa hL hz hv)
 have hz1:=Ya hv hz
 clear hL
 go_enter Tryz.func54,Tryz.ntmps54
 go_wp2_with fail
 refine K.out.mono ?_
 rintro e w1 ⟨rfl,h1,c1⟩
 have K2:=hid (z15 h1 (hE.out.line c1 hbl) hbl hz1 hv2)
 have C1:=hid c1
 obtain ⟨o,cap,hs⟩:=h1.more
 simp only [List.length_cons] at hs
 clear h1 c1 K
 go_wp2_with (first|(go_at_call 76;go_in)|fail)
 refine K2.out.mono ?_
 intro e w3 h3
 obtain ⟨bf,rfl,h4⟩:=Fails.after h3 C1.out
 exact ⟨rfl,bf,rfl,h4⟩
theorem zj8(h:RMach D0 lab w br sb bs tv ov st ms)(hn: ¬D0 bl)(hL:LineAt w bl n bw ws)(hz:SzOk ws)(hv:gNm ws=some (x,[]))(ht:0<st.threads.length):Cl 54 #[ptr br,ptr bl] w λe w'=>Fails 3 n bl w e w':=by
 obtain ⟨ta,tk,htv⟩:=h.threadS
 have R0:=hid (λW (hc:Chg (Jo bl) w W)=>h.keep hc (λk i hk e=>hn (e.1▸hk)))
 clear h
 have K:=hid (Fa hL hz hv)
 have hz1:=Ya hv hz
 clear hL
 go_enter Tryz.func54,Tryz.ntmps54
 go_wp2_with fail
 refine K.out.mono ?_
 rintro e w1 ⟨rfl,h1,c1⟩
 have H2:=hid h1
 have C2:=hid c1
 obtain ⟨o,cap,hs1⟩:=h1.more
 simp only [List.length_nil] at hs1
 clear h1 c1 K
 go_wp2_with (first|(go_at_call 76;go_in)|fail)
 refine (Eo H2.out).mono ?_
 rintro e w3 ⟨rfl,rfl⟩
 have r3:=R0.out _ C2.out
 have ct:=r3.c1
 rw [htv] at ct
 have ht':0<(st.threads.length:Int):=yai
 clear r3 R0 htv
 go_wp2_with fail
 refine (Jv H2.out 3).mono ?_
 intro e w4 h3
 obtain ⟨bf,rfl,h4⟩:=Fails.after h3 C2.out
 exact ⟨rfl,bf,rfl,h4⟩
theorem zog(h:RMach D0 lab w br sb bs tv ov st ms)(hn: ¬D0 bl)(hL:LineAt w bl n bw ws)(hz:SzOk ws)(hv:gNm ws=some (x,[]))(ht:st.threads.length=0)(hx:x.size<=maxLen)(hs:st.isSh x=true):Cl 54 #[ptr br,ptr bl] w λe w'=>Fails 4 n bl w e w':=by
 obtain ⟨ta,tk,htv⟩:=h.threadS
 have R0:=hid (λW (hc:Chg (Jo bl) w W)=>h.keep hc (λk i hk e=>hn (e.1▸hk)))
 clear h
 have K:=hid (Fa hL hz hv)
 have hz1:=Ya hv hz
 clear hL
 go_enter Tryz.func54,Tryz.ntmps54
 go_wp2_with fail
 refine K.out.mono ?_
 rintro e w1 ⟨rfl,h1,c1⟩
 have H2:=hid h1
 have C2:=hid c1
 obtain ⟨o,cap,hs1⟩:=h1.more
 simp only [List.length_nil] at hs1
 clear h1 c1 K
 go_wp2_with (first|(go_at_call 76;go_in)|fail)
 refine (Eo H2.out).mono ?_
 rintro e w3 ⟨rfl,rfl⟩
 have r3:=R0.out _ C2.out
 have ct:=r3.c1
 rw [htv] at ct
 have K4:=hid (Uu r3 x hx)
 rw [hs] at K4
 rw [ht] at ct
 have R3:=hid r3
 clear r3 R0 htv
 go_wp2_with fail
 refine K4.out.mono ?_
 rintro e w4 ⟨rfl,b4⟩
 have H4:=hid (H2.out.below b4)
 have C4:=hid (C2.out.trans (Chg.of_below b4))
 clear b4 R3 K4 C2
 go_wp2_with fail
 refine (Jv H4.out 4).mono ?_
 intro e w5 h3
 obtain ⟨bf,rfl,h4⟩:=Fails.after h3 C4.out
 exact ⟨rfl,bf,rfl,h4⟩
theorem zv5(h:RMach D0 lab w br sb bs tv ov st ms)(hn: ¬D0 bl)(hL:LineAt w bl n bw ws)(hz:SzOk ws)(hv:gNm ws=some (x,[]))(ht:st.threads.length=0)(hx:x.size<=maxLen)(hs:st.isSh x=false)(h0: ∀k,D0 k->D k)(hDl:D bl)(hl:st.shared.length<1000000)(hc:0<=st.cells/\st.cells<10000000):Cl 54 #[ptr br,ptr bl] w λe w'=>e= .returned (.tuple #[])/\RMach D lab w' br sb bs tv ov {st with shared:=st.shared++[(x,st.cells,1)],cells:=st.cells+1} ms/\Chg (λk _=>D k) w w':=by
 obtain ⟨ta,tk,htv⟩:=h.threadS
 have R0:=hid (λW (hc:Chg (Jo bl) w W)=>h.keep hc (λk i hk e=>hn (e.1▸hk)))
 clear h
 have K:=hid (Fa hL hz hv)
 have hz1:=Ya hv hz
 clear hL
 go_enter Tryz.func54,Tryz.ntmps54
 go_wp2_with fail
 refine K.out.mono ?_
 rintro e w1 ⟨rfl,h1,c1⟩
 have H2:=hid h1
 have C2:=hid c1
 obtain ⟨o,cap,hs1⟩:=h1.more
 simp only [List.length_nil] at hs1
 clear h1 c1 K
 go_wp2_with (first|(go_at_call 76;go_in)|fail)
 refine (Eo H2.out).mono ?_
 rintro e w3 ⟨rfl,rfl⟩
 have r3:=R0.out _ C2.out
 have ct:=r3.c1
 rw [htv] at ct
 have K4:=hid (Uu r3 x hx)
 rw [hs] at K4
 rw [ht] at ct
 have R3:=hid r3
 clear r3 R0 htv
 go_wp2_with fail
 refine K4.out.mono ?_
 rintro e w4 ⟨rfl,b4⟩
 have r4:=(R3.out.below b4).newD (D':=D) (λk hk _=>h0 k hk)
 have r5:=r4.below (w':=w4.drew) (Qi _ _)
 obtain ⟨W,hmu,r6,c6⟩:=r5.share x hx hs 1 hl
 have lb6:=Qd r6.sh
 have cs0:=r5.c0
 have cs2:=r5.c2
 have cs2':=r6.c2
 have cf2:=r6.free 2
 obtain ⟨r7,c7⟩:=r6.cellsTo (st.cells+1)
 have hwr:wrap64 (st.cells+1)=st.cells+1:=yao
 have R7:=hid r7
 have C7:=hid ((((C2.out.trans (Chg.of_below b4)).drew.mono (M':=λk _=>D k) (λk i _ e=>e.1▸hDl)).trans c6).trans c7)
 clear r4 r5 r6 r7 c6 c7 b4 R3 K4 C2
 go_wp2_with fail
 go_region
 all_goals
  go_wp2
  go_end0
  exact ⟨rfl,R7.out,C7.out⟩
theorem zrm{u2:ByteArray}(hL:LineAt w bl n bw ws)(hz:SzOk ws)(hE:Hid (Env w))(hbl:10<=bl)(hv:gNm ws=some (x,u::us))(hv2:gIn 1 6 (u::us)=some (c,(u2::us2))):Cl 54 #[ptr br,ptr bl] w λe w'=>Fails 2 n bl w e w':=by
 have K:=hid (Fa hL hz hv)
 have hz1:=Ya hv hz
 clear hL
 go_enter Tryz.func54,Tryz.ntmps54
 go_wp2_with fail
 refine K.out.mono ?_
 rintro e w1 ⟨rfl,h1,c1⟩
 have K2:=hid (zqf h1 (hE.out.line c1 hbl) hbl hz1 hv2)
 have C1:=hid c1
 obtain ⟨o,cap,hs1⟩:=h1.more
 simp only [List.length_cons] at hs1
 clear h1 c1 K
 go_wp2_with (first|(go_at_call 76;go_in)|fail)
 refine K2.out.mono ?_
 rintro e w2 ⟨rfl,h2,c2⟩
 have H2:=hid h2
 have C2:=hid (C1.out.trans c2)
 clear h2 c2 C1 K2 hs1
 go_wp2_with (fail)
 refine (zc0 H2.out).mono ?_
 intro e w3 h3
 obtain ⟨bf,rfl,h4⟩:=Fails.after h3 C2.out
 exact ⟨rfl,bf,rfl,h4⟩
theorem zj9(h:RMach D0 lab w br sb bs tv ov st ms)(hn: ¬D0 bl)(hL:LineAt w bl n bw ws)(hz:SzOk ws)(hE:Hid (Env w))(hbl:10<=bl)(hv:gNm ws=some (x,u::us))(hv2:gIn 1 6 (u::us)=some (c,[]))(ht:0<st.threads.length):Cl 54 #[ptr br,ptr bl] w λe w'=>Fails 3 n bl w e w':=by
 obtain ⟨ta,tk,htv⟩:=h.threadS
 have R0:=hid (λW (hc:Chg (Jo bl) w W)=>h.keep hc (λk i hk e=>hn (e.1▸hk)))
 clear h
 have K:=hid (Fa hL hz hv)
 have hz1:=Ya hv hz
 clear hL
 go_enter Tryz.func54,Tryz.ntmps54
 go_wp2_with fail
 refine K.out.mono ?_
 rintro e w1 ⟨rfl,h1,c1⟩
 have K2:=hid (zqf h1 (hE.out.line c1 hbl) hbl hz1 hv2)
 have C1:=hid c1
 obtain ⟨o,cap,hs1⟩:=h1.more
 simp only [List.length_cons] at hs1
 clear h1 c1 K
 go_wp2_with (first|(go_at_call 76;go_in)|fail)
 refine K2.out.mono ?_
 rintro e w2 ⟨rfl,h2,c2⟩
 have H2:=hid h2
 have C2:=hid (C1.out.trans c2)
 clear h2 c2 C1 K2 hs1
 go_wp2_with (fail)
 refine (Eo H2.out).mono ?_
 rintro e w3 ⟨rfl,rfl⟩
 have r3:=R0.out _ C2.out
 have ct:=r3.c1
 rw [htv] at ct
 have ht':0<(st.threads.length:Int):=yai
 clear r3 R0 htv
 go_wp2_with fail
 refine (Jv H2.out 3).mono ?_
 intro e w4 h3
 obtain ⟨bf,rfl,h4⟩:=Fails.after h3 C2.out
 exact ⟨rfl,bf,rfl,h4⟩
theorem zoh(h:RMach D0 lab w br sb bs tv ov st ms)(hn: ¬D0 bl)(hL:LineAt w bl n bw ws)(hz:SzOk ws)(hE:Hid (Env w))(hbl:10<=bl)(hv:gNm ws=some (x,u::us))(hv2:gIn 1 6 (u::us)=some (c,[]))(ht:st.threads.length=0)(hx:x.size<=maxLen)(hs:st.isSh x=true):Cl 54 #[ptr br,ptr bl] w λe w'=>Fails 4 n bl w e w':=by
 obtain ⟨ta,tk,htv⟩:=h.threadS
 have R0:=hid (λW (hc:Chg (Jo bl) w W)=>h.keep hc (λk i hk e=>hn (e.1▸hk)))
 clear h
 have K:=hid (Fa hL hz hv)
 have hz1:=Ya hv hz
 clear hL
 go_enter Tryz.func54,Tryz.ntmps54
 go_wp2_with fail
 refine K.out.mono ?_
 rintro e w1 ⟨rfl,h1,c1⟩
 have K2:=hid (zqf h1 (hE.out.line c1 hbl) hbl hz1 hv2)
 have C1:=hid c1
 obtain ⟨o,cap,hs1⟩:=h1.more
 simp only [List.length_cons] at hs1
 clear h1 c1 K
 go_wp2_with (first|(go_at_call 76;go_in)|fail)
 refine K2.out.mono ?_
 rintro e w2 ⟨rfl,h2,c2⟩
 have H2:=hid h2
 have C2:=hid (C1.out.trans c2)
 clear h2 c2 C1 K2 hs1
 go_wp2_with (fail)
 refine (Eo H2.out).mono ?_
 rintro e w3 ⟨rfl,rfl⟩
 have r3:=R0.out _ C2.out
 have ct:=r3.c1
 rw [htv] at ct
 have K4:=hid (Uu r3 x hx)
 rw [hs] at K4
 rw [ht] at ct
 have R3:=hid r3
 clear r3 R0 htv
 go_wp2_with fail
 refine K4.out.mono ?_
 rintro e w4 ⟨rfl,b4⟩
 have H4:=hid (H2.out.below b4)
 have C4:=hid (C2.out.trans (Chg.of_below b4))
 clear b4 R3 K4 C2
 go_wp2_with fail
 refine (Jv H4.out 4).mono ?_
 intro e w5 h3
 obtain ⟨bf,rfl,h4⟩:=Fails.after h3 C4.out
 exact ⟨rfl,bf,rfl,h4⟩
theorem zv6(h:RMach D0 lab w br sb bs tv ov st ms)(hn: ¬D0 bl)(hL:LineAt w bl n bw ws)(hz:SzOk ws)(hE:Hid (Env w))(hbl:10<=bl)(hv:gNm ws=some (x,u::us))(hv2:gIn 1 6 (u::us)=some (c,[]))(ht:st.threads.length=0)(hx:x.size<=maxLen)(hs:st.isSh x=false)(h0: ∀k,D0 k->D k)(hDl:D bl)(hl:st.shared.length<1000000)(hc:0<=st.cells/\st.cells<10000000)(hc6:1<=c/\c<=6):Cl 54 #[ptr br,ptr bl] w λe w'=>e= .returned (.tuple #[])/\RMach D lab w' br sb bs tv ov {st with shared:=st.shared++[(x,st.cells,c)],cells:=st.cells+c} ms/\Chg (λk _=>D k) w w':=by
 obtain ⟨ta,tk,htv⟩:=h.threadS
 have R0:=hid (λW (hc:Chg (Jo bl) w W)=>h.keep hc (λk i hk e=>hn (e.1▸hk)))
 clear h
 have K:=hid (Fa hL hz hv)
 have hz1:=Ya hv hz
 clear hL
 go_enter Tryz.func54,Tryz.ntmps54
 go_wp2_with fail
 refine K.out.mono ?_
 rintro e w1 ⟨rfl,h1,c1⟩
 have K2:=hid (zqf h1 (hE.out.line c1 hbl) hbl hz1 hv2)
 have C1:=hid c1
 obtain ⟨o,cap,hs1⟩:=h1.more
 simp only [List.length_cons] at hs1
 clear h1 c1 K
 go_wp2_with (first|(go_at_call 76;go_in)|fail)
 refine K2.out.mono ?_
 rintro e w2 ⟨rfl,h2,c2⟩
 have H2:=hid h2
 have C2:=hid (C1.out.trans c2)
 clear h2 c2 C1 K2 hs1
 go_wp2_with (fail)
 refine (Eo H2.out).mono ?_
 rintro e w3 ⟨rfl,rfl⟩
 have r3:=R0.out _ C2.out
 have ct:=r3.c1
 rw [htv] at ct
 have K4:=hid (Uu r3 x hx)
 rw [hs] at K4
 rw [ht] at ct
 have R3:=hid r3
 clear r3 R0 htv
 go_wp2_with fail
 refine K4.out.mono ?_
 rintro e w4 ⟨rfl,b4⟩
 have r4:=(R3.out.below b4).newD (D':=D) (λk hk _=>h0 k hk)
 have r5:=r4.below (w':=w4.drew) (Qi _ _)
 obtain ⟨W,hmu,r6,c6⟩:=r5.share x hx hs c hl
 have lb6:=Qd r6.sh
 have cs0:=r5.c0
 have cs2:=r5.c2
 have cs2':=r6.c2
 have cf2:=r6.free 2
 obtain ⟨r7,c7⟩:=r6.cellsTo (st.cells+c)
 have hwr:wrap64 (st.cells+c)=st.cells+c:=yao
 have R7:=hid r7
 have C7:=hid ((((C2.out.trans (Chg.of_below b4)).drew.mono (M':=λk _=>D k) (λk i _ e=>e.1▸hDl)).trans c6).trans c7)
 clear r4 r5 r6 r7 c6 c7 b4 R3 K4 C2
 go_wp2_with fail
 go_region
 all_goals
  go_wp2
  go_end0
  exact ⟨rfl,R7.out,C7.out⟩
end
def RS.setK(st:RS)(t:Nat)(k:HK):RS:=match st.hs[t]? with
 |some h=>{st with hs:=st.hs.set t ⟨k,h.ents⟩}
 |none=>st
def RS.addE(st:RS)(o:Nat)(e:En):RS:=match st.hs[o]? with
 |some h=>{st with hs:=st.hs.set o ⟨h.k,h.ents++[e]⟩}
 |none=>st
def RS.newH(st:RS)(s:St):RS:={st with hs:=st.hs++[⟨.st s,[]⟩]}
theorem zv7(b:Nat)(w:World):(method 443 109 (ptr b) "commits/program.add").run Tryz.prog w= .ok (208,ptr b) w:=yak
theorem zv8(b:Nat)(w:World):(method 443 171 (ptr b) "commits/program.add").run Tryz.prog w= .ok (208,ptr b) w:=yak
theorem z6k(b:Nat)(w:World):(method 443 212 (ptr b) "commits/program.add").run Tryz.prog w= .ok (208,ptr b) w:=yak
theorem z3d(b:Nat)(w:World):(method 443 215 (ptr b) "commits/program.add").run Tryz.prog w= .ok (208,ptr b) w:=yak
theorem zv9(b:Nat)(w:World):(nilAhead 443 109 (ptr b) "commits/program.add").run Tryz.prog w= .ok (some false) w:=yak
theorem zwa(b:Nat)(w:World):(nilAhead 443 171 (ptr b) "commits/program.add").run Tryz.prog w= .ok (some false) w:=yak
theorem z6l(b:Nat)(w:World):(nilAhead 443 212 (ptr b) "commits/program.add").run Tryz.prog w= .ok (some false) w:=yak
theorem z3e(b:Nat)(w:World):(nilAhead 443 215 (ptr b) "commits/program.add").run Tryz.prog w= .ok (some false) w:=yak
theorem zmc{k:HK}(h:zhr k)(b:Nat):(∀w,(method 443 (hkT k) (ptr b) "commits/program.add").run Tryz.prog w= .ok (208,ptr b) w)/\ ∀w,(nilAhead 443 (hkT k) (ptr b) "commits/program.add").run Tryz.prog w= .ok (some false) w:=by
 rcases k with ⟨l,c⟩|⟨to,a⟩|⟨to,k,a,c⟩|⟨to,f,a⟩|⟨f,a,c⟩|a|⟨⟩|a|n
 ·exact ⟨zv7 b,zv9 b⟩
 ·exact h.elim
 ·exact h.elim
 ·exact h.elim
 ·exact h.elim
 ·exact h.elim
 ·exact ⟨zv8 b,zwa b⟩
 ·exact ⟨z6k b,z6l b⟩
 ·exact ⟨z3d b,z3e b⟩
section
variable{D D0:Nat->Prop}{lab:Nat->Nat×Nat}{w:World}{br sb bs bl bw:Nat}{n:Int}{ws:List ByteArray}{tv ov:Value}{st:RS}{ms:List HM}
theorem RMach.setK_eq(h:RMach D lab w br sb bs tv ov st ms)(t:Nat)(ht:t<ms.length)(k:HK):st.setK t k={st with hs:=st.hs.set t ⟨k,ms[t].h.ents⟩}:=by
 unfold RS.setK
 rw [h.hsAt t ht]
theorem RMach.addE_eq(h:RMach D lab w br sb bs tv ov st ms)(t:Nat)(ht:t<ms.length)(e:En):st.addE t e={st with hs:=st.hs.set t ⟨ms[t].h.k,ms[t].h.ents++[e]⟩}:=by
 unfold RS.addE
 rw [h.hsAt t ht]
structure Lays(st:RS)(ms:List HM)(tl ol:List Nat)(t o:Nat)(l:List ByteArray)(c:Nat):Prop where
 opn:st.opnOk
 ent:st.entOk
 ht:st.threads=tl++[t]
 htl:t<ms.length
 hn:tl.length<1000000
 hk:(ms[t]'htl).h.k= .thr l c
 ho:st.opn=ol++[o]
 hol:o<ms.length
 hc:c<=14
 hl:l.length<=4
 hents: ∀h∈st.hs,h.ents.length<900
theorem zoi(h:RMach D0 lab w br sb bs tv ov st ms)(hL:LineAt w bl n bw ws)(ho:st.opnOk)(s:St)(b:Nat)(hmay:st.mayStand s=false):
  Cl 59 #[ptr br,ptr bl,Vk s b] w λe w'=>Fails 3 n bl w e w':=by
 have K:=hid (Xm h ho s b)
 rw [hmay] at K
 have H:=hid hL
 clear h hL
 generalize Vk s b=v at*
 go_enter Tryz.func59,Tryz.ntmps59
 go_wp2_with fail
 refine K.out.mono ?_
 rintro e w1 ⟨rfl,rfl⟩
 go_wp2_with fail
 refine (Jv H.out 3).mono ?_
 rintro e w1 ⟨bf,rfl,h1⟩
 exact ⟨rfl,bf,rfl,h1⟩
theorem zrn(h:RMach D0 lab w br sb bs tv ov st ms)(hL:LineAt w bl n bw ws)(hy:Lays st ms tl ol t o l c)(s:St)(b:Nat)(hS:StB w s b)(hz:zl9 s)(h2:(Qj s).length<=2)(hmay:st.mayStand s=true)(hnm:st.mayName l s=false):
  Cl 59 #[ptr br,ptr bl,Vk s b] w λe w'=>Fails 4 n bl w e w':=by
 have K:=hid (Xm h hy.opn s b)
 rw [hmay] at K
 have K2:=hid (Fp h tl t hy.ht hy.htl hy.hn l c hy.hk s b hS hz h2)
 rw [hnm] at K2
 have H:=hid hL
 clear h hL
 generalize Vk s b=v at*
 go_enter Tryz.func59,Tryz.ntmps59
 go_wp2_with fail
 refine K.out.mono ?_
 rintro e w1 ⟨rfl,rfl⟩
 go_wp2_with fail
 refine K2.out.mono ?_
 rintro e w2 ⟨rfl,b2⟩
 have B2:=hid b2
 clear b2
 go_wp2_with fail
 refine (Jv (H.out.below B2.out) 4).mono ?_
 intro e w3 h3
 obtain ⟨bf,rfl,h4⟩:=h3.after (Chg.of_below B2.out)
 exact ⟨rfl,bf,rfl,h4⟩
theorem zro(h:RMach D0 lab w br sb bs tv ov st ms)(hL:LineAt w bl n bw ws)(hy:Lays st ms tl ol t o l c)(s:St)(b:Nat)(hS:StB w s b)(hz:zl9 s)(h2:(Qj s).length<=2)(hmay:st.mayStand s=true)(hnm:st.mayName l s=true)(hrm:st.hasRoom l c s=false):
  Cl 59 #[ptr br,ptr bl,Vk s b] w λe w'=>Fails 5 n bl w e w':=by
 have K:=hid (Xm h hy.opn s b)
 rw [hmay] at K
 have K2:=hid (Fp h tl t hy.ht hy.htl hy.hn l c hy.hk s b hS hz h2)
 rw [hnm] at K2
 have K3:=hid (λW (hW:Below w.heap.size w W)=>Oj (h.below hW) hy.opn tl t hy.ht hy.htl hy.hn l c hy.hk s b hz)
 rw [hrm] at K3
 have H:=hid hL
 clear h hL
 generalize Vk s b=v at*
 go_enter Tryz.func59,Tryz.ntmps59
 go_wp2_with fail
 refine K.out.mono ?_
 rintro e w1 ⟨rfl,rfl⟩
 go_wp2_with fail
 refine K2.out.mono ?_
 rintro e w2 ⟨rfl,b2⟩
 have B2:=hid b2
 clear b2
 go_wp2_with fail
 refine (K3.out w2 B2.out).mono ?_
 rintro e w3 ⟨rfl,b3⟩
 have B3:=hid (B2.out.trans (b3.mono B2.out.size))
 clear b3
 go_wp2_with fail
 refine (Jv (H.out.below B3.out) 5).mono ?_
 intro e w4 h4
 obtain ⟨bf,rfl,h5⟩:=h4.after (Chg.of_below B3.out)
 exact ⟨rfl,bf,rfl,h5⟩
end
def RS.lastT(st:RS):Option (Nat×List ByteArray×Nat):=match st.threads.getLast? with
 |none=>none
 |some t=>match st.hk t with
  |some (.inl (l,c))=>some (t,l,c)
  |_=>none
def RS.lay(st:RS)(t o:Nat)(l:List ByteArray)(c:Nat)(s:St):RS:=
 if Qf s=true then {(((st.newH s).setK t (.thr l (c+1))).addE o (.sub st.hs.length)) with opn:=st.opn++[st.hs.length]}
 else if (Vg s).toList.isEmpty=false/\Uh l (Vg s)=false then ((st.setK t (.thr l (c+1))).setK t (.thr (l++[Vg s]) (c+1))).addE o (.leaf s)
 else (st.setK t (.thr l (c+1))).addE o (.leaf s)
def gSt(st:RS)(s:St):Except Int RS:=
 if st.mayStand s=false then .error 3 else match st.lastT,st.opn.getLast? with
 |some (t,l,c),some o=>if st.mayName l s=false then .error 4 else if st.hasRoom l c s=false then .error 5 else .ok (st.lay t o l c s)
 |_,_=> .error 3
def Qy:ByteArray:=⟨#[115,104,97,114,101,100]⟩
def Qt:ByteArray:=⟨#[116,104,114,101,97,100]⟩
def Zd:ByteArray:=⟨#[101,110,100]⟩
def Iq(st:RS)(ws:List ByteArray):Except Int RS:=match gNm ws with
 |none=> .error 2
 |some (x,[])=>if 0<st.threads.length then .error 3 else if st.isSh x=true then .error 4 else .ok {st with shared:=st.shared++[(x,st.cells,1)],cells:=st.cells+1}
 |some (x,u::us)=>match gIn 1 6 (u::us) with
  |some (c,[])=>if 0<st.threads.length then .error 3 else if st.isSh x=true then .error 4 else .ok {st with shared:=st.shared++[(x,st.cells,c)],cells:=st.cells+c}
  |_=> .error 2
def Ef(st:RS)(ws:List ByteArray):Except Int RS:=match ws with
 |[]=>if 1<st.opn.length then .error 3 else .ok st.newT
 |_=> .error 2
def zwb(st:RS)(ws:List ByteArray):Except Int RS:=match ws with
 |[]=>if st.opn.length<2 then .error 3 else .ok {st with opn:=st.opn.dropLast}
 |_=> .error 2
def Vq(st:RS)(ws:List ByteArray):Except Int RS:=match ws with
 |[]=> .error 2
 |u::us=>if u=Qy then Iq st us else if u=Qt then Ef st us else if u=Zd then zwb st us else match Zs u us with
  |some (s,[])=>gSt st s
  |_=> .error 2
structure RS.Ok(st:RS)(k:Nat):Prop where
 opn:st.opnOk
 ent:st.entOk
 thr: ∀t∈st.threads,∃l c,st.hk t=some (.thr l c)/\c<=14/\l.length<=4
 ne:st.opn≠[]->st.threads≠[]
 tn:st.threads.length<=k
 sn:st.shared.length<=k
 cn:0<=st.cells/\st.cells<=6*k
 e14: ∀(j:Nat) (h:Hd),st.hs[j]?=some h->h.ents.length<=14
 eo: ∀o∈st.opn,∀h:Hd,st.hs[o]?=some h->∀t l c,st.lastT=some (t,l,c)->h.ents.length<=c
def Zv(t o:Nat)(k:HK)(e:En)(j:Nat)(h:Hd):Hd:=⟨if j=t then k else h.k,if j=o then h.ents++[e] else h.ents⟩
section
variable{st st':RS}{k t o:Nat}{l l':List ByteArray}{c:Nat}{s:St}
theorem zmd(t:Nat)(q:HK)(j:Nat):(st.setK t q).hs[j]?=(st.hs[j]?).map λh=>⟨if j=t then q else h.k,h.ents⟩:=by
 unfold RS.setK
 cases h:st.hs[t]? with
 |none=>
  by_cases e:j=t
  ·subst e;simp [h]
  ·simp [e]
 |some x=>
  by_cases e:j=t
  ·subst e
   obtain ⟨this,rfl⟩:=List.getElem?_eq_some_iff.1 h
   simp [this]
  ·have e':t≠j:=λq=>e q.symm
   simp [e,List.getElem?_set_ne e']
theorem zwc(o:Nat)(e:En)(j:Nat):(st.addE o e).hs[j]?=(st.hs[j]?).map λh=>⟨h.k,if j=o then h.ents++[e] else h.ents⟩:=by
 unfold RS.addE
 cases h:st.hs[o]? with
 |none=>
  by_cases e:j=o
  ·subst e;simp [h]
  ·simp [e]
 |some x=>
  by_cases e:j=o
  ·subst e
   obtain ⟨this,rfl⟩:=List.getElem?_eq_some_iff.1 h
   simp [this]
  ·have e':o≠j:=λq=>e q.symm
   simp [e,List.getElem?_set_ne e']
theorem Xu(t:Nat)(q:HK):(st.setK t q).shared=st.shared/\(st.setK t q).cells=st.cells/\(st.setK t q).threads=st.threads/\(st.setK t q).opn=st.opn:=by
 unfold RS.setK
 split<;>exact ⟨rfl,rfl,rfl,rfl⟩
theorem zas(o:Nat)(e:En):(st.addE o e).shared=st.shared/\(st.addE o e).cells=st.cells/\(st.addE o e).threads=st.threads/\(st.addE o e).opn=st.opn:=by
 unfold RS.addE
 split<;>exact ⟨rfl,rfl,rfl,rfl⟩
theorem Us(h:st.lastT=some (t,l,c)): ∃tl,st.threads=tl++[t]/\st.hk t=some (.thr l c):=by
 unfold RS.lastT at h
 cases hg:st.threads.getLast? with
 |none=>simp [hg] at h
 |some t'=>
  rw [hg] at h
  simp only at h
  cases hk:st.hk t' with
  |none=>simp [hk] at h
  |some q=>
   rw [hk] at h
   rcases q with ⟨l',c'⟩|q
   ·simp only [Option.some.injEq,Prod.mk.injEq] at h
    obtain ⟨rfl,rfl,rfl⟩:=h
    obtain ⟨tl,htl⟩:=List.getLast?_eq_some_iff.1 hg
    exact ⟨tl,htl,hk⟩
   ·simp at h
theorem zc4(h:st.threads=tl++[t])(hk:st.hk t=some (.thr l c)):st.lastT=some (t,l,c):=by
 unfold RS.lastT
 rw [h]
 simp [hk]
theorem zwd(h:st.Ok k)(hne:st.threads≠[]): ∃t l c tl,st.lastT=some (t,l,c)/\st.threads=tl++[t]/\st.hk t=some (.thr l c)/\c<=14/\l.length<=4:=by
 obtain ⟨tl,t,e⟩: ∃tl t,st.threads=tl++[t]:=⟨_,_,(List.dropLast_concat_getLast hne).symm⟩
 obtain ⟨l,c,h1,h2,h3⟩:=h.thr t ybl
 exact ⟨t,l,c,tl,zc4 e h1,e,h1,h2,h3⟩
theorem Yy{j:Nat}{q:HK}(h:st.hk j=some q): ∃x,st.hs[j]?=some x/\x.k=q:=by
 unfold RS.hk at h
 cases hx:st.hs[j]? with
 |none=>simp [hx] at h
 |some x=>exact ⟨x,rfl,by simpa [hx] using h⟩
theorem Ok.upd(h:st.Ok k)(hl:st.lastT=some (t,l,c))(ho:o∈st.opn)(hc:c<14)(hl':l'.length<=4)(e:En)(he: ∀j,e= .inr j->j<st.hs.length)
  (hsame:st'.shared=st.shared/\st'.cells=st.cells/\st'.threads=st.threads/\st'.opn=st.opn) (hget: ∀j,st'.hs[j]?=(st.hs[j]?).map (Zv t o (.thr l' (c+1)) e j)):st'.Ok k/\st'.lastT=some (t,l',c+1)/\st'.hs.length=st.hs.length:=by
 obtain ⟨s1,s2,s3,s4⟩:=hsame
 obtain ⟨tl,ht,hkt⟩:=Us hl
 have hlen:st'.hs.length=st.hs.length:=by
  apply Nat.le_antisymm
  ·apply Nat.le_of_not_lt
   intro hlt
   have:=hget st.hs.length
   rw [List.getElem?_eq_none (Nat.le_refl _)] at this
   rw [List.getElem?_eq_getElem hlt] at this
   simp at this
  ·apply Nat.le_of_not_lt
   intro hlt
   have:=hget st'.hs.length
   rw [List.getElem?_eq_none (Nat.le_refl _),List.getElem?_eq_getElem hlt] at this
   simp at this
 have hkj: ∀j,st'.hk j=(st.hk j).map λq=>if j=t then .thr l' (c+1) else q:=z97
 have hkt':st'.hk t=some (.thr l' (c+1)):=by rw [hkj,hkt];simp
 have hlt':st'.lastT=some (t,l',c+1):=zc4 (s3.trans ht) hkt'
 have hinv: ∀(j:Nat) (x:Hd),st'.hs[j]?=some x->∃y,st.hs[j]?=some y/\x=Zv t o (.thr l' (c+1)) e j y:=z8c
 refine ⟨{opn:=⟨by rw [s4];exact h.opn.1,?_⟩,ent:=⟨?_,?_,?_⟩,thr:=?_,ne:=by rw [s3,s4];exact h.ne,tn:=by rw [s3];exact h.tn,sn:=by rw [s1];exact h.sn,cn:=by rw [s2];exact h.cn,e14:=?_,eo:=?_},hlt',hlen⟩
 ·intro j hj
  rw [s4] at hj
  obtain ⟨y,hy,hok⟩:=h.opn.2 j hj
  refine ⟨Zv t o (.thr l' (c+1)) e j y,by rw [hget,hy];rfl,?_⟩
  unfold Zv
  by_cases e1:j=t
  ·simp only [e1,if_true];trivial
  ·simp only [e1,if_false];exact hok
 ·intro x hx i hi
  rw [hlen]
  obtain ⟨j,hj⟩:=List.mem_iff_getElem?.1 hx
  obtain ⟨y,hy,rfl⟩:=hinv j x hj
  have hy':y∈st.hs:=List.mem_iff_getElem?.2 ⟨j,hy⟩
  unfold Zv at hi
  simp only at hi
  by_cases e1:j=o
  ·rw [if_pos e1,List.mem_append] at hi
   rcases hi with hi|hi
   ·exact h.ent.1 y hy' i hi
   ·simp at hi
    exact he i hi.symm
  ·rw [if_neg e1] at hi
   exact h.ent.1 y hy' i hi
 ·rw [s3,hlen];exact h.ent.2.1
 ·rw [s4,hlen];exact h.ent.2.2
 ·intro j hj
  rw [s3] at hj
  obtain ⟨l0,c0,h1,h2,h3⟩:=h.thr j hj
  by_cases e1:j=t
  ·subst e1
   exact ⟨l',c+1,hkt',by omega,hl'⟩
  ·refine ⟨l0,c0,?_,h2,h3⟩
   rw [hkj,h1]
   simp [e1]
 ·intro j x hx
  obtain ⟨y,hy,rfl⟩:=hinv j x hx
  unfold Zv
  simp only
  by_cases e1:j=o
  ·subst e1
   have:=h.eo j ho y hy t l c hl
   rw [if_pos rfl]
   simp
   omega
  ·rw [if_neg e1];exact h.e14 j y hy
 ·intro j hj x hx t2 l2 c2 h2
  rw [hlt'] at h2
  simp only [Option.some.injEq,Prod.mk.injEq] at h2
  obtain ⟨_,_,rfl⟩:=h2
  rw [s4] at hj
  obtain ⟨y,hy,rfl⟩:=hinv j x hx
  have:=h.eo j hj y hy t l c hl
  unfold Zv
  simp only
  by_cases e1:j=o
  ·rw [if_pos e1];simp;omega
  ·rw [if_neg e1];omega
theorem Ok.newH(h:st.Ok k)(s:St):(st.newH s).Ok k/\(st.newH s).lastT=st.lastT:=by
 have old: ∀j,j<st.hs.length->(st.newH s).hs[j]?=st.hs[j]?:=λj hj=>List.getElem?_append_left hj
 have hko: ∀j,j<st.hs.length->(st.newH s).hk j=st.hk j:=λj hj=>by unfold RS.hk;rw [old j hj]
 have hlt:(st.newH s).lastT=st.lastT:=by
  unfold RS.lastT
  show (match st.threads.getLast? with|none=>none|some t=>_)=_
  cases hg:st.threads.getLast? with
  |none=>rfl
  |some t=>
   have ht:t∈st.threads:=List.mem_of_getLast? hg
   simp only
   rw [hko t (h.ent.2.1 t ht)]
 have hinv: ∀(j:Nat) (x:Hd),(st.newH s).hs[j]?=some x->st.hs[j]?=some x\/x=⟨.st s,[]⟩:=by
  intro j x hx
  by_cases e:j<st.hs.length
  ·left;rw [<-old j e];exact hx
  ·right
   have:(st.hs++[⟨.st s,[]⟩])[j]?=some x:=hx
   rw [List.getElem?_append_right yai] at this
   have hj:j- st.hs.length=0:=by
    apply Nat.eq_zero_of_not_pos
    intro hp
    rw [List.getElem?_eq_none yan] at this
    simp at this
   rw [hj] at this
   simpa using this.symm
 have hlen:(st.newH s).hs.length=st.hs.length+1:=ybm
 refine ⟨{opn:=⟨h.opn.1,λj hj=>?_⟩,ent:=⟨?_,?_,?_⟩,thr:=?_,ne:=h.ne,tn:=h.tn,sn:=h.sn,cn:=h.cn,e14:=?_,eo:=?_},hlt⟩
 ·obtain ⟨y,hy,hok⟩:=h.opn.2 j hj
  exact ⟨y,by rw [old j (h.ent.2.2 j hj)];exact hy,hok⟩
 ·exact z83
 ·intro j hj;rw [hlen];have:=h.ent.2.1 j hj;omega
 ·intro j hj;rw [hlen];have:=h.ent.2.2 j hj;omega
 ·intro t ht
  obtain ⟨l,c,h1,h2⟩:=h.thr t ht
  exact ⟨l,c,by rw [hko t (h.ent.2.1 t ht)];exact h1,h2⟩
 ·intro j x hx
  rcases hinv j x hx with q|rfl
  ·exact h.e14 j x q
  ·simp
 ·intro j hj x hx t l c h2
  rw [hlt] at h2
  rw [old j (h.ent.2.2 j hj)] at hx
  exact h.eo j hj x hx t l c h2
theorem Ok.pushO(h:st.Ok k)(x:Nat)(y:Hd)(hy:st.hs[x]?=some y)(hok:zhr y.k)(he:y.ents=[])(h3:st.opn.length<=3)(hne:st.threads≠[]):RS.Ok {st with opn:=st.opn++[x]} k:=by
 have hx:x<st.hs.length:=(List.getElem?_eq_some_iff.1 hy).1
 refine {opn:=⟨by simp;omega,λj hj=>?_⟩,ent:=⟨h.ent.1,h.ent.2.1,λj hj=>?_⟩,thr:=h.thr,ne:=λ_=>hne,tn:=h.tn,sn:=h.sn,cn:=h.cn,e14:=h.e14,eo:=λj hj z hz t l c hl=>?_}
 ·rcases List.mem_append.1 hj with hj|hj
  ·exact h.opn.2 j hj
  ·simp at hj;subst hj;exact ⟨y,hy,hok⟩
 ·rcases List.mem_append.1 hj with hj|hj
  ·exact h.ent.2.2 j hj
  ·simp at hj;subst hj;exact hx
 ·rcases List.mem_append.1 hj with hj|hj
  ·exact h.eo j hj z hz t l c hl
  ·simp at hj;subst hj
   have:z=y:=by simpa using (show some z=some y from hz.symm.trans hy)
   rw [this,he]
   simp
end
end Go.Proofs.YtphcopbffecceaaGreatDoor
