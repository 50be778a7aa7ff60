import Derived.Test.YtkenoofmkbghiaaGreatDoorB03
import Derived.Deep.AppendLies
import Derived.Maps.AppendAt
set_option maxRecDepth 100000
set_option maxHeartbeats 1000000
namespace Go.Proofs.YtkenoofmkbghiaaGreatDoor
open Go.RowKit
variable{w w1:World}{a b base bm k n size:Nat}{ov v:Value}{e:TypeId}{xs:List Value}{T':Th}{q:List (Int×Int)}{o:Obj}
structure ThAt(w:World)(b bm:Nat)(iv ov:Value)(T:Th):Prop where
 sh:w.shape? b=some (86,23)
 mem:w.cell? ⟨b,0,none⟩=some (ptr bm)
 ins:w.cell? ⟨b,1,none⟩=some iv
 regs: ∀j,j<8->w.cell? ⟨b,2+j,none⟩=some (.int .i64 (T.r j))
 place:w.cell? ⟨b,10,none⟩=some (.int .i64 T.pl)
 ring:RingQ w b 11 T.q
 outc:w.cell? ⟨b,21,none⟩=some ov
 out:w.ownsRow 0 2 1 ov T.out.length (T.out.map (Value.int .i64))
 state:w.cell? ⟨b,22,none⟩=some (.int .i64 T.st)
 free: ∀j,j<23->w.frozen? ⟨b,j,none⟩=false
 addr: ∀p∈T.q,0<=p.1/\p.1<256
structure MemAt(w:World)(bm:Nat)(m:Nat->Int):Prop where
 sh:w.shape? bm=some (59,257)
 cells: ∀j,j<256->w.cell? ⟨bm,j,none⟩=some (.int .i64 (m j))
 free: ∀j,j<257->w.frozen? ⟨bm,j,none⟩=false
theorem Qd{s:TypeId×Nat}(h:w.shape? k=some s):k<w.heap.size:=by
 unfold World.shape? at h
 split at h
 ·rename_i c e f hb;exact (Array.getElem?_eq_some_iff.1 hb).1
 ·cases h
theorem z7e(h:w.ownsRow base e size v n xs): ∀g,v.ownBlock=some g->∃c,w.shape? g=some (e,c):=by
 intro g hg
 rcases h.2 with ⟨rfl,_⟩|⟨g',cap,cur,rfl,_,hc,_⟩
 ·simp [Value.ownBlock] at hg
 ·simp [Value.ownBlock] at hg
  subst hg
  exact ⟨cur.size,by simp [World.shape?,hc]⟩
theorem Qc{M:Nat->Nat->Prop}{w':World}(h:w.ownsRow base e size v n xs)(hc:Chg M w w')(hM: ∀g,v.ownBlock=some g->∀i,¬M g i):w'.ownsRow base e size v n xs:=by
 refine ⟨h.1,?_⟩
 rcases h.2 with h2|⟨g,cap,cur,rfl,hb,hg,h3⟩
 ·exact .inl h2
 ·exact .inr ⟨g,cap,cur,rfl,hb,(hc.block g (Array.getElem?_eq_some_iff.1 hg).1 (hM g rfl)).trans hg,h3⟩
section
variable{w w':World}{b bm:Nat}{iv ov:Value}{T:Th}{m:Nat->Int}{M:Nat->Nat->Prop}
theorem ThAt.lt(h:ThAt w b bm iv ov T):b<w.heap.size:=Qd h.sh
theorem MemAt.lt(h:MemAt w bm m):bm<w.heap.size:=Qd h.sh
theorem ThAt.ne(h:ThAt w b bm iv ov T)(hm:MemAt w bm m):b≠bm:=λe=>by have:=h.sh;rw [e,hm.sh] at this;simp at this
theorem ThAt.row_ne(h:ThAt w b bm iv ov T){t:TypeId}(hk:w.shape? k=some (t,n))(ht:t≠2):ov.ownBlock≠some k:=λe=>by
 obtain ⟨c,hc⟩:=z7e h.out k e
 rw [hk] at hc;simp at hc;exact ht hc.1
theorem ThAt.keep(h:ThAt w b bm iv ov T)(hc:Chg M w w')(hb: ∀i,¬M b i)(ho: ∀g,ov.ownBlock=some g->∀i,¬M g i):ThAt w' b bm iv ov T:={
 sh:=(hc.shape b h.lt).trans h.sh
 mem:=(hc.cell b _ h.lt (hb _)).trans h.mem
 ins:=(hc.cell b _ h.lt (hb _)).trans h.ins
 regs:=λj hj=>(hc.cell b _ h.lt (hb _)).trans (h.regs j hj)
 place:=(hc.cell b _ h.lt (hb _)).trans h.place
 ring:=h.ring.chg hc (λ_ _=>hb _)
 outc:=(hc.cell b _ h.lt (hb _)).trans h.outc
 out:=Qc h.out hc ho
 state:=(hc.cell b _ h.lt (hb _)).trans h.state
 free:=λj hj=>(hc.frozen b _ h.lt).trans (h.free j hj)
 addr:=h.addr}
theorem MemAt.keep(h:MemAt w bm m)(hc:Chg M w w')(hb: ∀i,i<256->¬M bm i):MemAt w' bm m:={
 sh:=(hc.shape bm h.lt).trans h.sh
 cells:=λj hj=>(hc.cell bm _ h.lt (hb _ hj)).trans (h.cells j hj)
 free:=λj hj=>(hc.frozen bm _ h.lt).trans (h.free j hj)}
theorem ThAt.below(h:ThAt w b bm iv ov T)(hc:Below w.heap.size w w'):ThAt w' b bm iv ov T:=h.keep (M:=λ_ _=>False) (Chg.of_below hc) (λ_ h=>h) (λ_ _ _ h=>h)
theorem MemAt.below(h:MemAt w bm m)(hc:Below w.heap.size w w'):MemAt w' bm m:=h.keep (M:=λ_ _=>False) (Chg.of_below hc) (λ_ _ h=>h)
theorem ThAt.set(h:ThAt w b bm iv ov T)(o:Nat)(v:Value)(ho:2<=o/\o<11\/o=22)
  (hr: ∀j,j<8->(w.setCell ⟨b,o,none⟩ v).cell? ⟨b,2+j,none⟩=some (.int .i64 (T'.r j))) (hp:(w.setCell ⟨b,o,none⟩ v).cell? ⟨b,10,none⟩=some (.int .i64 T'.pl)) (hs:(w.setCell ⟨b,o,none⟩ v).cell? ⟨b,22,none⟩=some (.int .i64 T'.st)) (hq:T'.q=T.q) (hout:T'.out=T.out):
  ThAt (w.setCell ⟨b,o,none⟩ v) b bm iv ov T':={
 sh:=(Ui w _ v b).trans h.sh
 mem:=(Qb yue).trans h.mem
 ins:=(Qb yue).trans h.ins
 regs:=hr
 place:=hp
 ring:=hq▸h.ring.chg (M:=λk i=>k=b/\i=o) ((Chg.refl _ w).setCell (λ_=>⟨rfl,rfl⟩) v) (λj hj e=>by omega)
 outc:=(Qb yue).trans h.outc
 out:=hout▸Qc (M:=λk i=>k=b/\i=o) h.out ((Chg.refl _ w).setCell (λ_=>⟨rfl,rfl⟩) v) (λg hg i e=>h.row_ne h.sh yuh (e.1▸hg))
 state:=hs
 free:=λj hj=>(World.frozen?_setCell w _ _ v).trans (h.free j hj)
 addr:=hq▸h.addr}
theorem ThAt.setReg(h:ThAt w b bm iv ov T){d:Nat}(hd:d<8)(v:Int):ThAt (w.setCell ⟨b,2+d,none⟩ (.int .i64 v)) b bm iv ov (T.setR d v):=by
 refine h.set (2+d) _ yue (λj hj=>?_) ((Qb yue).trans h.place) ((Qb yue).trans h.state) rfl rfl
 by_cases e:j=d
 ·subst e;rw [Qg (h.regs j hj) rfl];simp [Th.setR]
 ·rw [Qb yue,h.regs j hj];simp [Th.setR,e]
theorem ThAt.setPlace(h:ThAt w b bm iv ov T)(v:Int):ThAt (w.setCell ⟨b,10,none⟩ (.int .i64 v)) b bm iv ov {T with pl:=v}:=
 h.set 10 _ yue (λj hj=>(Qb yue).trans (h.regs j hj)) (Qg h.place rfl) ((Qb yue).trans h.state) rfl rfl
theorem ThAt.setState(h:ThAt w b bm iv ov T)(v:Int):ThAt (w.setCell ⟨b,22,none⟩ (.int .i64 v)) b bm iv ov {T with st:=v}:=
 h.set 22 _ yue (λj hj=>(Qb yue).trans (h.regs j hj)) ((Qb yue).trans h.place) (Qg h.state rfl) rfl rfl
theorem ThAt.setRing(h:ThAt w b bm iv ov T)(hc:Chg (z8b b 11) w w')(hq:RingQ w' b 11 q)(ha: ∀p∈q,0<=p.1/\p.1<256):ThAt w' b bm iv ov {T with q:=q}:={
 sh:=(hc.shape b h.lt).trans h.sh
 mem:=(hc.cell b _ h.lt (λe=>by unfold z8b at e;omega)).trans h.mem
 ins:=(hc.cell b _ h.lt (λe=>by unfold z8b at e;omega)).trans h.ins
 regs:=λj hj=>(hc.cell b _ h.lt (λe=>by unfold z8b at e;omega)).trans (h.regs j hj)
 place:=(hc.cell b _ h.lt (λe=>by unfold z8b at e;omega)).trans h.place
 ring:=hq
 outc:=(hc.cell b _ h.lt (λe=>by unfold z8b at e;omega)).trans h.outc
 out:=Qc h.out hc (λg hg i e=>h.row_ne h.sh yuh (e.1▸hg))
 state:=(hc.cell b _ h.lt (λe=>by unfold z8b at e;omega)).trans h.state
 free:=λj hj=>(hc.frozen b _ h.lt).trans (h.free j hj)
 addr:=ha}
theorem MemAt.set(h:MemAt w bm m)(ha:a<256)(v:Int):MemAt (w.setCell ⟨bm,a,none⟩ (.int .i64 v)) bm (z60 m a v):={
 sh:=(Ui w _ _ bm).trans h.sh
 cells:=λj hj=>by
  by_cases e:j=a
  ·subst e;rw [Qg (h.cells j hj) rfl];simp [z60]
  ·rw [Qb yue,h.cells j hj];simp [z60,e]
 free:=λj hj=>(World.frozen?_setCell w _ _ _).trans (h.free j hj)}
theorem ThAt.setMem(h:ThAt w b bm iv ov T)(hm:MemAt w bm m)(a:Nat)(v:Value):ThAt (w.setCell ⟨bm,a,none⟩ v) b bm iv ov T:=
 h.keep (M:=λk i=>k=bm/\i=a) ((Chg.refl _ w).setCell (λ_=>⟨rfl,rfl⟩) v) (λi e=>h.ne hm e.1) (λg hg i e=>h.row_ne hm.sh yuh (e.1▸hg))
end
def z9n(b bm:Nat)(ov:Value):Nat->Nat->Prop:=λk i=>k=b\/k=bm/\i<256\/ov.ownBlock=some k
def Eff(w:World)(b bm:Nat)(iv ov:Value)(T':Th)(m':Nat->Int)(w':World):Prop:=
 ∃ov',ThAt w' b bm iv ov' T'/\MemAt w' bm m'/\Chg (z9n b bm ov) w w'/\(ov'.ownBlock=ov.ownBlock\/ ∃k,ov'.ownBlock=some k/\w.heap.size<=k)
theorem Eff.then{w2:World}{iv ov1 ov2:Value}{m':Nat->Int}(hc:Chg (z9n b bm ov) w w1)(h1:ov1.ownBlock=ov.ownBlock\/ ∃k,ov1.ownBlock=some k/\w.heap.size<=k)
  (ht:ThAt w2 b bm iv ov2 T') (hm:MemAt w2 bm m') (hc2:Chg (z9n b bm ov1) w1 w2) (h2:ov2.ownBlock=ov1.ownBlock\/ ∃k,ov2.ownBlock=some k/\w1.heap.size<=k):Eff w b bm iv ov T' m' w2:=by
 refine ⟨ov2,ht,hm,hc.then hc2 ?_,?_⟩
 ·rintro k i hk (h|h|h)
  ·exact .inl h
  ·exact .inr (.inl h)
  ·rcases h1 with e|⟨j,e,hj⟩
   ·exact .inr (.inr (e▸h))
   ·rw [e] at h;simp at h;omega
 ·rcases h2 with e|⟨j,e,hj⟩
  ·rw [e];exact h1
  ·exact .inr ⟨j,e,Nat.le_trans hc.size hj⟩
section
variable{w:World}{b bm:Nat}{iv ov:Value}{T:Th}{m:Nat->Int}
theorem yfe(h:a<256):z9n b bm ov bm a:= .inr (.inl ⟨rfl,h⟩)
theorem z9o(i:Nat):z9n b bm ov b i:= .inl rfl
theorem z8o(h:ThAt w b bm iv ov T)(hm:MemAt w bm m)(a v:Int)(h0:0<=a)(h1:a<256):
  Cl 52 #[ptr b, .int .i64 a, .int .i64 v] w λe w'=>e= .returned (.tuple #[])/\Eff w b bm iv ov T (z60 m a.toNat v) w':=by
 have ha:a.toNat<256:=yue
 refine (ybk b bm a v _ w h0 h1 h.mem (hm.cells _ ha) (hm.free _ yue)).mono ?_
 rintro e w' ⟨rfl,rfl⟩
 exact ⟨rfl,ov,h.setMem hm _ _,hm.set ha v,(Chg.refl _ w).setCell (λ_=>yfe ha) _, .inl rfl⟩
theorem z9g(h:ThAt w b bm iv ov T)(hm:MemAt w bm m)(hq:T.q=[]):
  Cl 33 #[ptr b] w λe w'=>e= .returned (.bool false)/\Eff w b bm iv ov T m w':=by
 have hr:=hq▸h.ring
 go_enter Tryz.func33,Tryz.ntmps33
 go_wp2_with fail
 refine (yfd b 11 _ hr).mono ?_
 rintro e w1 ⟨rfl,hb1⟩
 go_wp2
 go_ret
 have hb2:Below w.heap.size w (w1.alloc (Obj.cells #[Value.int IntKind.i64 0,Value.int IntKind.i64 0] 81)):=hb1.alloc hb1.size _
 exact ⟨rfl,ov,h.below hb2,hm.below hb2,Chg.of_below hb2, .inl rfl⟩
theorem z80(h:ThAt w b bm iv ov T)(hm:MemAt w bm m)(p:Int×Int)(q:List (Int×Int))(hq:T.q=p::q):
  Cl 33 #[ptr b] w λe w'=>e= .returned (.bool true)/\Eff w b bm iv ov {T with q:=q} (z60 m p.1.toNat p.2) w':=by
 have hr:=hq▸h.ring
 have hp:0<=p.1/\p.1<256:=h.addr p (by rw [hq];simp)
 have hqa: ∀p'∈q,0<=p'.1/\p'.1<256:=λp' hp'=>h.addr p' (by rw [hq];simp [hp'])
 have H:Hid (ThAt w b bm iv ov T):=h
 have HM:Hid (MemAt w bm m):=hm
 have HQ:Hid (T.q=p::q):=hq
 clear h hm hq
 go_enter Tryz.func33,Tryz.ntmps33
 go_wp2_with fail
 refine (yd2 b 11 p q _ hr).mono ?_
 rintro e w1 ⟨rfl,hc1,hq1⟩
 have ht1:=H.out.setRing hc1 hq1 hqa
 have hm1:=HM.out.keep hc1 (λi _ e=>H.out.ne HM.out e.1.symm)
 have hc1':Chg (z9n b bm ov) w w1:=hc1.mono (λk i _ e=> .inl e.1)
 clear hc1 hq1
 have HC:Hid (Chg (z9n b bm ov) w w1):=hc1'
 clear hc1'
 go_wp2_with fail
 have hb2:Below w1.heap.size w1 (w1.alloc (Obj.cells #[Value.int IntKind.i64 p.1,Value.int IntKind.i64 p.2] 81)):=(Below.refl _ _).alloc (Nat.le_refl _) _
 refine (z8o (ht1.below hb2) (hm1.below hb2) p.1 p.2 hp.1 hp.2).mono ?_
 rintro e w2 ⟨rfl,ov2,ht2,hm2,hc2,ho2⟩
 go_wp2
 go_ret
 exact ⟨rfl,Eff.then (HC.out.alloc _) (.inl rfl) ht2 hm2 hc2 ho2⟩
end
section
variable{w:World}{b bm:Nat}{iv ov:Value}{T:Th}{m:Nat->Int}
def ygo(b:Nat)(w:World):Nat:=(intOf ((w.cell? ⟨b,20,none⟩).getD (.int .i64 0))).toNat
theorem ycd(h:RingQ w b 11 q):ygo b w=q.length:=by
 have:=h.count
 simp only [ygo,this,Option.getD_some,intOf,Int.toNat_natCast]
theorem z8p(h:ThAt w b bm iv ov T)(hm:MemAt w bm m):
  Cl 214 #[ptr b] w λe w'=>e= .returned (.tuple #[])/\Eff w b bm iv ov {T with q:=[]} (z6x m T.q) w':=by
 go_enter Tryz.func214,Tryz.ntmps214
 go_wp2_with fail
 go_loopw [] (λwr=>∃q m' ov',ThAt wr b bm iv ov' {T with q:=q}/\MemAt wr bm m'/\Chg (z9n b bm ov) w wr/\(ov'.ownBlock=ov.ownBlock\/ ∃k,ov'.ownBlock=some k/\w.heap.size<=k)/\z6x m' q=z6x m T.q) (λwr=>ygo b wr)
 case atStart=>exact ⟨T.q,m,ov,h,hm,Chg.refl _ _, .inl rfl,rfl⟩
 case round=>
  obtain ⟨q,m',ov',ht,hm',hc,ho,hd⟩:=hrel
  cases q with
  |nil=>
   go_wp2_with fail
   refine (z9g ht hm' rfl).mono ?_
   rintro e w1 ⟨rfl,ov1,ht1,hm1,hc1,ho1⟩
   go_wp2
   go_end0
   exact ⟨rfl,by rw [<-hd];exact Eff.then hc ho ht1 hm1 hc1 ho1⟩
  |cons p q=>
   go_wp2_with fail
   refine (z80 ht hm' p q rfl).mono ?_
   rintro e w1 ⟨rfl,ov1,ht1,hm1,hc1,ho1⟩
   go_wp2
   go_roundw
   case rel=>
    obtain ⟨ov2,ht2,hm2,hc2,ho2⟩:=Eff.then hc ho ht1 hm1 hc1 ho1
    exact ⟨q,_,ov2,ht2,hm2,hc2,ho2,hd⟩
   case measure=>
    rw [ycd ht1.ring,ycd ht.ring];simp
end
section
variable{w:World}{b bm:Nat}{iv ov:Value}{T:Th}{m:Nat->Int}
theorem yah(h:ThAt w b bm iv ov T)(hm:MemAt w bm m)(a v:Int)(h0:0<=a)(h1:a<256)(hl:T.q.length<4):
  Cl 273 #[ptr b, .int .i64 a, .int .i64 v] w λe w'=>e= .returned (.tuple #[])/\Eff w b bm iv ov {T with q:=T.q++[(a,v)]} m w':=by
 have hr:=h.ring
 have hqa: ∀p'∈T.q++[(a,v)],0<=p'.1/\p'.1<256:=λp' hp'=>(List.mem_append.1 hp').elim (h.addr p') (λe=>by simp at e;subst e;exact ⟨h0,h1⟩)
 have H:Hid (ThAt w b bm iv ov T):=h
 have HM:Hid (MemAt w bm m):=hm
 clear h hm
 go_enter Tryz.func273,Tryz.ntmps273
 go_wp2_with fail
 refine (ycu b 11 a v T.q _ hr hl).mono ?_
 rintro e w1 ⟨rfl,hc1,hq1⟩
 have ht1:=H.out.setRing hc1 hq1 hqa
 have hm1:=HM.out.keep hc1 (λi _ e=>H.out.ne HM.out e.1.symm)
 have hc1':Chg (z9n b bm ov) w w1:=hc1.mono (λk i _ e=> .inl e.1)
 have HC:Hid (Chg (z9n b bm ov) w w1):=hc1'
 clear hc1' hc1 hq1
 go_wp2
 go_end0
 have hb2:Below w1.heap.size w1 (w1.alloc (Obj.cells #[Value.int IntKind.i64 0,Value.int IntKind.i64 0] 81)):=(Below.refl _ _).alloc (Nat.le_refl _) _
 exact ⟨rfl,ov,ht1.below hb2,hm1.below hb2,HC.out.alloc _, .inl rfl⟩
theorem yai(h:ThAt w b bm iv ov T)(hm:MemAt w bm m)(a v:Int)(h0:0<=a)(h1:a<256)(p:Int×Int)(q:List (Int×Int))(hq:T.q=p::q)(hl:q.length=3):
  Cl 273 #[ptr b, .int .i64 a, .int .i64 v] w λe w'=>e= .returned (.tuple #[])/\Eff w b bm iv ov {T with q:=q++[(a,v)]} (z60 m p.1.toNat p.2) w':=by
 have hr:=hq▸h.ring
 have hp:0<=p.1/\p.1<256:=h.addr p (by rw [hq];simp)
 have hqa: ∀p'∈q++[(a,v)],0<=p'.1/\p'.1<256:=λp' hp'=>(List.mem_append.1 hp').elim (λe=>h.addr p' (by rw [hq];simp [e])) (λe=>by simp at e;subst e;exact ⟨h0,h1⟩)
 have H:Hid (ThAt w b bm iv ov T):=h
 have HM:Hid (MemAt w bm m):=hm
 clear h hm hq
 go_enter Tryz.func273,Tryz.ntmps273
 go_wp2_with fail
 refine (ycv b 11 a v p q _ hr hl).mono ?_
 rintro e w1 ⟨rfl,hc1,hq1⟩
 have ht1:=H.out.setRing hc1 hq1 hqa
 have hm1:=HM.out.keep hc1 (λi _ e=>H.out.ne HM.out e.1.symm)
 have hc1':Chg (z9n b bm ov) w w1:=hc1.mono (λk i _ e=> .inl e.1)
 have HC:Hid (Chg (z9n b bm ov) w w1):=hc1'
 clear hc1' hc1 hq1
 go_wp2_with fail
 have hb2:Below w1.heap.size w1 (w1.alloc (Obj.cells #[Value.int IntKind.i64 p.1,Value.int IntKind.i64 p.2] 81)):=(Below.refl _ _).alloc (Nat.le_refl _) _
 refine (z8o (ht1.below hb2) (hm1.below hb2) p.1 p.2 hp.1 hp.2).mono ?_
 rintro e w2 ⟨rfl,ov2,ht2,hm2,hc2,ho2⟩
 go_wp2
 go_end0
 exact ⟨rfl,Eff.then (HC.out.alloc _) (.inl rfl) ht2 hm2 hc2 ho2⟩
theorem yce(h:ThAt w b bm iv ov T)(hm:MemAt w bm m)(a v:Int)(h0:0<=a)(h1:a<256):
  Cl 273 #[ptr b, .int .i64 a, .int .i64 v] w λe w'=>e= .returned (.tuple #[])/\Eff w b bm iv ov {T with q:=(z62 T.q m a v).1} (z62 T.q m a v).2 w':=by
 by_cases hl:T.q.length<4
 ·rw [ybl hl];exact yah h hm a v h0 h1 hl
 ·have h4:=h.ring.le
  obtain ⟨p,q,hq⟩: ∃p q,T.q=p::q:=by
   cases hT:T.q with
   |nil=>rw [hT] at hl;simp at hl
   |cons p q=>exact ⟨p,q,rfl⟩
  have hl3:q.length=3:=by rw [hq] at hl h4;simp at hl h4;omega
  have:=yai h hm a v h0 h1 p q hq hl3
  rw [hq,ybm hl3];exact this
end
section
variable{w:World}{b bm:Nat}{iv ov:Value}{T:Th}{m:Nat->Int}
theorem zqb:(Tryz.prog.info? 2).map (λi=>(i.zero,i.size,i.bytes))=some (some (.int .i64 0),1,8):=yug
theorem ybo(h:ThAt w b bm iv ov T)(hm:MemAt w bm m)(v:Int){g cap:Nat}(o:Obj)
  (hown:w1.ownsRow 0 2 1 (.slice (some ⟨g,0,none⟩) (T.out.length+1) cap) (T.out.length+1) (T.out.map (Value.int .i64)++[.int .i64 v]))
  (hc:Chg (λk _=>ov.ownBlock=some k) (w.alloc o) w1) (hg:ov.ownBlock=some g\/g=(w.alloc o).heap.size):
  Eff w b bm iv ov {T with out:=T.out++[v]} m (w1.setCell ⟨b,21,none⟩ (.slice (some ⟨g,0,none⟩) (T.out.length+1) cap)):=by
 have hc0:Chg (λk _=>ov.ownBlock=some k) w w1:=((Chg.refl _ w).alloc o).trans hc
 have hne: ∀k t n,w.shape? k=some (t,n)->t≠2->¬ov.ownBlock=some k:=λk t n hk ht=>h.row_ne hk ht
 have hbo:=hne b _ _ h.sh yuh
 have hmo:=hne bm _ _ hm.sh yuh
 have hgb:g≠b:=by
  rcases hg with e|e
  ·exact λe'=>hbo (e'▸e)
  ·have:=h.lt;simp at e;omega
 let sv:Value:= .slice (some ⟨g,0,none⟩) (T.out.length+1) cap
 have hset:Chg (λk i=>k=b/\i=21) w1 (w1.setCell ⟨b,21,none⟩ sv):=(Chg.refl _ w1).setCell (λ_=>⟨rfl,rfl⟩) _
 have c: ∀i v',i≠21->w.cell? ⟨b,i,none⟩=some v'->(w1.setCell ⟨b,21,none⟩ sv).cell? ⟨b,i,none⟩=some v':=λi v' hi hv=>(Qb yue).trans ((hc0.cell b i h.lt hbo).trans hv)
 refine ⟨sv,⟨?_,c _ _ yue h.mem,c _ _ yue h.ins,λj hj=>c _ _ yue (h.regs j hj),c _ _ yue h.place,?_,?_,?_,c _ _ yue h.state,?_,h.addr⟩,?_,?_,?_⟩
 ·exact (Ui w1 _ _ b).trans ((hc0.shape b h.lt).trans h.sh)
 ·exact (h.ring.chg hc0 (λ_ _=>hbo)).chg hset (λj hj e=>by omega)
 ·exact Qg ((hc0.cell b 21 h.lt hbo).trans h.outc) rfl
 ·have:=Qc hown hset (λk hk i e=>by simp [Value.ownBlock] at hk;exact hgb (hk.trans e.1))
  simpa using this
 ·exact λj hj=>(World.frozen?_setCell w1 _ _ _).trans ((hc0.frozen b _ h.lt).trans (h.free j hj))
 ·exact ((hm.keep hc0 (λ_ _=>hmo))).keep hset (λi _ e=>h.ne hm e.1.symm)
 ·exact (hc0.mono (λk i _ e=> .inr (.inr e))).trans (hset.mono (λk i _ e=> .inl e.1))
 ·rcases hg with e|e
  ·exact .inl e.symm
  ·exact .inr ⟨g,rfl,by simp at e;omega⟩
theorem hid{p:Prop}(h:p):Hid p:=h
theorem yd3(h:ThAt w b bm iv ov T)(hc:Chg (λk _=>ov.ownBlock=some k) (w.alloc o) w1):w1.cell? ⟨b,21,none⟩=some ov:=
 (hc.cell b 21 (by have:=h.lt;simp;omega) (h.row_ne h.sh yuh)).trans ((World.cell?_alloc_past _ _ _ h.lt).trans h.outc)
theorem yd4(h:ThAt w b bm iv ov T)(hc:Chg (λk _=>ov.ownBlock=some k) (w.alloc o) w1):w1.frozen? ⟨b,21,none⟩=false:=
 (hc.frozen b 21 (by have:=h.lt;simp;omega)).trans ((World.frozen?_alloc_past _ _ _ h.lt).trans (h.free 21 yue))
theorem yd5(h:ThAt w b bm iv ov T)(hm:MemAt w bm m)(v:Int)(hl:T.out.length<1099511627776):
  Cl 268 #[ptr b, .int .i64 v] w λe w'=>e= .returned (.tuple #[])/\Eff w b bm iv ov {T with out:=T.out++[v]} m w':=by
 obtain ⟨i0,hi,hz0,hz1,hz2⟩:=info_parts zqb
 have hc21:=h.outc
 have hb:=h.lt
 have hb1:b<w.heap.size+1:=yue
 have hown:Hid (w.ownsRow 0 2 1 ov T.out.length (T.out.map (Value.int .i64))):=h.out
 have H:Hid (ThAt w b bm iv ov T):=h
 have HM:Hid (MemAt w bm m):=hm
 have hl1:T.out.length+1<=maxLen:=yuk
 have hl2:(T.out.length+1)*8<=140737488355328:=yue
 clear h hm hl
 go_enter Tryz.func268,Tryz.ntmps268
 go_wp2_with (at_builtin;refine Zk rfl _ _ 31 rfl 2 i0 (.int .i64 0) 8 Tryz.underlying31 hi hz0 hz1 hz2 rfl ov T.out.length _ rfl (hown.out.alloc _) ⟨w.heap.size,0,none⟩ (.int .i64 v) rfl (cell_one_new _ _ _) rfl hl1 hl2 ?_;go_must (intro g cap w1 hown1 hch hg;have hcb:=yd3 H.out hch;have hfb:=yd4 H.out hch;have HC:=hid hown1;have HD:=hid hch;have HG:=hid hg;clear hown1 hch hg))
 go_end0
 exact ⟨rfl,ybo H.out HM.out v _ HC.out HD.out HG.out⟩
end
theorem zac(v:Value)(w:World):(method 481 291 v "commits/codes.of").run Tryz.prog w= .ok (261,v) w:=yug
theorem zad(v:Value)(w:World):(method 481 236 v "commits/codes.of").run Tryz.prog w= .ok (243,v) w:=yug
theorem Jy(v:Value)(w:World):(method 481 54 v "SetRegister").run Tryz.prog w= .ok (272,v) w:=yug
theorem zjk(v:Value)(w:World):(method 481 54 v "Load").run Tryz.prog w= .ok (270,v) w:=yug
theorem zdi(v:Value)(w:World):(method 481 54 v "Store").run Tryz.prog w= .ok (273,v) w:=yug
theorem Fw(v:Value)(w:World):(method 481 54 v "SetCell").run Tryz.prog w= .ok (52,v) w:=yug
theorem zcn(v:Value)(w:World):(method 481 54 v "Drain").run Tryz.prog w= .ok (214,v) w:=yug
theorem zhh(v:Value)(w:World):(method 481 54 v "Give").run Tryz.prog w= .ok (268,v) w:=yug
theorem ze8(v:Value)(w:World):(method 481 54 v "Leap").run Tryz.prog w= .ok (269,v) w:=yug
theorem zqc(v:Value)(w:World):(method 481 54 v "End").run Tryz.prog w= .ok (267,v) w:=yug
theorem ygp(v:Value)(w:World):(method 481 244 v "Do").run Tryz.prog w= .ok (250,v) w:=yug
theorem ycw(v:Value)(w:World):(method 481 242 v "Do").run Tryz.prog w= .ok (244,v) w:=yug
theorem ygq(v:Value)(w:World):(method 481 249 v "Do").run Tryz.prog w= .ok (252,v) w:=yug
theorem yff(v:Value)(w:World):(method 481 251 v "Do").run Tryz.prog w= .ok (253,v) w:=yug
theorem yho(v:Value)(w:World):(method 481 253 v "Do").run Tryz.prog w= .ok (254,v) w:=yug
theorem ygr(v:Value)(w:World):(method 481 255 v "Do").run Tryz.prog w= .ok (255,v) w:=yug
theorem yfg(v:Value)(w:World):(method 481 257 v "Do").run Tryz.prog w= .ok (256,v) w:=yug
theorem ygs(v:Value)(w:World):(method 481 259 v "Do").run Tryz.prog w= .ok (257,v) w:=yug
theorem ygt(v:Value)(w:World):(method 481 262 v "Do").run Tryz.prog w= .ok (258,v) w:=yug
theorem yd6(v:Value)(w:World):(method 481 264 v "Do").run Tryz.prog w= .ok (259,v) w:=yug
theorem yhp(v:Value)(w:World):(method 481 266 v "Do").run Tryz.prog w= .ok (260,v) w:=yug
end Go.Proofs.YtkenoofmkbghiaaGreatDoor
