import Derived.Test.YtphcopbffecceaaGreatDoorP18
import Derived.Deep.DeepCutAuto
set_option maxRecDepth 100000
set_option maxHeartbeats 16000000
namespace Go.Proofs.YtphcopbffecceaaGreatDoor
open Go.RowKit
variable{w w3:World}{D:Nat->Prop}{lab:Nat->Nat×Nat}{bm g k mb n:Nat}{m:Nat->Int}{ts:List CT}{ic:Ic}{tv v:Value}
theorem zev{cp:Nat}(h:CMach D lab w bm mb tv m ts)(hD: ∀k,w.heap.size<=k->D k)(hk:k<ts.length)
  (ho:w3.ownsRow 0 88 9 (.slice (some ⟨g,0,none⟩) (ts[k].code.length+1) cp) (ts[k].code.length+1) (ts[k].code.flatMap Zw++Zw ic))
  (hc:Chg (λj _=>ts[k].cv.ownBlock=some j) w w3) (hg:ts[k].cv.ownBlock=some g\/g=w.heap.size):
  ∃lab',CMach D lab' (w3.setCell ⟨ts[k].b,0,none⟩ (.slice (some ⟨g,0,none⟩) (ts[k].code.length+1) cp)) bm mb tv m (ts.set k {ts[k] with cv:= .slice (some ⟨g,0,none⟩) (ts[k].code.length+1) cp,code:=ts[k].code++[ic]})/\Chg (λj _=>D j) w (w3.setCell ⟨ts[k].b,0,none⟩ (.slice (some ⟨g,0,none⟩) (ts[k].code.length+1) cp)):=by
 have lbm:=Qd h.sh
 have lmb:=Qd h.msh
 have hth:=h.th k hk
 have hlk:=h.lts k hk
 have ltb:=Qd hth.sh
 have hcl: ∀j,ts[k].cv.ownBlock=some j->j<w.heap.size:=λj hj=>(hth.crow.lt j hj).2
 have hset:Chg (λj i=>j=ts[k].b/\i=0) w3 (w3.setCell ⟨ts[k].b,0,none⟩ (.slice (some ⟨g,0,none⟩) (ts[k].code.length+1) cp)):=(Chg.refl (λj i=>j=ts[k].b/\i=0) w3).setCell (b:=ts[k].b) (o:=0) (λ_=>⟨rfl,rfl⟩) _
 have hall:Chg (λj i=>ts[k].cv.ownBlock=some j\/(j=ts[k].b/\i=0)) w (w3.setCell ⟨ts[k].b,0,none⟩ (.slice (some ⟨g,0,none⟩) (ts[k].code.length+1) cp)):=(hc.mono (λ_ _ _ e=> .inl e)).trans (hset.mono (λ_ _ _ e=> .inr e))
 have hgb:g≠ts[k].b:=by
  rcases hg with hg|hg
  ·intro e;exact Ev hlk.cv hlk.b.1 yaj (e▸hg)
  ·omega
 have hcod:(w3.setCell ⟨ts[k].b,0,none⟩ (.slice (some ⟨g,0,none⟩) (ts[k].code.length+1) cp)).cell? ⟨ts[k].b,0,none⟩=some (.slice (some ⟨g,0,none⟩) (ts[k].code.length+1) cp):=
  Qg ((hc.cell _ _ ltb (Ev hlk.cv hlk.b.1 yaj)).trans hth.codec) rfl
 generalize hW:w3.setCell ⟨ts[k].b,0,none⟩ (.slice (some ⟨g,0,none⟩) (ts[k].code.length+1) cp)=W at*
 let lab':Nat->Nat×Nat:=λj=>if j=g then (k+1,2) else lab j
 have hold: ∀j,j<w.heap.size->lab' j=lab j:=by
  intro j hj
  show (if j=g then _ else _)=_
  by_cases e:j=g
  ·rw [if_pos e]
   rcases hg with hg|hg
   ·rw [e];exact ((hlk.cv g hg).1).symm
   ·omega
  ·rw [if_neg e]
 have labs: ∀i (hi:i<ts.length),z5z D lab' i ts[i]:=λi hi=>by
  have l:=h.lts i hi
  have t:=h.th i hi
  exact ⟨⟨(hold _ (Qd t.sh)).trans l.b.1,l.b.2⟩,⟨(hold _ (Qd t.rsh)).trans l.rb.1,l.rb.2⟩,λg hg=>⟨(hold _ (t.crow.lt g hg).2).trans (l.cv g hg).1,(l.cv g hg).2⟩,λg hg=>⟨(hold _ (t.wrow.lt g hg).2).trans (l.wv g hg).1,(l.wv g hg).2⟩,λg hg=>⟨(hold _ (t.orow.lt g hg).2).trans (l.ov g hg).1,(l.ov g hg).2⟩⟩
 have notM: ∀j l,lab j=l->l≠(k+1,2)->l≠(k+1,0)->∀i,¬(ts[k].cv.ownBlock=some j\/(j=ts[k].b/\i=0)):=by
  rintro j l hj h1 h2 i (e|⟨e,_⟩)
  ·exact Ev hlk.cv hj h1 e
  ·exact h2 (hj.symm.trans (e▸hlk.b.1))
 have keepT: ∀o,o≠0->W.cell? ⟨ts[k].b,o,none⟩=w.cell? ⟨ts[k].b,o,none⟩:=λo ho'=>hall.cell _ _ ltb (by rintro (e|e);exact Ev hlk.cv hlk.b.1 yaj e;omega)
 refine ⟨lab',⟨(hall.shape _ lbm).trans h.sh,(hall.cell _ _ lbm (notM _ _ h.lb.1 yaj yaj _)).trans h.memc,(hall.cell _ _ lbm (notM _ _ h.lb.1 yaj yaj _)).trans h.tc,λj hj=>(hall.frozen _ _ lbm).trans (h.free j hj),(hall.shape _ lmb).trans h.msh,λj hj=>(hall.cell _ _ lmb (notM _ _ h.lm.1 yaj yaj _)).trans (h.mcell j hj),λj hj=>(hall.frozen _ _ lmb).trans (h.mfree j hj),?_,?_,⟨(hold _ lbm).trans h.lb.1,h.lb.2⟩,⟨(hold _ lmb).trans h.lm.1,h.lm.2⟩,λq hq=>⟨(hold _ (h.trow.lt q hq).2).trans (h.lt q hq).1,(h.lt q hq).2⟩,?_⟩,hall.mono ?_⟩
 ·have hr:=Qc h.trow hall (λq hq i=>notM _ _ (h.lt q hq).1 yaj yaj i)
  have e:(ts.set k {ts[k] with cv:= .slice (some ⟨g,0,none⟩) (ts[k].code.length+1) cp,code:=ts[k].code++[ic]}).map (λt=>ptr t.b)=ts.map λt=>ptr t.b:=by
   rw [List.map_set]
   apply List.ext_getElem
   ·simp
   ·intro j h1 h2
    rw [List.getElem_set]
    split
    ·rename_i e;subst e;simp
    ·rfl
  rw [e,List.length_set]
  exact hr
 ·intro i hi
  have hi':i<ts.length:=ybk
  rw [List.getElem_set]
  by_cases e:k=i
  ·subst e
   rw [if_pos rfl]
   exact {
    sh:=(hall.shape _ ltb).trans hth.sh
    codec:=hcod
    crow:=by
     have:=Qc ho hset (λq hq i e=>by simp [Value.ownBlock] at hq;omega)
     simpa using this
    pc:=(keepT 1 yal).trans hth.pc
    regs:=(keepT 2 yal).trans hth.regs
    rsh:=(hall.shape _ (Qd hth.rsh)).trans hth.rsh
    rcell:=λj hj=>(hall.cell _ _ (Qd hth.rsh) (notM _ _ hlk.rb.1 yaj yaj _)).trans (hth.rcell j hj)
    rfree:=λj hj=>(hall.frozen _ _ (Qd hth.rsh)).trans (hth.rfree j hj)
    waits:=(keepT 3 yal).trans hth.waits
    wrow:=Qc hth.wrow hall (λq hq i=>notM _ _ (hlk.wv q hq).1 yaj yaj i)
    outc:=(keepT 4 yal).trans hth.outc
    orow:=Qc hth.orow hall (λq hq i=>notM _ _ (hlk.ov q hq).1 yaj yaj i)
    state:=(keepT 5 yal).trans hth.state
    free:=λj hj=>(hall.frozen _ _ ltb).trans (hth.free j hj)}
  ·rw [if_neg e]
   have l:=h.lts i hi'
   have ne: ∀q x,lab q=(i+1,x)->∀j,¬(ts[k].cv.ownBlock=some q\/(q=ts[k].b/\j=0)):=λq x hq j=>notM q _ hq yan yan j
   exact (h.th i hi').keep hall (ne _ _ l.b.1) (ne _ _ l.rb.1) (λg hg=>ne _ _ (l.cv g hg).1) (λg hg=>ne _ _ (l.wv g hg).1) (λg hg=>ne _ _ (l.ov g hg).1)
 ·intro i hi
  have hi':i<ts.length:=ybk
  rw [List.getElem_set]
  by_cases e:k=i
  ·subst e
   rw [if_pos rfl]
   have l:=labs k hk
   refine ⟨l.b,l.rb,?_,l.wv,l.ov⟩
   intro q hq
   simp [Value.ownBlock] at hq
   subst hq
   refine ⟨?_,?_⟩
   ·show (if g=g then _ else _)=_
    rw [if_pos rfl]
   ·rcases hg with hg|hg
    ·exact (hlk.cv g hg).2
    ·exact hD g yai
  ·rw [if_neg e]
   exact labs i hi'
 ·rintro j i hj (e|⟨rfl,_⟩)
  ·exact (hlk.cv j e).2
  ·exact hlk.b.2
def zno(w:World)(ic:Ic):World:=((w.alloc (.cells #[.string (dOf ic).word, .int .i64 (dOf ic).d, .bool (dOf ic).a.reg, .int .i64 (dOf ic).a.v, .bool (dOf ic).b.reg, .int .i64 (dOf ic).b.v, .bool (dOf ic).c.reg, .int .i64 (dOf ic).c.v, .int .i64 (dOf ic).k] 88)).alloc (.cells #[.string (dOf ic).word, .int .i64 (dOf ic).d, .bool (dOf ic).a.reg, .int .i64 (dOf ic).a.v, .bool (dOf ic).b.reg, .int .i64 (dOf ic).b.v, .bool (dOf ic).c.reg, .int .i64 (dOf ic).c.v, .int .i64 (dOf ic).k] 88)).drew
theorem Uq(w:World)(ic:Ic):Chg (λ_ _=>False) w (zno w ic):=(((Chg.refl _ w).alloc _).alloc _).drew
theorem Gg(w:World)(ic:Ic):(zno w ic).heap.size=w.heap.size+2:=by simp [zno]
theorem zx8{e:TypeId}{sz:Nat}{xs:List Value}(h:w.ownsRow 0 e sz v n xs):(zno w ic).ownsRow 0 e sz v n xs:=Qc h (Uq w ic) (λ_ _ _ e=>e)
theorem zew(h:CMach D lab w bm mb tv m ts)(ic:Ic):CMach D lab (zno w ic) bm mb tv m ts:=h.keep (Uq w ic) (λ_ _ _ e=>e)
theorem zch(w:World)(ic:Ic): ∀j u',(Zw ic)[j]?=some u'->(zno w ic).cell? ((⟨w.heap.size+1,0,none⟩:Addr).add j)=some u':=by
 intro j u' hj
 have hs:(w.alloc (.cells #[.string (dOf ic).word, .int .i64 (dOf ic).d, .bool (dOf ic).a.reg, .int .i64 (dOf ic).a.v, .bool (dOf ic).b.reg, .int .i64 (dOf ic).b.v, .bool (dOf ic).c.reg, .int .i64 (dOf ic).c.v, .int .i64 (dOf ic).k] 88)).heap.size=w.heap.size+1:=yaj
 have:=World.cell?_alloc_new (w.alloc (.cells #[.string (dOf ic).word, .int .i64 (dOf ic).d, .bool (dOf ic).a.reg, .int .i64 (dOf ic).a.v, .bool (dOf ic).b.reg, .int .i64 (dOf ic).b.v, .bool (dOf ic).c.reg, .int .i64 (dOf ic).c.v, .int .i64 (dOf ic).k] 88)) (Zw ic).toArray 88 j
 rw [hs] at this
 have e:(⟨w.heap.size+1,0,none⟩:Addr).add j=⟨w.heap.size+1,j,none⟩:=by simp [Addr.add];omega
 rw [e]
 refine Eq.trans ?_ (this.trans ?_)
 ·rfl
 ·simpa using hj
theorem Oe(ic:Ic): ∀u'∈Zw ic,u'.oneCell'=true:=by
 intro u' hu
 simp only [Zw,List.mem_cons,List.not_mem_nil,or_false] at hu
 rcases hu with rfl|rfl|rfl|rfl|rfl|rfl|rfl|rfl|rfl<;>rfl
theorem zx9(h:CMach D lab w bm mb tv m ts)(hk:k<ts.length)(hc:Chg (λj _=>ts[k].cv.ownBlock=some j) (zno w ic) w3):w3.cell? ⟨ts[k].b,0,none⟩=some ts[k].cv:=
 (hc.cell _ 0 (by rw [Gg];have:=Qd (h.th k hk).sh;omega) (Ev (h.lts k hk).cv (h.lts k hk).b.1 yaj)).trans (((Uq w ic).cell _ 0 (Qd (h.th k hk).sh) (λe=>e)).trans (h.th k hk).codec)
theorem zya(h:CMach D lab w bm mb tv m ts)(hk:k<ts.length)(hc:Chg (λj _=>ts[k].cv.ownBlock=some j) (zno w ic) w3):w3.frozen? ⟨ts[k].b,0,none⟩=false:=
 (hc.frozen _ 0 (by rw [Gg];have:=Qd (h.th k hk).sh;omega)).trans (((Uq w ic).frozen _ 0 (Qd (h.th k hk).sh)).trans ((h.th k hk).free 0 yai))
theorem z4d(h:CMach D lab w bm mb tv m ts)(hk:k<ts.length)(hc:Chg (λj _=>ts[k].cv.ownBlock=some j) (zno w ic) w3):w3.cell? ⟨bm,1,none⟩=some tv:=
 (hc.cell _ 1 (by rw [Gg];have:=Qd h.sh;omega) (Ev (h.lts k hk).cv h.lb.1 yaj)).trans (((Uq w ic).cell _ 1 (Qd h.sh) (λe=>e)).trans h.tc)
theorem z4e{tg tk:Nat}(h:CMach D lab w bm mb (.slice (some ⟨tg,0,none⟩) n tk) m ts)(hk:k<ts.length)(htg:tg<w.heap.size)(hv:w.cell? ⟨tg,k,none⟩=some v)(hc:Chg (λj _=>ts[k].cv.ownBlock=some j) (zno w ic) w3):w3.cell? ⟨tg,k,none⟩=some v:=
 (hc.cell _ k (by rw [Gg];omega) (Ev (h.lts k hk).cv (h.lt tg rfl).1 yaj)).trans (((Uq w ic).cell _ k htg (λe=>e)).trans hv)
section
variable{D:Nat->Prop}{lab:Nat->Nat×Nat}{w:World}{bm mb bw c:Nat}{tv:Value}{m:Nat->Int}{ts:List CT}{us:List ByteArray}{u:ByteArray}
theorem zyb(h:CMach D lab w bm mb tv m ts)(hD: ∀k,w.heap.size<=k->D k)(k:Nat)(hk:ts.length=k+1)(hf:(ts[k]'(by omega)).code.length<4000)(hN:zcg u us)(hw:StrsAt w bw (u::us))(ic:Ic)(hk3:k<3)
  (hins:Hid (Cl 26 #[.slice (some ⟨bw,0,none⟩) (us.length+1) c] w λe w'=>e= .returned (.tuple #[Vm (dOf ic), .bool true])/\Below w.heap.size w w')):
  Cl 14 #[ptr bm, .slice (some ⟨bw,0,none⟩) (us.length+1) c] w λe w'=>e= .returned (.int .i64 0)/\(∃lab' cv,CMach D lab' w' bm mb tv m (ts.set k {ts[k]'(by omega) with cv:=cv,code:=(ts[k]'(by omega)).code++[ic]}))/\Chg (λj _=>D j) w w':=by
 obtain ⟨i0,hi,hz0,hz1,hz2⟩:=info_parts zx7
 have hc:=h.tc
 have h0:w.cell? ⟨bw,0,none⟩=some (.string u):=hw 0 yaj
 obtain ⟨ta,tk,rfl⟩:=Gf h.trow
 have H:=hid h
 clear h hw
 unfold Vm at hins
 rw [hk] at hc
 have hkk:wrap64 (((k+1:Nat):Int)- 1)=(k:Int):=yao
 have hk0: ¬(k:Int)<0:=yai
 have hkb:(k:Int)<(k:Int)+1:=yai
 go_enter Tryz.func14,Tryz.ntmps14
 go_upto_region 2 with fail
 go_cut [22] (λs22 wx=>s22= .bool false/\wx=w)
 case first=>
  rcases Oy hN with h1|⟨h1,h2⟩
  all_goals
   go_wp2_with fail
   go_meet
   case rel=>exact ⟨rfl,rfl⟩
 case rest=>
  obtain ⟨rfl,rfl⟩:=hcut
  go_wp2_with fail
  refine hins.out.mono ?_
  rintro e W1 ⟨rfl,b1⟩
  have H1:=H.out.below b1
  obtain ⟨tg,rfl,p1,p2⟩:=znn H1 hk
  have hth:=H1.th k yai
  have c0:=hth.codec
  have f0:=hth.free 0 yai
  obtain ⟨ca,ck,hcv⟩:=Gf hth.crow
  rw [hcv] at c0
  have hne: ¬((ts[k]'(by omega)).code.length:Int)=4000:=yai
  have hc1:=H1.tc
  rw [hk] at hc1
  have hl1:=Qd H1.sh
  have hl2:=Qd hth.sh
  have hl3:bm<W1.heap.size+1:=yai
  have hl4:(ts[k]'(by omega)).b<W1.heap.size+1:=yai
  have hl5:tg<W1.heap.size+1:=yai
  have B1:=hid b1
  have HH1:=hid H1
  have hkl:k<ts.length:=yai
  have HO1:=hid (zx8 (ic:=ic) hth.crow)
  rw [hcv] at HO1
  have hm1:(ts[k]'(by omega)).code.length+1<=maxLen:=yap
  have hm2:((ts[k]'(by omega)).code.length+1)*80<=140737488355328:=yai
  clear b1 hins H1 hth
  have HCB:Hid (∀w3,Chg (λj _=>(Value.slice ca (ts[k]'(by omega)).code.length ck).ownBlock=some j) (zno W1 ic) w3->w3.cell? ⟨(ts[k]'(by omega)).b,0,none⟩=some (.slice ca (ts[k]'(by omega)).code.length ck)):=hid (by rw [<-hcv];exact λw3 hch=>zx9 HH1.out hkl hch)
  have HFB:Hid (∀w3,Chg (λj _=>(Value.slice ca (ts[k]'(by omega)).code.length ck).ownBlock=some j) (zno W1 ic) w3->w3.frozen? ⟨(ts[k]'(by omega)).b,0,none⟩=false):=hid (by rw [<-hcv];exact λw3 hch=>zya HH1.out hkl hch)
  have HBM:Hid (∀w3,Chg (λj _=>(Value.slice ca (ts[k]'(by omega)).code.length ck).ownBlock=some j) (zno W1 ic) w3->w3.cell? ⟨bm,1,none⟩=some (.slice (some ⟨tg,0,none⟩) (k+1) tk)):=hid (by rw [<-hcv,<-hk];exact λw3 hch=>z4d HH1.out hkl hch)
  have HTG:Hid (∀w3,Chg (λj _=>(Value.slice ca (ts[k]'(by omega)).code.length ck).ownBlock=some j) (zno W1 ic) w3->w3.cell? ⟨tg,k,none⟩=some (ptr (ts[k]'(by omega)).b)):=hid (by rw [<-hcv];exact λw3 hch=>z4e HH1.out hkl p2 p1 hch)
  have hxb:(ts[k]'(by omega)).b≠bm:=λe=>by have h1:=(HH1.out.lts k hkl).b.1;rw [e,HH1.out.lb.1] at h1;simp at h1
  have hxt:(ts[k]'(by omega)).b≠tg:=λe=>by have h1:=(HH1.out.lts k hkl).b.1;rw [e,(HH1.out.lt tg rfl).1] at h1;simp at h1
  have HCV:=hid hcv
  clear hcv
  generalize hTb:(ts[k]'(by omega)).b=tb at*
  generalize hTl:(ts[k]'(by omega)).code.length=tl at*
  go_upto_region 12 with fail
  go_cut [61] (λs61 wx=>s61= .bool false/\wx=W1.alloc (.cells #[.string (dOf ic).word, .int .i64 (dOf ic).d, .bool (dOf ic).a.reg, .int .i64 (dOf ic).a.v, .bool (dOf ic).b.reg, .int .i64 (dOf ic).b.v, .bool (dOf ic).c.reg, .int .i64 (dOf ic).c.v, .int .i64 (dOf ic).k] 88))
  case first=>
   go_wp2_with fail
   go_meet
   case rel=>exact ⟨by rw [show ((tl:Int)==4000)=false from by simpa using hne],rfl⟩
  obtain ⟨rfl,rfl⟩:=hcut
  go_wp2_with fail
  refine wp_region_held_drew (S:=(λw'=>w'.cell? ⟨bm,1,none⟩=some (.slice (some ⟨tg,0,none⟩) (k+1) tk)/\w'.cell? ⟨tg,k,none⟩=some (ptr tb))) yak ?_ (λhHeld=>?_)
  ·(try dsimp only);go_keep
  refine Qa 0 (h:=Qa 1 (h:=Qa 2 (h:=Qa 3 (h:=Qa 4 (h:=Qa 5 (h:=Qa 6 (h:=Qa 7 (h:=Qa 8 (h:=Qa 9 (h:=Qa 10 (h:=Qa 11 (h:=Qa 12 (h:=Qa 13 (h:=Qa 14 (h:=Qa 15 (h:=?_))))))))))))))))
  refine z6u [16,17] (.cons rfl (λKQ hKQ=>?_) (.cons rfl (λKQ hKQ=>?_) .nil))
  go_simp
  refine hKQ.out _ _ ?_ (λhHeld=>?_)
  ·(try dsimp only);go_keep
  clear hKQ KQ
  refine z6u [17] (.cons rfl (λKQ hKQ=>?_) .nil)
  go_simp
  refine hKQ.out _ _ ?_ (λhHeld=>?_)
  ·(try dsimp only);go_keep
  clear hKQ KQ
  refine z6u [18] (.cons rfl (λKQ hKQ=>?_) .nil)
  go_simp
  rotate_left
  go_simp
  refine hKQ.out _ _ ?_ (λhHeld=>?_)
  ·(try dsimp only);go_keep
  clear hKQ KQ
  refine z6u [16,18] (.cons rfl (λKQ hKQ=>?_) (.cons rfl (λKQ hKQ=>?_) .nil))
  go_simp
  refine hKQ.out _ _ ?_ (λhHeld=>?_)
  ·(try dsimp only);go_keep
  clear hKQ KQ
  refine z6u [18] (.cons rfl (λKQ hKQ=>?_) .nil)
  go_simp
  rotate_left
  go_simp
  refine hKQ.out _ _ ?_ (λhHeld=>?_)
  ·(try dsimp only);go_keep
  clear hKQ KQ
  refine z6u [16] (.cons rfl (λKQ hKQ=>?_) .nil)
  go_simp
  rotate_left
  all_goals
   refine hKQ.out _ _ ?_ (λhHeld=>?_)
   ·(try dsimp only);go_keep
   clear hKQ KQ
   refine z6u [19] (.cons rfl (λKQ hKQ=>?_) .nil)
   (refine Je rfl (.tmp 78) (.tmp 80) 81 rfl 88 i0 (.agg #[.string ⟨#[]⟩, .int .i64 0, .bool false, .int .i64 0, .bool false, .int .i64 0, .bool false, .int .i64 0, .int .i64 0]) 9 80 yal Tryz.underlying81 hi hz0 hz1 hz2 rfl (.slice ca tl ck) tl ((ts[k]'(by omega)).code.flatMap Zw) rfl ?own ⟨W1.heap.size+1,0,none⟩ (Zw ic) rfl rfl ?cel (Oe ic) hm1 hm2 ?_;(case own=>exact HO1.out);(case cel=>exact zch W1 ic);intro q cp w3 ho hch hg;have hcb:=HCB.out w3 hch;have hfb:=HFB.out w3 hch;have hbb:=HBM.out w3 hch;have htt:=HTG.out w3 hch;have HO:=hid ho;have HC:=hid hch;have HG:=hid hg;clear ho hch hg)
   refine hKQ.out _ _ ?_ (λhHeld=>?_)
   ·(try dsimp only);go_keep
   clear hKQ KQ
   refine Qa 20 (h:=Qa 21 (h:=?_))
   refine z6u [22] (.cons rfl (λKQ hKQ=>?_) .nil)
   go_simp
   refine hKQ.out _ _ ?_ (λhHeld=>?_)
   ·(try dsimp only);go_keep
   clear hKQ KQ
   refine wpAnyH_done yak ?_ _
   go_wp2
   go_ret
   subst hTb
   subst hTl
   rw [<-HCV.out] at HC HG
   obtain ⟨lab',r1,r2⟩:=zev (zew HH1.out ic) (λj hj=>hD j (by rw [Gg] at hj;have:=B1.out.size;omega)) hkl HO.out HC.out HG.out
   exact ⟨rfl,⟨lab',_,r1⟩,((Chg.of_below B1.out).trans ((Uq W1 ic).mono (λ_ _ _ e=>e.elim))).trans r2⟩
end
def CLoads(D:Nat->Prop)(w:World)(bm:Nat)(acc:List (List Ic)):Prop:=
 ∃lab mb tv ts,CMach D lab w bm mb tv (λ_=>0) ts/\ts.map (λt=>t.code)=acc/\ ∀t∈ts,t.T=Th.init
section
variable{D:Nat->Prop}{w:World}{bm bw c:Nat}{us:List ByteArray}{u:ByteArray}{acc:List (List Ic)}
theorem CLoads.below{w':World}(h:CLoads D w bm acc)(hb:Below w.heap.size w w'):CLoads D w' bm acc:=by
 obtain ⟨lab,mb,tv,ts,h1,h2⟩:=h
 exact ⟨lab,mb,tv,ts,h1.below hb,h2⟩
theorem zyc(h:CLoads D w bm acc)(hacc:zqk acc)(hD: ∀k,w.heap.size<=k->D k)(hbw:bw<w.heap.size)(hw:StrsAt w bw (u::us)):
  Cl 14 #[ptr bm, .slice (some ⟨bw,0,none⟩) (us.length+1) c] w λe w'=>(match Gj (u::us) acc with
   | .ok acc'=>e= .returned (.int .i64 0)/\CLoads D w' bm acc'
   | .error er=>e= .returned (.int .i64 er))/\Chg (λj _=>D j) w w':=by
 obtain ⟨lab,mb,tv,ts,h1,h2,h3⟩:=h
 subst h2
 have hl3:ts.length<=3:=by have:=hacc.1;simpa using this
 by_cases hhead:us=[]/\u=Vj
 ·obtain ⟨rfl,rfl⟩:=hhead
  by_cases hfull:ts.length=3
  ·have e:Gj [Vj] (ts.map λt=>t.code)= .error 5:=by simp [Gj,hfull]
   rw [e]
   refine (zpw (c:=c) h1 hw hfull).mono ?_
   rintro e w' ⟨rfl,rfl⟩
   exact ⟨rfl,Chg.refl _ _⟩
  ·have e:Gj [Vj] (ts.map λt=>t.code)= .ok ((ts.map λt=>t.code)++[[]]):=by simp [Gj,hfull]
   rw [e]
   refine (zln (c:=c) h1 hD hw yai).mono ?_
   rintro e w' ⟨rfl,⟨lab',tv',t,g1,g2,g3⟩,g4⟩
   refine ⟨⟨rfl,lab',mb,tv',_,g1,by simp [g3],?_⟩,g4⟩
   intro x hx
   simp at hx
   rcases hx with hx|rfl
   ·exact h3 x hx
   ·exact g2
 ·have hN:zcg u us:=by
   by_cases e:us=[]
   ·exact .inr (λe2=>hhead ⟨e,e2⟩)
   ·exact .inl e
  have hlin:Gj (u::us) (ts.map λt=>t.code)=match zbm u us with
    |none=> .error 2
    |some (_,_::_)=> .error 2
    |some (ic,[])=>match (ts.map λt=>t.code).getLast? with
     |none=> .error 3
     |some c=>if c.length=4000 then .error 5 else .ok ((ts.map λt=>t.code).dropLast++[c++[ic]]):=by
   by_cases e:u=Vj
   ·subst e
    have hus:us≠[]:=λe=>hhead ⟨e,rfl⟩
    have:zbm Vj us=none:=by
     rw [zi4 yal]
     rfl
    rw [this]
    cases us with
    |nil=>exact absurd rfl hus
    |cons x xs=>simp [Gj]
   ·unfold Gj
    simp only [if_neg e]
    cases zbm u us with
    |none=>rfl
    |some p=>
     obtain ⟨ic,r⟩:=p
     cases r<;>rfl
  rw [hlin]
  have hany:=zx4 w bw c u us hbw hw
  cases hg:zbm u us with
  |none=>
   refine (zeu h1 hN hw (hid (hany.mono ?_))).mono ?_
   ·rintro e w' ⟨⟨i,ok,rfl,(⟨rfl,_⟩|⟨rfl,ic,hx,_⟩)⟩,hb⟩
    ·exact ⟨⟨i,rfl⟩,hb⟩
    ·rw [hg] at hx;cases hx
   ·rintro e w' ⟨rfl,hb⟩
    exact ⟨rfl,Chg.of_below hb⟩
  |some p=>
   obtain ⟨ic,r⟩:=p
   cases r with
   |cons x xs=>
    refine (zeu h1 hN hw (hid (hany.mono ?_))).mono ?_
    ·rintro e w' ⟨⟨i,ok,rfl,(⟨rfl,_⟩|⟨rfl,ic,hx,_⟩)⟩,hb⟩
     ·exact ⟨⟨i,rfl⟩,hb⟩
     ·rw [hg] at hx;simp at hx
    ·rintro e w' ⟨rfl,hb⟩
     exact ⟨rfl,Chg.of_below hb⟩
   |nil=>
    have hok:Cl 26 #[.slice (some ⟨bw,0,none⟩) (us.length+1) c] w λe w'=>e= .returned (.tuple #[Vm (dOf ic), .bool true])/\Below w.heap.size w w':=by
     refine hany.mono ?_
     rintro e w' ⟨⟨i,ok,rfl,(⟨rfl,hx|⟨ic',x,xs,hx⟩⟩|⟨rfl,ic',hx,rfl⟩)⟩,hb⟩
     ·rw [hg] at hx;cases hx
     ·rw [hg] at hx;simp at hx
     ·rw [hg] at hx
      simp at hx
      subst hx
      exact ⟨rfl,hb⟩
    have hok':=hok.mono (R':=λe w'=>(∃i,e= .returned (.tuple #[Vm i, .bool true]))/\Below w.heap.size w w') (λe w' h=>⟨⟨_,h.1⟩,h.2⟩)
    by_cases hts:ts=[]
    ·subst hts
     refine (zpx h1 hN hw hok').mono ?_
     rintro e w' ⟨rfl,hb⟩
     exact ⟨rfl,Chg.of_below hb⟩
    ·obtain ⟨k,hk⟩: ∃k,ts.length=k+1:=⟨ts.length- 1,by have:=List.length_pos_iff.2 hts;omega⟩
     have hlast:(ts.map λt=>t.code).getLast?=some (ts[k]'(by omega)).code:=by
      rw [List.getLast?_eq_getElem?]
      simp [hk]
     simp only [hlast]
     by_cases hf:(ts[k]'(by omega)).code.length=4000
     ·rw [if_pos hf]
      refine (zuf h1 k hk hf hN hw yai hok').mono ?_
      rintro e w' ⟨rfl,hb⟩
      exact ⟨rfl,Chg.of_below hb⟩
     ·rw [if_neg hf]
      have hle:(ts[k]'(by omega)).code.length<=4000:=(hacc.2 _ (List.mem_map.2 ⟨_,List.getElem_mem (show k<ts.length by omega),rfl⟩)).1
      refine (zyb h1 hD k hk yai hN hw ic yai hok).mono ?_
      rintro e w' ⟨rfl,⟨lab',cv,g1⟩,g2⟩
      refine ⟨⟨rfl,lab',mb,tv,_,g1,?_,?_⟩,g2⟩
      ·apply List.ext_getElem
       ·simp [hk]
       ·intro j j1 j2
        have hj:j<ts.length:=by simpa using j1
        simp only [List.getElem_map,List.getElem_set]
        by_cases e:k=j
        ·subst e
         rw [if_pos rfl,List.getElem_append_right (by simp [hk])]
         simp [hk]
        ·rw [if_neg e,List.getElem_append_left yan]
         simp
      ·intro x hx
       obtain ⟨j,hj,rfl⟩:=List.mem_iff_getElem.1 hx
       have hj':j<ts.length:=ya4
       rw [List.getElem_set]
       by_cases e:k=j
       ·subst e
        rw [if_pos rfl]
        exact h3 (ts[k]'hj') (List.getElem_mem hj')
       ·rw [if_neg e]
        exact h3 _ (List.getElem_mem hj')
end
theorem z1x(l r:List UInt8)(h:(10:UInt8)∉l):Lib.cut (l++10::r) [10]=(l,r,true):=by
 unfold Lib.cut
 rw [zc8 10 l r h,if_pos yai]
 simp
theorem zyd(l:List UInt8)(h:(10:UInt8)∉l):(Lib.cut l [10]).2.2=false:=by
 unfold Lib.cut
 rw [Fs 10 l h,if_neg yai]
def Gh(s:ByteArray)(a b:Nat):List UInt8:=(s.data.toList.drop a).take (b- a)
theorem zpy(s:ByteArray)(a b:Nat)(hab:a<=b)(hb:b<s.size):Gh s a (b+1)=Gh s a b++[s[b]]:=by
 unfold Gh
 have hl:b- a<(s.data.toList.drop a).length:=by rw [List.length_drop,Array.length_toList];show b- a<s.size- a;omega
 rw [show b+1- a=(b- a)+1 by omega,List.take_succ_eq_append_getElem hl]
 congr 2
 simp [ByteArray.getElem_eq_getElem_data,show a+(b- a)=b by omega]
theorem zpz(s:ByteArray)(a b:Nat)(hab:a<=b)(hb:b<s.size):s.data.toList.drop a=Gh s a b++s[b]::s.data.toList.drop (b+1):=by
 unfold Gh
 have hl:b<s.data.toList.length:=by rw [Array.length_toList];exact hb
 have h1:s.data.toList.drop b=s[b]::s.data.toList.drop (b+1):=by rw [List.drop_eq_getElem_cons hl];simp [ByteArray.getElem_eq_getElem_data]
 rw [<-h1]
 have:=(List.take_append_drop (b- a) (s.data.toList.drop a)).symm
 rw [List.drop_drop,show a+(b- a)=b by omega] at this
 exact this
theorem zug(s:ByteArray)(a:Nat):Gh s a s.size=s.data.toList.drop a:=by
 unfold Gh
 rw [List.take_of_length_le (by rw [List.length_drop,Array.length_toList];exact Nat.le_refl _)]
theorem zi9(s:ByteArray)(a b:Nat):s.extract a b=⟨(Gh s a b).toArray⟩:=by
 apply ByteArray.ext
 apply Array.ext'
 rw [ByteArray.data_extract]
 simp [Gh,List.extract_eq_take_drop]
structure z50(s:ByteArray)(D:Nat->Prop)(W0 W:World)(bm:Nat)(a n i:Nat)(R:Except (Int×Int) (List (List Ic))):Prop where
 le:a<=i
 na:n<=a
 no:(10:UInt8)∉Gh s a i
 mach: ∃f acc,s.size- a+1<=f/\zdo f (s.data.toList.drop a) n acc=R/\zqk acc/\CLoads D W bm acc
 bel:Below W0.heap.size W0 W
theorem zlo(W:World)(s:ByteArray)(h:131072<s.size):Cl 7 #[.string s] W λe w'=>e= .returned (.tuple #[.pointer none, .int .i64 1, .int .i64 0])/\w'=W:=by
 have h':(131072:Int)<(s.size:Int):=yai
 go_enter Tryz.func7,Tryz.ntmps7
 go_wp2
 go_ret3
 exact ⟨rfl,rfl⟩
theorem CLoads.new(W:World)(D:Nat->Prop)(hD: ∀k,W.heap.size<=k->D k):CLoads D ((W.alloc (.cells (Em 256) 2)).alloc (.cells #[.slice (some ⟨W.heap.size,0,none⟩) 256 256, .slice none 0 0] 37)) (W.heap.size+1) []:=by
 have hs:(W.alloc (.cells (Em 256) 2)).heap.size=W.heap.size+1:=yaj
 have c:=λo=>World.cell?_alloc_new (W.alloc (.cells (Em 256) 2)) #[.slice (some ⟨W.heap.size,0,none⟩) 256 256, .slice none 0 0] 37 o
 have sh:=Fi (W.alloc (.cells (Em 256) 2)) #[.slice (some ⟨W.heap.size,0,none⟩) 256 256, .slice none 0 0] 37
 rw [hs] at c sh
 refine ⟨λk=>if k=W.heap.size then (0,1) else (0,0),W.heap.size, .slice none 0 0,[],⟨sh,c 0,c 1,?_,?_,?_,?_,⟨rfl, .inl ⟨rfl,rfl⟩⟩,λi h=>absurd h yaj,?_,?_,λg e=>by simp [Value.ownBlock] at e,λi h=>absurd h yaj⟩,rfl,λt h=>by simp at h⟩
 ·intro j _
  rw [<-hs]
  simp
 ·exact (Jw (Below.heap_alloc _ _ _ yaj)).trans ((Fi W _ _).trans (by rw [zf2]))
 ·exact λj hj=>(World.cell?_alloc_past _ _ _ yaj).trans ((World.cell?_alloc_new W _ _ j).trans (zi6 256 j hj))
 ·exact λj _=>(World.frozen?_alloc_past _ _ _ yaj).trans yaj
 ·exact ⟨by simp,hD _ yai⟩
 ·exact ⟨by simp,hD _ (Nat.le_refl _)⟩
def zja(D:Nat->Prop)(W:World)(R:Except (Int×Int) (List (List Ic)))(e:Ending)(w':World):Prop:=(match R with
   | .ok acc=>e= .returned (.tuple #[ptr (W.heap.size+1), .int .i64 0, .int .i64 0])/\CLoads D w' (W.heap.size+1) acc/\zqk acc
   | .error (er,ln)=>e= .returned (.tuple #[.pointer none, .int .i64 er, .int .i64 ln]))/\Below W.heap.size W w'
theorem zuh{ws:List ByteArray}{acc:List (List Ic)}{er:Int}(h:Gj ws acc= .error er):er=2\/er=3\/er=5:=by
 unfold Gj at h
 repeat (first|(split at h)|(simp at h;omega)|simp at h)
theorem zye{W:World}{cap:Nat}{L:List (List UInt8)}(h:CutInv w W g cap L):StrsAt W g (L.map λx=>⟨x.toArray⟩):=z9f
theorem zlp(W:World)(s:ByteArray)(hs:s.size<=131072)(D:Nat->Prop)(hD: ∀k,W.heap.size<=k->D k)(hDo: ∀k,D k->W.heap.size<=k)(R:Except (Int×Int) (List (List Ic)))(hR:Hid (zdo (s.size+2) s.data.toList 0 []=R)):
  Cl 7 #[.string s] W (zja D W R):=by
 have hs': ¬(131072:Int)<(s.size:Int):=yai
 have hmk: ∀w,(Instr.makeSlice 34 (.int .i64 256) (.int .i64 256)).run Tryz.prog w= .ok (.slice (some ⟨w.heap.size,0,none⟩) 256 256) (w.alloc (.cells (Em 256) 2)):=λw=>zf3 256 yal w
 have HN:=hid (CLoads.new W D hD)
 go_enter Tryz.func7,Tryz.ntmps7
 go_wp2
 go_loopw [6,7,8] (λv6 v7 v8 wr=>∃(a n i:Nat),i<=s.size/\v6= .int .i64 a/\v7= .int .i64 n/\v8= .int .i64 i/\Hid (z50 s D W wr (W.heap.size+1) a n i R)) (λ_ _ v8 _=>s.size+1- (intOf v8).toNat)
 case atStart=>
  refine ⟨0,0,0,by omega,rfl,rfl,rfl,hid ⟨by omega,by omega,by simp [Gh],⟨s.size+2,[],by omega,by simpa using hR.out,⟨by simp,λc hc=>by simp at hc⟩,HN.out⟩,?_⟩⟩
  exact ((Below.refl _ W).alloc (Nat.le_refl _) _).alloc yaj _
 case round=>
  clear HN hmk
  obtain ⟨a,n,i,hi,rfl,rfl,rfl,HI⟩:=hrel
  have hai:=HI.out.le
  have hna:=HI.out.na
  have hi':(i:Int)<=(s.size:Int):=yai
  by_cases hlt:i<s.size
  ·have hlt':(i:Int)<(s.size:Int):=by omega
   have hne': ¬(i:Int)=(s.size:Int):=yai
   by_cases h10:s[i]=10
   ·have h10':(s[i].toNat:Int)=10:=by rw [h10];rfl
    have hai':(a:Int)<=(i:Int):=yai
    have hrest:=zpz s a i hai hlt
    rw [h10] at hrest
    obtain ⟨f,acc,hf,hg,hacc,hm⟩:=HI.out.mach
    obtain ⟨f,rfl⟩: ∃f',f=f'+1:=⟨f- 1,by omega⟩
    have hg2:(match Gj (Ql (Gh s a i)) acc with| .ok acc'=>zdo f (s.data.toList.drop (i+1)) (n+1) acc'| .error er=> .error (er,(n:Int)+1))=R:=by
     rw [<-hg,zdo,if_neg (by rw [hrest];simp),hrest,z1x _ _ HI.out.no]
     rfl
    have hbel:=HI.out.bel
    clear HI hrest hg h10
    go_wp2_with fail
    rw [zi9]
    refine (za6 wr ⟨(Gh s a i).toArray⟩ 32 (by rw [zgu];unfold Gh;simp;omega)).mono ?_
    rintro e W2 ⟨g,cap,rfl,hcut⟩
    have hcut':CutInv wr W2 g cap (Xe 32 (Gh s a i)):=hcut
    have hwl:Ql (Gh s a i)=(Xe 32 (Gh s a i)).map λx=>⟨x.toArray⟩:=Ix _
    have hst:=zye hcut'
    rw [<-hwl] at hst
    obtain ⟨u,us,hus⟩: ∃u us,Ql (Gh s a i)=u::us:=by
     cases h:Ql (Gh s a i) with
     |nil=>rw [hwl] at h;simp at h;exact absurd h (zb4 _ _)
     |cons u us=>exact ⟨u,us,rfl⟩
    have hlen:(Xe 32 (⟨(Gh s a i).toArray⟩:ByteArray).data.toList).length=us.length+1:=by
     have:=congrArg List.length hwl
     rw [hus] at this
     simpa using this.symm
    rw [hlen]
    rw [hus] at hst hg2
    have hm2:=hm.below (hcut'.bel.mono (Nat.le_refl _))
    have hrow:=zyc (c:=cap) hm2 hacc (λk hk=>hD k (by have:=hbel.size;have:=hcut'.bel.size;omega)) (bw:=g) (by obtain ⟨_,_,q3⟩:=Qm hcut'.own 0 (List.length_pos_iff.2 (zb4 _ _));exact q3) hst
    have HB2:=hid (hbel.trans (hcut'.bel.mono hbel.size))
    clear hcut hcut' hst hlen hwl hus hm hm2 hbel
    have hn1:wrap64 ((n:Int)+1)=(n:Int)+1:=yao
    cases hgl:Gj (u::us) acc with
    |ok acc'=>
     rw [hgl] at hrow hg2
     have hacc':=(zu8 hgl hacc).1
     have HROW:=hid hrow
     have HG2:=hid hg2
     clear hrow hg2
     go_wp2_with fail
     refine HROW.out.mono ?_
     rintro e W3 ⟨⟨rfl,hm3⟩,hc3⟩
     have HM3:=hid hm3
     have HC3:=hid hc3
     clear hm3 hc3 HROW
     go_wp2
     refine ⟨⟨i+1,n+1,i+1,by omega,by go_num,by go_num,by go_num,hid ⟨by omega,by omega,by simp [Gh],⟨f,acc',by omega,HG2.out,hacc',HM3.out⟩,?_⟩⟩,by simp [intOf];omega⟩
     exact HB2.out.trans (HC3.out.below HB2.out.size (λk _ hk=>hDo k hk))
    |error er=>
     rw [hgl] at hrow hg2
     have hRR:R= .error (er,(n:Int)+1):=hg2.symm
     subst hRR
     have her:=zuh hgl
     have her': ¬er=0:=yai
     have HROW:=hid hrow
     clear hrow hg2
     go_wp2_with fail
     refine HROW.out.mono ?_
     rintro e W3 ⟨rfl,hc3⟩
     have HC3:=hid hc3
     clear hc3 HROW
     go_wp2
     go_ret3
     exact ⟨rfl,HB2.out.trans (HC3.out.below HB2.out.size (λk _ hk=>hDo k hk))⟩
   ·have h10': ¬(s[i].toNat:Int)=10:=λe=>h10 (UInt8.toNat_inj.1 ycd)
    have hp:=zpy s a i hai hlt
    go_wp2
    refine ⟨⟨a,n,i+1,by omega,rfl,rfl,by go_num,hid ⟨by omega,by omega,?_,HI.out.mach,HI.out.bel⟩⟩,by simp [intOf];omega⟩
    rw [hp]
    simp only [List.mem_append,List.mem_singleton,not_or]
    exact ⟨HI.out.no,λe=>h10 e.symm⟩
  ·have hlt': ¬(i:Int)<(s.size:Int):=by omega
   obtain rfl:i=s.size:=yai
   obtain ⟨f,acc,hf,hg,hacc,hm⟩:=HI.out.mach
   obtain ⟨f,rfl⟩: ∃f',f=f'+1:=⟨f- 1,by omega⟩
   have hno:=HI.out.no
   rw [zug] at hno
   by_cases hz:a=s.size/\0<n
   ·have hz1:(a:Int)=(s.size:Int):=by omega
    have hz2:(0:Int)<(n:Int):=yai
    have hRR:R= .ok acc:=by
     rw [<-hg,zdo,if_pos ⟨List.drop_eq_nil_of_le (by rw [Array.length_toList,hz.1];exact Nat.le_refl _),by omega⟩]
    subst hRR
    have HB:=hid HI.out.bel
    have HM:=hid hm
    have HA:=hid hacc
    clear HI hg hno hm hacc
    go_wp2
    go_ret3
    exact ⟨⟨rfl,HM.out,HA.out⟩,HB.out⟩
   ·have hRR:R= .error (2,(n:Int)+1):=by
     rw [<-hg,zdo,if_neg (λe=>hz ⟨?_,by omega⟩)]
     ·have:=zyd _ hno
      split
      ·rfl
      ·rename_i h;rw [h] at this;cases this
     ·have:=congrArg List.length e.1
      simp at this
      have h2:s.data.size=s.size:=rfl
      omega
    subst hRR
    have hai':(a:Int)<=(s.size:Int):=yai
    have HB:=hid HI.out.bel
    clear HI hg hno hm hacc
    have hzz: ¬((a:Int)=(s.size:Int))\/((a:Int)=(s.size:Int)/\ ¬(0:Int)<(n:Int)):=yai
    rcases hzz with hz1|⟨hz1,hz2⟩
    ·go_wp2_with fail
     rw [zi9]
     refine (za6 wr ⟨(Gh s a s.size).toArray⟩ 32 (by rw [zgu];unfold Gh;simp;omega)).mono ?_
     rintro e W2 ⟨g,cap,rfl,hcut⟩
     have HC:=hid hcut
     clear hcut
     go_wp2
     go_ret3
     exact ⟨rfl,HB.out.trans (HC.out.bel.mono HB.out.size)⟩
    ·go_wp2_with fail
     refine (za6 wr ByteArray.empty 32 yal).mono ?_
     rintro e W2 ⟨g,cap,rfl,hcut⟩
     have HC:=hid hcut
     clear hcut
     go_wp2
     go_ret3
     exact ⟨rfl,HB.out.trans (HC.out.bel.mono HB.out.size)⟩
theorem zp0(W:World)(s:ByteArray)(D:Nat->Prop)(hD: ∀k,W.heap.size<=k->D k)(hDo: ∀k,D k->W.heap.size<=k):Cl 7 #[.string s] W (zja D W (zu9 s)):=by
 unfold zu9
 by_cases h:131072<s.size
 ·rw [if_pos h]
  refine (zlo W s h).mono ?_
  rintro e w' ⟨rfl,rfl⟩
  exact ⟨rfl,Below.refl _ _⟩
 ·rw [if_neg h]
  exact zlp W s yai D hD hDo _ rfl
end Go.Proofs.YtphcopbffecceaaGreatDoor
