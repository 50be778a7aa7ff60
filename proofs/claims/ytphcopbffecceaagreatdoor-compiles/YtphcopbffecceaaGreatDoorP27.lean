import Derived.Test.YtphcopbffecceaaGreatDoorP26
set_option maxRecDepth 100000
set_option maxHeartbeats 2000000
namespace Go.Proofs.YtphcopbffecceaaGreatDoor
open Go.RowKit
variable{L T a bp br c cap cn co cp ct g gn go gt n sz:Nat}{xs:List Value}{N:List NK}{os:List Nat}{k:NK}{x:Value}{w w3:World}{e:TypeId}{p:Option Addr}{dp:Int}
section
variable{D:Nat->Prop}{lab:Nat->Nat×Nat}{w:World}{m:DM}{d:DR}{u:ByteArray}
theorem DMach.addLocal(h:DMach D lab w m d)(hD: ∀k,w.heap.size<=k->D k)
  (ho:w3.ownsRow 0 9 1 (.slice (some ⟨g,0,none⟩) (d.locals.length+1) cp) (d.locals.length+1) (d.locals.map .string++[.string u]))
  (hc:Chg (λb _=>m.lv.ownBlock=some b) w w3) (hg:m.lv.ownBlock=some g\/w.heap.size<=g):
  ∃lab',DMach D lab' (w3.setCell ⟨m.br,4,none⟩ (.slice (some ⟨g,0,none⟩) (d.locals.length+1) cp)) {m with lv:= .slice (some ⟨g,0,none⟩) (d.locals.length+1) cp} {d with locals:=d.locals++[u]}:=by
 have lb:=Qd h.sh
 have lp:=Qd h.psh
 have nl: ¬m.lv.ownBlock=some m.br:=λe=>by have:=(h.ll _ e).1;rw [h.lb.1] at this;cases this
 have hset:Chg (λk j=>k=m.br/\j=4) w3 (w3.setCell ⟨m.br,4,none⟩ (.slice (some ⟨g,0,none⟩) (d.locals.length+1) cp)):=(Chg.refl _ w3).setCell (λ_=>⟨rfl,rfl⟩) _
 have hall:Chg (λk j=>m.lv.ownBlock=some k\/(k=m.br/\j=4)) w (w3.setCell ⟨m.br,4,none⟩ (.slice (some ⟨g,0,none⟩) (d.locals.length+1) cp)):=(hc.mono (λ_ _ _ e=> .inl e)).trans (hset.mono (λ_ _ _ e=> .inr e))
 have hgb:g≠m.br:=by
  rcases hg with e|e
  ·exact λe'=>nl (e'▸e)
  ·omega
 have hDg:D g:=by
  rcases hg with e|e
  ·exact (h.ll g e).2
  ·exact hD g yai
 have hold: ∀k,k<w.heap.size->(if k=g then (0,5) else lab k)=lab k:=by
  intro k hk
  by_cases e:k=g
  ·rw [if_pos e]
   rcases hg with hg|hg
   ·rw [e];exact (h.ll g hg).1.symm
   ·omega
  ·rw [if_neg e]
 have nk: ∀k l,lab k=l->l≠(0,5)->l≠(0,0)->∀j,¬(m.lv.ownBlock=some k\/(k=m.br/\j=4)):=λk l hk h1 h2 j e=>by
  rcases e with e|e
  ·exact h1 (hk.symm.trans (h.ll k e).1)
  ·exact h2 (hk.symm.trans (e.1▸h.lb.1))
 have kb: ∀j,j≠4->¬(m.lv.ownBlock=some m.br\/(m.br=m.br/\j=4)):=λj hj e=>e.elim nl (λe=>hj e.2)
 have kp:=nk m.bp _ h.lp.1 yal yal
 refine ⟨λk=>if k=g then (0,5) else lab k,{
  sh:=(hall.shape _ lb).trans h.sh
  psh:=(hall.shape _ lp).trans h.psh
  free:=λj=>(hall.frozen _ _ lb).trans (h.free j)
  pfree:=λj=>(hall.frozen _ _ lp).trans (h.pfree j)
  c0:=(hall.cell _ _ lb (kb 0 yai)).trans h.c0
  c1:=(hall.cell _ _ lb (kb 1 yai)).trans h.c1
  c2:=(hall.cell _ _ lb (kb 2 yai)).trans h.c2
  c3:=(hall.cell _ _ lb (kb 3 yai)).trans h.c3
  c4:=Qg ((hc.cell _ _ lb nl).trans h.c4) rfl
  c5:=(hall.cell _ _ lb (kb 5 yai)).trans h.c5
  c6:=(hall.cell _ _ lb (kb 6 yai)).trans h.c6
  c7:=(hall.cell _ _ lb (kb 7 yai)).trans h.c7
  p0:=(hall.cell _ _ lp (kp 0)).trans h.p0
  p1:=(hall.cell _ _ lp (kp 1)).trans h.p1
  p2:=(hall.cell _ _ lp (kp 2)).trans h.p2
  p3:=(hall.cell _ _ lp (kp 3)).trans h.p3
  srow:=Qc h.srow hall λq hq=>nk q _ (h.ls q hq).1 yal yal
  frow:=Qc h.frow hall λq hq=>nk q _ (h.lf q hq).1 yal yal
  zrow:=Qc h.zrow hall λq hq=>nk q _ (h.lz q hq).1 yal yal
  lrow:=z77
  orow:=Qc h.orow hall λq hq=>nk q _ (h.lo q hq).1 yal yal
  trow:=Qc h.trow hall λq hq=>nk q _ (h.lt q hq).1 yal yal
  crow:=Qc h.crow hall λq hq=>nk q _ (h.lc q hq).1 yal yal
  prow:=Qc h.prow hall λq hq=>nk q _ (h.lq q hq).1 yal yal
  thr:=h.thr
  th:=λi t ht=>(h.th i t ht).keep hall λq hq=>nk q _ (h.ln i t ht q hq).1 yaj yaj
  lb:=⟨(hold _ lb).trans h.lb.1,h.lb.2⟩
  lp:=⟨(hold _ lp).trans h.lp.1,h.lp.2⟩
  ls:=λq hq=>⟨(hold q (h.srow.lt q hq).2).trans (h.ls q hq).1,(h.ls q hq).2⟩
  lf:=λq hq=>⟨(hold q (h.frow.lt q hq).2).trans (h.lf q hq).1,(h.lf q hq).2⟩
  lz:=λq hq=>⟨(hold q (h.zrow.lt q hq).2).trans (h.lz q hq).1,(h.lz q hq).2⟩
  ll:=λq hq=>by
   simp [Value.ownBlock] at hq
   subst hq
   exact ⟨if_pos rfl,hDg⟩
  lo:=λq hq=>⟨(hold q (h.orow.lt q hq).2).trans (h.lo q hq).1,(h.lo q hq).2⟩
  lt:=λq hq=>⟨(hold q (h.trow.lt q hq).2).trans (h.lt q hq).1,(h.lt q hq).2⟩
  lc:=λq hq=>⟨(hold q (h.crow.lt q hq).2).trans (h.lc q hq).1,(h.lc q hq).2⟩
  lq:=λq hq=>⟨(hold q (h.prow.lt q hq).2).trans (h.lq q hq).1,(h.lq q hq).2⟩
  ln:=λi t ht q hq=>⟨(hold q ((h.th i t ht).row.lt q hq).2).trans (h.ln i t ht q hq).1,(h.ln i t ht q hq).2⟩
  lk:=λi t ht=>⟨(hold _ (Qd (h.th i t ht).ksh)).trans (h.lk i t ht).1,(h.lk i t ht).2⟩}⟩
end
section
variable{w:World}
theorem ziu:Cl 13 #[.slice none 0 0] w λe w'=>e= .returned (.tuple #[.int .i64 0, .int .i64 0])/\Below w.heap.size w w':=by
 have hb:Below w.heap.size w ((w.alloc (.cells #[.int .i64 1] 3)).alloc (.cells #[.int .i64 1] 3)):=((Below.refl _ w).alloc (Nat.le_refl _) _).alloc yaj _
 have HB:=hid hb
 clear hb
 go_enter Tryz.func13,Tryz.ntmps13
 go_wp2
 go_loopw [4,6,10] (λv4 v6 v10 wr=>v4= .int .i64 0/\v6= .int .i64 0/\v10= .int .i64 0/\Hid (Below w.heap.size w wr)) (λ_ _ _ _=>0)
 case atStart=>exact ⟨rfl,rfl,rfl,HB⟩
 case round=>
  obtain ⟨rfl,rfl,rfl,HW⟩:=hrel
  go_wp2
  refine ⟨rfl, .tuple #[.int .i64 0, .int .i64 0],?_,rfl,HW.out⟩
  simp [results,Tryz.results13,go_sem]
theorem z3y(c5:w.cell? ⟨br,5,none⟩=some (.slice p 0 c)):Cl 24 #[ptr br] w λe w'=>e= .returned (.int .i64 3)/\w'=w:=by
 have hlt:br<w.heap.size:=blt c5
 go_enter Tryz.func24,Tryz.ntmps24
 go_wp2
 go_ret
 exact ⟨rfl,rfl⟩
theorem zlc{wsv:Value}(c0:w.cell? ⟨br,0,none⟩=some (ptr bp))(p0:w.cell? ⟨bp,0,none⟩=some (.slice p n c))(hn:0<(n:Int)):Cl 23 #[ptr br,wsv] w λe w'=>e= .returned (.int .i64 3)/\w'=w:=by
 have hlt:br<w.heap.size:=blt c0
 have hlp:bp<w.heap.size:=blt p0
 go_enter Tryz.func23,Tryz.ntmps23
 go_wp2
 go_ret
 exact ⟨rfl,rfl⟩
end
section
variable{w:World}
theorem end_if(c0:w.cell? ⟨br,0,none⟩=some (ptr bp))(c5:w.cell? ⟨br,5,none⟩=some (.slice (some ⟨go,0,none⟩) (n+1) co))(f5:w.frozen? ⟨br,5,none⟩=false)
  (oc:w.cell? ⟨go,n,none⟩=some (.int .i64 (a:Int))) (p0:w.cell? ⟨bp,0,none⟩=some (.slice (some ⟨gt,0,none⟩) (T+1) ct)) (tc:w.cell? ⟨gt,T,none⟩=some (.slice (some ⟨gn,0,none⟩) L cn)) (ft:w.frozen? ⟨gt,T,none⟩=false)
  (kc:w.cell? ⟨gn,a*14,none⟩=some (.int .u8 122)) (xc:w.cell? ⟨gn,a*14+11,none⟩=some x) (fx:w.frozen? ⟨gn,a*14+11,none⟩=false)
  (hn:n<=3) (hT:T<=2000) (ha:a<L) (_hL:L<=1000) (hco:n+1<=co) (_n1:br≠bp) (_n2:br≠gn) (n3:br≠gt) (n4:gn≠bp) (n5:gn≠gt) (n6:br≠go):
  Cl 24 #[ptr br] w λe w'=>e= .returned (.int .i64 0)/\w'=((w.setCell ⟨br,5,none⟩ (.slice (some ⟨go,0,none⟩) n co)).setCell ⟨gn,a*14+11,none⟩ (.int .i64 (L:Int))).setCell ⟨gt,T,none⟩ (.slice (some ⟨gn,0,none⟩) L cn):=by
 have b0:br<w.heap.size:=blt c0
 have b1:bp<w.heap.size:=blt p0
 have b2:go<w.heap.size:=blt oc
 have b3:gt<w.heap.size:=blt tc
 have b4:gn<w.heap.size:=blt kc
 have e1:wrap64 (((n+1:Nat):Int)- 1)=(n:Int):=yao
 have e2:wrap64 (((T+1:Nat):Int)- 1)=(T:Int):=yao
 have hneg: ¬(n:Int)<0:=yai
 go_enter Tryz.func24,Tryz.ntmps24
 go_wp2
 go_ret
 exact ⟨rfl,rfl⟩
end
theorem Ox:(Tryz.prog.info? 77).map (λi=>(i.zero,i.size,i.bytes))=some (some (.agg #[.int .u8 0, .int .i64 0, .string ⟨#[]⟩, .bool false, .int .i64 0, .bool false, .int .i64 0, .bool false, .int .i64 0, .int .i64 0, .int .i64 0, .int .i64 0, .int .i64 0, .int .i64 0]),14,120):=yak
def zen:List Value:=[.int .u8 41, .int .i64 0, .string ⟨#[]⟩, .bool false, .int .i64 0, .bool false, .int .i64 0, .bool false, .int .i64 0, .int .i64 0, .int .i64 0, .int .i64 0, .int .i64 0, .int .i64 0]
theorem Fu(w:World)(us:List Value)(t:TypeId): ∀j u',us[j]?=some u'->(w.alloc (.cells us.toArray t)).cell? ((⟨w.heap.size,0,none⟩:Addr).add j)=some u':=by
 intro j u' hj
 have:((⟨w.heap.size,0,none⟩:Addr).add j)=⟨w.heap.size,j,none⟩:=by simp [Addr.add];exact λe=>e.symm
 rw [this]
 exact (World.cell?_alloc_new w us.toArray t j).trans ya4
theorem Zr(h:w.ownsRow 0 e sz (.slice (some ⟨g,0,none⟩) n cap) n xs)(j:Nat)(hj:j<n*sz):
  w.cell? ⟨g,j,none⟩=xs[j]?/\w.frozen? ⟨g,j,none⟩=false/\g<w.heap.size:=by
 rcases h.2 with ⟨h2,_⟩|⟨g',cap',cur,hv,_,hg,hn,hm,hs,ht⟩
 ·cases h2
 ·cases hv
  refine ⟨?_,by simp [World.frozen?,hg],(Array.getElem?_eq_some_iff.1 hg).1⟩
  rw [<-ht,List.getElem?_take,if_pos hj]
  simp [World.cell?,hg]
section
variable{w:World}
theorem end_at(c0:w.cell? ⟨br,0,none⟩=some (ptr bp))(c5:w.cell? ⟨br,5,none⟩=some (.slice (some ⟨go,0,none⟩) (n+1) co))(f5:w.frozen? ⟨br,5,none⟩=false)
  (oc:w.cell? ⟨go,n,none⟩=some (.int .i64 (a:Int))) (p0:w.cell? ⟨bp,0,none⟩=some (.slice (some ⟨gt,0,none⟩) (T+1) ct)) (tc:w.cell? ⟨gt,T,none⟩=some (.slice (some ⟨gn,0,none⟩) L cn)) (ft:w.frozen? ⟨gt,T,none⟩=false)
  (hr:w.ownsRow 0 77 14 (.slice (some ⟨gn,0,none⟩) L cn) L xs) (kc:w.cell? ⟨gn,a*14,none⟩=some (.int .u8 40)) (hx:xs[a*14+11]?=some x)
  (hn:n<=3) (hT:T<=2000) (ha:a<L) (hL:L<=1000) (hco:n+1<=co) (_n1:br≠bp) (n2:br≠gn) (n3:br≠gt) (n4:gn≠bp) (n5:gn≠gt) (_n6:br≠go):
  Cl 24 #[ptr br] w λe w'=>e= .returned (.int .i64 0)/\ ∃w3 g cp,w3.ownsRow 0 77 14 (.slice (some ⟨g,0,none⟩) (L+1) cp) (L+1) (xs++zen)/\
   Chg (λb _=>b=gn) ((w.setCell ⟨br,5,none⟩ (.slice (some ⟨go,0,none⟩) n co)).alloc (.cells zen.toArray 77)) w3/\(g=gn\/g=w.heap.size+1)/\
   w'=(w3.setCell ⟨g,a*14+11,none⟩ (.int .i64 ((L+1:Nat):Int))).setCell ⟨gt,T,none⟩ (.slice (some ⟨g,0,none⟩) (L+1) cp):=by
 have b0:br<w.heap.size:=blt c0
 have b1:bp<w.heap.size:=blt p0
 have b2:go<w.heap.size:=blt oc
 have b3:gt<w.heap.size:=blt tc
 have b4:gn<w.heap.size:=blt kc
 have e1:wrap64 (((n+1:Nat):Int)- 1)=(n:Int):=yao
 have e2:wrap64 (((T+1:Nat):Int)- 1)=(T:Int):=yao
 have hneg: ¬(n:Int)<0:=yai
 obtain ⟨i0,hi0,hz0,hz1,hz2⟩:=info_parts Ox
 have hl1:L+1<=maxLen:=yap
 have hl2:(L+1)*120<=140737488355328:=yai
 have HO:Hid (((w.setCell ⟨br,5,none⟩ (.slice (some ⟨go,0,none⟩) n co)).alloc (.cells zen.toArray 77)).ownsRow 0 77 14 (.slice (some ⟨gn,0,none⟩) L cn) L xs):=
  hid (Qc hr (((Chg.refl (λk j=>k=br/\j=5) w).setCell (λ_=>⟨rfl,rfl⟩) _).alloc _) (λg hg i e=>by simp [Value.ownBlock] at hg;exact n2 (e.1.symm.trans hg.symm)))
 have HCB:Hid (∀w3 g cp,Chg (λb _=>(Value.slice (some ⟨gn,0,none⟩) L cn).ownBlock=some b) ((w.setCell ⟨br,5,none⟩ (.slice (some ⟨go,0,none⟩) n co)).alloc (.cells zen.toArray 77)) w3->w3.ownsRow 0 77 14 (.slice (some ⟨g,0,none⟩) (L+1) cp) (L+1) (xs++zen) ->
   w3.cell? ⟨br,0,none⟩=some (ptr bp)/\w3.cell? ⟨bp,0,none⟩=some (.slice (some ⟨gt,0,none⟩) (T+1) ct)/\w3.cell? ⟨gt,T,none⟩=some (.slice (some ⟨gn,0,none⟩) L cn)/\w3.frozen? ⟨gt,T,none⟩=false/\w3.cell? ⟨g,a*14+11,none⟩=some x/\w3.frozen? ⟨g,a*14+11,none⟩=false):=hid (by
  intro w3 g cp hch hown
  have hch2:Chg (λk j=>k=gn\/(k=br/\j=5)) w w3:=((((Chg.refl (λk j=>k=br/\j=5) w).setCell (λ_=>⟨rfl,rfl⟩) _).alloc _).mono (λ_ _ _ e=> .inr e)).trans (hch.mono (λk _ _ e=> .inl (by simp [Value.ownBlock] at e;exact e.symm)))
  obtain ⟨q1,q2,_⟩:=Zr hown (a*14+11) yai
  refine ⟨(hch2.cell _ _ b0 ?_).trans c0,(hch2.cell _ _ b1 ?_).trans p0,(hch2.cell _ _ b3 ?_).trans tc,(hch2.frozen _ _ b3).trans ft,?_,q2⟩
  ·rintro (e|e)
   ·exact n2 e
   ·omega
  ·rintro (e|e)
   ·exact n4 e.symm
   ·omega
  ·rintro (e|e)
   ·exact n5 e.symm
   ·exact n3 e.1.symm
  ·rw [q1,List.getElem?_append_left (by rw [hr.1];omega)]
   exact hx)
 have HCN:Hid (∀(j:Nat) (u':Value),zen[j]?=some u'->((w.setCell ⟨br,5,none⟩ (.slice (some ⟨go,0,none⟩) n co)).alloc (.cells zen.toArray 77)).cell? ((⟨w.heap.size,0,none⟩:Addr).add j)=some u'):=hid (by
  have:=Fu (w.setCell ⟨br,5,none⟩ (.slice (some ⟨go,0,none⟩) n co)) zen 77
  rw [Jq] at this
  exact this)
 have HNE:Hid (∀g,((Value.slice (some ⟨gn,0,none⟩) L cn).ownBlock=some g\/g=((w.setCell ⟨br,5,none⟩ (.slice (some ⟨go,0,none⟩) n co)).alloc (.cells zen.toArray 77)).heap.size)->g≠br/\g≠bp/\g≠gt):=hid (by
  rintro g (e|e)
  ·simp [Value.ownBlock] at e
   subst e
   exact ⟨λq=>n2 q.symm,n4,n5⟩
  ·have:g=w.heap.size+1:=by rw [e];simp
   omega)
 clear hr hx
 go_enter Tryz.func24,Tryz.ntmps24
 go_wp2_with (at_builtin;refine zds rfl _ _ 59 rfl 77 i0 _ 14 120 yal Tryz.underlying59 hi0 hz0 hz1 hz2 rfl (.slice (some ⟨gn,0,none⟩) L cn) L xs rfl HO.out ⟨w.heap.size,0,none⟩ zen rfl rfl HCN.out yal hl1 hl2 ?_;go_must (intro g cp w3 hown1 hch hg;have hq:=HCB.out w3 g cp hch hown1;have hne:=HNE.out g hg;have m1:=hne.1;have m2:=hne.2.1;have m3:=hne.2.2;have ha2:a<L+1:=Nat.lt_succ_of_lt ha;have q0:=hq.1;have q1:=hq.2.1;have q2:=hq.2.2.1;have q3:=hq.2.2.2.1;have q4:=hq.2.2.2.2.1;have q5:=hq.2.2.2.2.2;have HO1:=hid hown1;have HC1:=hid hch;have HG1:=hid hg;clear hown1 hch hg hq hne))
 go_ret
 exact ⟨rfl,w3,g,cp,HO1.out,HC1.out.mono (λk _ _ e=>by simp [Value.ownBlock] at e;exact e.symm),by have:=HG1.out;simp [Value.ownBlock] at this;rcases this with e|e;exact .inl e.symm;exact .inr e,rfl⟩
end
def zcb(a:Nat)(dp:Int):List Value:=[.int .u8 98, .int .i64 0, .string ⟨#[]⟩, .bool false, .int .i64 0, .bool false, .int .i64 0, .bool false, .int .i64 0, .int .i64 0, .int .i64 0, .int .i64 ((a:Int)+1), .int .i64 0, .int .i64 dp]
theorem ztj(a:Nat)(dp:Int): ∀u'∈zcb a dp,u'.oneCell'=true:=by
 intro u' hu
 simp only [zcb,List.mem_cons,List.not_mem_nil,or_false] at hu
 rcases hu with rfl|rfl|rfl|rfl|rfl|rfl|rfl|rfl|rfl|rfl|rfl|rfl|rfl|rfl<;>rfl
section
variable{w:World}
theorem end_lp(c0:w.cell? ⟨br,0,none⟩=some (ptr bp))(c5:w.cell? ⟨br,5,none⟩=some (.slice (some ⟨go,0,none⟩) (n+1) co))(f5:w.frozen? ⟨br,5,none⟩=false)
  (oc:w.cell? ⟨go,n,none⟩=some (.int .i64 (a:Int))) (p0:w.cell? ⟨bp,0,none⟩=some (.slice (some ⟨gt,0,none⟩) (T+1) ct)) (tc:w.cell? ⟨gt,T,none⟩=some (.slice (some ⟨gn,0,none⟩) L cn)) (ft:w.frozen? ⟨gt,T,none⟩=false)
  (hr:w.ownsRow 0 77 14 (.slice (some ⟨gn,0,none⟩) L cn) L xs) (kc:w.cell? ⟨gn,a*14,none⟩=some (.int .u8 108)) (dc:w.cell? ⟨gn,a*14+13,none⟩=some (.int .i64 dp)) (hx:xs[a*14+11]?=some x)
  (hn:n<=3) (hT:T<=2000) (ha:a<L) (hL:L<=1000) (hco:n+1<=co) (_n1:br≠bp) (n2:br≠gn) (n3:br≠gt) (n4:gn≠bp) (n5:gn≠gt) (_n6:br≠go):
  Cl 24 #[ptr br] w λe w'=>e= .returned (.int .i64 0)/\ ∃w3 g cp,w3.ownsRow 0 77 14 (.slice (some ⟨g,0,none⟩) (L+1) cp) (L+1) (xs++(zcb a dp))/\
   Chg (λb _=>b=gn) ((w.setCell ⟨br,5,none⟩ (.slice (some ⟨go,0,none⟩) n co)).alloc (.cells (zcb a dp).toArray 77)) w3/\(g=gn\/g=w.heap.size+1)/\
   w'=(w3.setCell ⟨g,a*14+11,none⟩ (.int .i64 ((L+1:Nat):Int))).setCell ⟨gt,T,none⟩ (.slice (some ⟨g,0,none⟩) (L+1) cp):=by
 have b0:br<w.heap.size:=blt c0
 have b1:bp<w.heap.size:=blt p0
 have b2:go<w.heap.size:=blt oc
 have b3:gt<w.heap.size:=blt tc
 have b4:gn<w.heap.size:=blt kc
 have e1:wrap64 (((n+1:Nat):Int)- 1)=(n:Int):=yao
 have e2:wrap64 (((T+1:Nat):Int)- 1)=(T:Int):=yao
 have hneg: ¬(n:Int)<0:=yai
 obtain ⟨i0,hi0,hz0,hz1,hz2⟩:=info_parts Ox
 have hl1:L+1<=maxLen:=yap
 have hl2:(L+1)*120<=140737488355328:=yai
 have HO:Hid (((w.setCell ⟨br,5,none⟩ (.slice (some ⟨go,0,none⟩) n co)).alloc (.cells (zcb a dp).toArray 77)).ownsRow 0 77 14 (.slice (some ⟨gn,0,none⟩) L cn) L xs):=
  hid (Qc hr (((Chg.refl (λk j=>k=br/\j=5) w).setCell (λ_=>⟨rfl,rfl⟩) _).alloc _) (λg hg i e=>by simp [Value.ownBlock] at hg;exact n2 (e.1.symm.trans hg.symm)))
 have HCB:Hid (∀w3 g cp,Chg (λb _=>(Value.slice (some ⟨gn,0,none⟩) L cn).ownBlock=some b) ((w.setCell ⟨br,5,none⟩ (.slice (some ⟨go,0,none⟩) n co)).alloc (.cells (zcb a dp).toArray 77)) w3->w3.ownsRow 0 77 14 (.slice (some ⟨g,0,none⟩) (L+1) cp) (L+1) (xs++(zcb a dp)) ->
   w3.cell? ⟨br,0,none⟩=some (ptr bp)/\w3.cell? ⟨bp,0,none⟩=some (.slice (some ⟨gt,0,none⟩) (T+1) ct)/\w3.cell? ⟨gt,T,none⟩=some (.slice (some ⟨gn,0,none⟩) L cn)/\w3.frozen? ⟨gt,T,none⟩=false/\w3.cell? ⟨g,a*14+11,none⟩=some x/\w3.frozen? ⟨g,a*14+11,none⟩=false):=hid (by
  intro w3 g cp hch hown
  have hch2:Chg (λk j=>k=gn\/(k=br/\j=5)) w w3:=((((Chg.refl (λk j=>k=br/\j=5) w).setCell (λ_=>⟨rfl,rfl⟩) _).alloc _).mono (λ_ _ _ e=> .inr e)).trans (hch.mono (λk _ _ e=> .inl (by simp [Value.ownBlock] at e;exact e.symm)))
  obtain ⟨q1,q2,_⟩:=Zr hown (a*14+11) yai
  refine ⟨(hch2.cell _ _ b0 ?_).trans c0,(hch2.cell _ _ b1 ?_).trans p0,(hch2.cell _ _ b3 ?_).trans tc,(hch2.frozen _ _ b3).trans ft,?_,q2⟩
  ·rintro (e|e)
   ·exact n2 e
   ·omega
  ·rintro (e|e)
   ·exact n4 e.symm
   ·omega
  ·rintro (e|e)
   ·exact n5 e.symm
   ·exact n3 e.1.symm
  ·rw [q1,List.getElem?_append_left (by rw [hr.1];omega)]
   exact hx)
 have HCN:Hid (∀(j:Nat) (u':Value),(zcb a dp)[j]?=some u'->((w.setCell ⟨br,5,none⟩ (.slice (some ⟨go,0,none⟩) n co)).alloc (.cells (zcb a dp).toArray 77)).cell? ((⟨w.heap.size,0,none⟩:Addr).add j)=some u'):=hid (by
  have:=Fu (w.setCell ⟨br,5,none⟩ (.slice (some ⟨go,0,none⟩) n co)) (zcb a dp) 77
  rw [Jq] at this
  exact this)
 have HNE:Hid (∀g,((Value.slice (some ⟨gn,0,none⟩) L cn).ownBlock=some g\/g=((w.setCell ⟨br,5,none⟩ (.slice (some ⟨go,0,none⟩) n co)).alloc (.cells (zcb a dp).toArray 77)).heap.size)->g≠br/\g≠bp/\g≠gt):=hid (by
  rintro g (e|e)
  ·simp [Value.ownBlock] at e
   subst e
   exact ⟨λq=>n2 q.symm,n4,n5⟩
  ·have:g=w.heap.size+1:=by rw [e];simp
   omega)
 clear hr hx
 go_enter Tryz.func24,Tryz.ntmps24
 go_wp2_with (at_builtin;refine zds rfl _ _ 59 rfl 77 i0 _ 14 120 yal Tryz.underlying59 hi0 hz0 hz1 hz2 rfl (.slice (some ⟨gn,0,none⟩) L cn) L xs rfl HO.out ⟨w.heap.size,0,none⟩ (zcb a dp) rfl rfl HCN.out (ztj a dp) hl1 hl2 ?_;go_must (intro g cp w3 hown1 hch hg;have hq:=HCB.out w3 g cp hch hown1;have hne:=HNE.out g hg;have m1:=hne.1;have m2:=hne.2.1;have m3:=hne.2.2;have ha2:a<L+1:=Nat.lt_succ_of_lt ha;have q0:=hq.1;have q1:=hq.2.1;have q2:=hq.2.2.1;have q3:=hq.2.2.2.1;have q4:=hq.2.2.2.2.1;have q5:=hq.2.2.2.2.2;have HO1:=hid hown1;have HC1:=hid hch;have HG1:=hid hg;clear hown1 hch hg hq hne))
 go_ret
 exact ⟨rfl,w3,g,cp,HO1.out,HC1.out.mono (λk _ _ e=>by simp [Value.ownBlock] at e;exact e.symm),by have:=HG1.out;simp [Value.ownBlock] at this;rcases this with e|e;exact .inl e.symm;exact .inr e,rfl⟩
end
theorem zg2(h:w.ownsRow 0 e sz (.slice (some ⟨g,0,none⟩) n cap) n xs)(j:Nat)(u:Value):
  (w.setCell ⟨g,j,none⟩ u).ownsRow 0 e sz (.slice (some ⟨g,0,none⟩) n cap) n (xs.set j u):=by
 refine ⟨by simpa using h.1,?_⟩
 rcases h.2 with ⟨h2,_⟩|⟨g',cap',cur,hv,hb,hg,hn,hm,hs,ht⟩
 ·cases h2
 ·exact z8e
theorem NodesAt.set(h:NodesAt xs N)(a:Nat)(v:Value):NodesAt (xs.set (a*14+11) v) N where
 len:=by rw [List.length_set];exact h.len
 kind:=λi k hi=>by rw [List.getElem?_set_ne yai];exact h.kind i k hi
 n:=λi k hi=>by rw [List.getElem?_set_ne yai];exact h.n i k hi
 deep:=λi hi=>by
  obtain ⟨v',hv⟩:=h.deep i hi
  exact ⟨v',by rw [List.getElem?_set_ne yai];exact hv⟩
theorem NodesAt.app{us:List Value}(h:NodesAt xs N)(hl:us.length=14)(h0:us[0]?=some (.int .u8 (k.1:Int)))(h12:us[12]?=some (.int .i64 k.2))(h13:us[13]?=some (.int .i64 dp)):NodesAt (xs++us) (N++[k]) where
 len:=by rw [List.length_append,List.length_append,h.len,hl,List.length_singleton];omega
 kind:=λi q hi=>by
  have hxl:=h.len
  by_cases c:i<N.length
  ·rw [List.getElem?_append_left c] at hi
   rw [List.getElem?_append_left yai]
   exact h.kind i q hi
  ·have:i=N.length:=by
    have:=(List.getElem?_eq_some_iff.1 hi).1
    rw [List.length_append,List.length_singleton] at this
    omega
   subst this
   have:q=k:=by simpa using hi.symm
   subst this
   rw [List.getElem?_append_right yai,hxl,Nat.sub_self]
   exact h0
 n:=λi q hi=>by
  have hxl:=h.len
  by_cases c:i<N.length
  ·rw [List.getElem?_append_left c] at hi
   rw [List.getElem?_append_left yai]
   exact h.n i q hi
  ·have:i=N.length:=by
    have:=(List.getElem?_eq_some_iff.1 hi).1
    rw [List.length_append,List.length_singleton] at this
    omega
   subst this
   have:q=k:=by simpa using hi.symm
   subst this
   rw [List.getElem?_append_right yai,hxl,Nat.add_sub_cancel_left]
   exact h12
 deep:=λi hi=>by
  have hxl:=h.len
  by_cases c:i<N.length
  ·obtain ⟨v',hv⟩:=h.deep i c
   exact ⟨v',by rw [List.getElem?_append_left yai];exact hv⟩
  ·have:i=N.length:=by
    rw [List.length_append,List.length_singleton] at hi
    omega
   subst this
   refine ⟨dp,?_⟩
   rw [List.getElem?_append_right yai,hxl,Nat.add_sub_cancel_left]
   exact h13
section
variable{D:Nat->Prop}{lab:Nat->Nat×Nat}{w:World}{m:DM}{d:DR}
theorem DMach.popOpen(h:DMach D lab w m d)(ho:d.opn=os++[a])(hv:m.ov= .slice (some ⟨go,0,none⟩) (os.length+1) co):
  DMach D lab (w.setCell ⟨m.br,5,none⟩ (.slice (some ⟨go,0,none⟩) os.length co)) {m with ov:= .slice (some ⟨go,0,none⟩) os.length co} {d with opn:=os}:=by
 have lb:=Qd h.sh
 have lp:=Qd h.psh
 have hall:Chg (λk j=>k=m.br/\j=5) w (w.setCell ⟨m.br,5,none⟩ (.slice (some ⟨go,0,none⟩) os.length co)):=(Chg.refl _ w).setCell (λ_=>⟨rfl,rfl⟩) _
 have nk: ∀k l,lab k=l->l≠(0,0)->∀j,¬(k=m.br/\j=5):=λk l hk h2 j e=>h2 (hk.symm.trans (e.1▸h.lb.1))
 have kb: ∀j,j≠5->¬(m.br=m.br/\j=5):=λj hj e=>hj e.2
 have kp:=nk m.bp _ h.lp.1 yal
 have hl:d.opn.length=os.length+1:=yas
 exact {h with
  sh:=(hall.shape _ lb).trans h.sh
  psh:=(hall.shape _ lp).trans h.psh
  free:=λj=>(hall.frozen _ _ lb).trans (h.free j)
  pfree:=λj=>(hall.frozen _ _ lp).trans (h.pfree j)
  c0:=(hall.cell _ _ lb (kb 0 yai)).trans h.c0
  c1:=(hall.cell _ _ lb (kb 1 yai)).trans h.c1
  c2:=(hall.cell _ _ lb (kb 2 yai)).trans h.c2
  c3:=(hall.cell _ _ lb (kb 3 yai)).trans h.c3
  c4:=(hall.cell _ _ lb (kb 4 yai)).trans h.c4
  c5:=Qg h.c5 rfl
  c6:=(hall.cell _ _ lb (kb 6 yai)).trans h.c6
  c7:=(hall.cell _ _ lb (kb 7 yai)).trans h.c7
  p0:=(hall.cell _ _ lp (kp 0)).trans h.p0
  p1:=(hall.cell _ _ lp (kp 1)).trans h.p1
  p2:=(hall.cell _ _ lp (kp 2)).trans h.p2
  p3:=(hall.cell _ _ lp (kp 3)).trans h.p3
  srow:=Qc h.srow hall λq hq=>nk q _ (h.ls q hq).1 yal
  frow:=Qc h.frow hall λq hq=>nk q _ (h.lf q hq).1 yal
  zrow:=Qc h.zrow hall λq hq=>nk q _ (h.lz q hq).1 yal
  lrow:=Qc h.lrow hall λq hq=>nk q _ (h.ll q hq).1 yal
  orow:=by
   have h1:=Qc h.orow hall λq hq=>nk q _ (h.lo q hq).1 yal
   rw [hl,hv] at h1
   have h2:=zkx h1 (Nat.le_succ os.length)
   have e:(d.opn.map λ(k:Nat)=>Value.int .i64 (k:Int)).take os.length=os.map λ(k:Nat)=>Value.int .i64 (k:Int):=yas
   rw [e] at h2
   exact h2
  trow:=Qc h.trow hall λq hq=>nk q _ (h.lt q hq).1 yal
  crow:=Qc h.crow hall λq hq=>nk q _ (h.lc q hq).1 yal
  prow:=Qc h.prow hall λq hq=>nk q _ (h.lq q hq).1 yal
  th:=λi t ht=>(h.th i t ht).keep hall λq hq=>nk q _ (h.ln i t ht q hq).1 yaj
  lo:=λq hq=>h.lo q (by rw [hv];exact hq)}
end
section
variable{D:Nat->Prop}{lab:Nat->Nat×Nat}{w:World}{m:DM}{d:DR}
theorem Sl(h:DMach D lab w m d):m.ts.length=d.thr.length:=by rw [<-h.thr,List.length_map]
theorem DMach.setThr(h:DMach D lab w m d)(hD: ∀k,w.heap.size<=k->D k){tl:List DT}{t:DT}(hts:m.ts=tl++[t])(hv:m.tv= .slice (some ⟨gt,0,none⟩) (tl.length+1) ct)
  (ho:w3.ownsRow 0 77 14 (.slice (some ⟨g,0,none⟩) N.length cp) N.length xs) (hN:NodesAt xs N)
  (hc:Chg (λb _=>t.nv.ownBlock=some b) w w3) (hg:t.nv.ownBlock=some g\/w.heap.size<=g):
  ∃lab',DMach D lab' (w3.setCell ⟨gt,tl.length,none⟩ (.slice (some ⟨g,0,none⟩) N.length cp)) {m with ts:=tl++[⟨.slice (some ⟨g,0,none⟩) N.length cp,t.kb,xs,N⟩]} {d with thr:=d.thr.dropLast++[N]}:=by
 have lb:=Qd h.sh
 have lp:=Qd h.psh
 have hti:m.ts[tl.length]?=some t:=ybo
 have hln:=h.ln tl.length t hti
 have hgt:lab gt=(0,7)/\D gt:=h.lt gt (by rw [hv];rfl)
 have bgt:gt<w.heap.size:=(h.trow.lt gt (by rw [hv];rfl)).2
 have hlen:=Sl h
 have htl:d.thr.length=tl.length+1:=yb3
 have hset:Chg (λk j=>k=gt/\j=tl.length) w3 (w3.setCell ⟨gt,tl.length,none⟩ (.slice (some ⟨g,0,none⟩) N.length cp)):=(Chg.refl _ w3).setCell (λ_=>⟨rfl,rfl⟩) _
 have hall:Chg (λk j=>t.nv.ownBlock=some k\/(k=gt/\j=tl.length)) w (w3.setCell ⟨gt,tl.length,none⟩ (.slice (some ⟨g,0,none⟩) N.length cp)):=(hc.mono (λ_ _ _ e=> .inl e)).trans (hset.mono (λ_ _ _ e=> .inr e))
 have hggt:g≠gt:=by
  rcases hg with e|e
  ·intro q
   have:=(hln g e).1
   rw [q,hgt.1] at this
   simp at this
  ·omega
 have hDg:D g:=by
  rcases hg with e|e
  ·exact (hln g e).2
  ·exact hD g e
 have hold: ∀k,k<w.heap.size->(if k=g then (tl.length+1,0) else lab k)=lab k:=by
  intro k hk
  by_cases e:k=g
  ·rw [if_pos e]
   rcases hg with hg|hg
   ·rw [e];exact (hln g hg).1.symm
   ·omega
  ·rw [if_neg e]
 have nk: ∀k l,lab k=l->l≠(tl.length+1,0)->l≠(0,7)->∀j,¬(t.nv.ownBlock=some k\/(k=gt/\j=tl.length)):=λk l hk h1 h2 j e=>by
  rcases e with e|e
  ·exact h1 (hk.symm.trans (hln k e).1)
  ·exact h2 (hk.symm.trans (e.1▸hgt.1))
 have kb:=nk m.br _ h.lb.1 yaj yal
 have kp:=nk m.bp _ h.lp.1 yaj yal
 have hnew: ∀(i:Nat) (q:DT),(tl++[⟨.slice (some ⟨g,0,none⟩) N.length cp,t.kb,xs,N⟩])[i]?=some q->(i<tl.length/\m.ts[i]?=some q)\/(i=tl.length/\q=⟨.slice (some ⟨g,0,none⟩) N.length cp,t.kb,xs,N⟩):=by
  intro i q hi
  by_cases c:i<tl.length
  ·rw [List.getElem?_append_left c] at hi
   exact .inl ⟨c,by rw [hts,List.getElem?_append_left c];exact hi⟩
  ·have:i=tl.length:=by
    have:=(List.getElem?_eq_some_iff.1 hi).1
    rw [List.length_append,List.length_singleton] at this
    omega
   subst this
   exact .inr ⟨rfl,by simpa using hi.symm⟩
 have hlen':(d.thr.dropLast++[N]).length=d.thr.length:=by rw [List.length_append,List.length_dropLast,List.length_singleton];omega
 refine ⟨λk=>if k=g then (tl.length+1,0) else lab k,{
  sh:=(hall.shape _ lb).trans h.sh
  psh:=(hall.shape _ lp).trans h.psh
  free:=λj=>(hall.frozen _ _ lb).trans (h.free j)
  pfree:=λj=>(hall.frozen _ _ lp).trans (h.pfree j)
  c0:=(hall.cell _ _ lb (kb 0)).trans h.c0
  c1:=(hall.cell _ _ lb (kb 1)).trans h.c1
  c2:=(hall.cell _ _ lb (kb 2)).trans h.c2
  c3:=(hall.cell _ _ lb (kb 3)).trans h.c3
  c4:=(hall.cell _ _ lb (kb 4)).trans h.c4
  c5:=(hall.cell _ _ lb (kb 5)).trans h.c5
  c6:=(hall.cell _ _ lb (kb 6)).trans h.c6
  c7:=(hall.cell _ _ lb (kb 7)).trans h.c7
  p0:=(hall.cell _ _ lp (kp 0)).trans h.p0
  p1:=(hall.cell _ _ lp (kp 1)).trans h.p1
  p2:=(hall.cell _ _ lp (kp 2)).trans h.p2
  p3:=(hall.cell _ _ lp (kp 3)).trans h.p3
  srow:=Qc h.srow hall λq hq=>nk q _ (h.ls q hq).1 yaj yal
  frow:=Qc h.frow hall λq hq=>nk q _ (h.lf q hq).1 yaj yal
  zrow:=Qc h.zrow hall λq hq=>nk q _ (h.lz q hq).1 yaj yal
  lrow:=Qc h.lrow hall λq hq=>nk q _ (h.ll q hq).1 yaj yal
  orow:=Qc h.orow hall λq hq=>nk q _ (h.lo q hq).1 yaj yal
  trow:=by
   have h1:=Qc h.trow hc λq hq i e=>by
    have:=(hln q e).1
    rw [(h.lt q hq).1] at this
    simp at this
   rw [htl,hv] at h1
   have h2:=Ut h1 tl.length (.slice (some ⟨g,0,none⟩) N.length cp)
   show World.ownsRow _ 0 59 1 m.tv (d.thr.dropLast++[N]).length _
   rw [hlen',htl,hv]
   have e:(m.ts.map DT.nv).set tl.length (.slice (some ⟨g,0,none⟩) N.length cp)=(tl++[(⟨.slice (some ⟨g,0,none⟩) N.length cp,t.kb,xs,N⟩:DT)]).map DT.nv:=ybo
   rw [e] at h2
   exact h2
  crow:=by
   have h1:=Qc h.crow hall λq hq=>nk q _ (h.lc q hq).1 yaj yal
   show World.ownsRow _ 0 40 1 m.cv (d.thr.dropLast++[N]).length _
   rw [hlen']
   rw [hts] at h1
   simpa using h1
  prow:=by
   have h1:=Qc h.prow hall λq hq=>nk q _ (h.lq q hq).1 yaj yal
   show World.ownsRow _ 0 4 1 m.pv (d.thr.dropLast++[N]).length _
   rw [hlen']
   exact h1
  thr:=by
   show (tl++[_]).map DT.N=d.thr.dropLast++[N]
   rw [<-h.thr,hts]
   simp
  th:=λi q hq=>by
   rcases hnew i q hq with ⟨c,hq'⟩|⟨_,rfl⟩
   ·refine (h.th i q hq').keep hall λb hb=>nk b _ (h.ln i q hq' b hb).1 yan yaj
   ·have ht:=h.th tl.length t hti
    have hk:=Qd ht.ksh
    exact ⟨Qc ho hset (λk hk j e=>by simp [Value.ownBlock] at hk;exact hggt (hk.trans e.1)),hN,(hall.shape _ hk).trans ht.ksh,λj=>(hall.frozen _ _ hk).trans (ht.kfree j)⟩
  lb:=⟨(hold _ lb).trans h.lb.1,h.lb.2⟩
  lp:=⟨(hold _ lp).trans h.lp.1,h.lp.2⟩
  ls:=λq hq=>⟨(hold q (h.srow.lt q hq).2).trans (h.ls q hq).1,(h.ls q hq).2⟩
  lf:=λq hq=>⟨(hold q (h.frow.lt q hq).2).trans (h.lf q hq).1,(h.lf q hq).2⟩
  lz:=λq hq=>⟨(hold q (h.zrow.lt q hq).2).trans (h.lz q hq).1,(h.lz q hq).2⟩
  ll:=λq hq=>⟨(hold q (h.lrow.lt q hq).2).trans (h.ll q hq).1,(h.ll q hq).2⟩
  lo:=λq hq=>⟨(hold q (h.orow.lt q hq).2).trans (h.lo q hq).1,(h.lo q hq).2⟩
  lt:=λq hq=>⟨(hold q (h.trow.lt q hq).2).trans (h.lt q hq).1,(h.lt q hq).2⟩
  lc:=λq hq=>⟨(hold q (h.crow.lt q hq).2).trans (h.lc q hq).1,(h.lc q hq).2⟩
  lq:=λq hq=>⟨(hold q (h.prow.lt q hq).2).trans (h.lq q hq).1,(h.lq q hq).2⟩
  ln:=λi q hq b hb=>by
   rcases hnew i q hq with ⟨_,hq'⟩|⟨rfl,rfl⟩
   ·exact ⟨(hold b ((h.th i q hq').row.lt b hb).2).trans (h.ln i q hq' b hb).1,(h.ln i q hq' b hb).2⟩
   ·simp [Value.ownBlock] at hb
    subst hb
    exact ⟨if_pos rfl,hDg⟩
  lk:=λi q hq=>by
   rcases hnew i q hq with ⟨_,hq'⟩|⟨rfl,rfl⟩
   ·exact ⟨(hold _ (Qd (h.th i q hq').ksh)).trans (h.lk i q hq').1,(h.lk i q hq').2⟩
   ·exact ⟨(hold _ (Qd (h.th _ t hti).ksh)).trans (h.lk _ t hti).1,(h.lk _ t hti).2⟩}⟩
end
theorem Za{v:Value}(h:w.ownsRow 0 e sz v n xs)(hn:0<n): ∃g cap,v= .slice (some ⟨g,0,none⟩) n cap/\n<=cap:=by
 rcases h.2 with ⟨_,e2⟩|⟨g,cap,cur,e1,_,_,hc,_⟩
 ·omega
 ·exact ⟨g,cap,e1,hc⟩
section
variable{D:Nat->Prop}{lab:Nat->Nat×Nat}{w:World}{m:DM}{d:DR}
structure z5u(w:World)(m:DM)(d:DR)(os:List Nat)(a:Nat)(N:List NK)(go co gt ct gn cn:Nat)(tl:List DT)(t:DT):Prop where
 ov:m.ov= .slice (some ⟨go,0,none⟩) (os.length+1) co
 hco:os.length+1<=co
 tv:m.tv= .slice (some ⟨gt,0,none⟩) (tl.length+1) ct
 ts:m.ts=tl++[t]
 tN:t.N=N
 nv:t.nv= .slice (some ⟨gn,0,none⟩) N.length cn
 oc:w.cell? ⟨go,os.length,none⟩=some (.int .i64 (a:Int))
 tc:w.cell? ⟨gt,tl.length,none⟩=some (.slice (some ⟨gn,0,none⟩) N.length cn)
 ft:w.frozen? ⟨gt,tl.length,none⟩=false
 n2:m.br≠gn
 n3:m.br≠gt
 n4:gn≠m.bp
 n5:gn≠gt
 n6:m.br≠go
 n1:m.br≠m.bp
theorem DMach.endAt(h:DMach D lab w m d)(ho:d.opn=os++[a])(hN:d.thr.getLast?=some N)(ha:a<N.length): ∃go co gt ct gn cn tl t,z5u w m d os a N go co gt ct gn cn tl t:=by
 have hol:d.opn.length=os.length+1:=yas
 have hlen:=Sl h
 have hne:d.thr≠[]:=ycg
 have hpos:0<d.thr.length:=List.length_pos_iff.2 hne
 obtain ⟨tl,t,hts⟩: ∃tl t,m.ts=tl++[t]:=by
  rcases List.eq_nil_or_concat m.ts with e|⟨tl,t,e⟩
  ·rw [e] at hlen;simp at hlen;omega
  ·exact ⟨tl,t,by rw [e,List.concat_eq_append]⟩
 have htl:d.thr.length=tl.length+1:=yb3
 have htN:t.N=N:=by
  have:=h.thr
  rw [hts] at this
  rw [<-this] at hN
  simpa using hN
 have hti:m.ts[tl.length]?=some t:=ybo
 have hth:=h.th _ t hti
 obtain ⟨go,co,hov,hco⟩:=Za h.orow yai
 obtain ⟨gt,ct,htv,_⟩:=Za h.trow hpos
 obtain ⟨gn,cn,hnv,_⟩:=Za hth.row (by rw [htN];omega)
 rw [hol] at hov hco
 rw [htl] at htv
 rw [htN] at hnv
 have lo:=(h.lo go (by rw [hov];rfl)).1
 have lt:=(h.lt gt (by rw [htv];rfl)).1
 have ln:=(h.ln _ t hti gn (by rw [hnv];rfl)).1
 have h1:=h.orow
 rw [hol,hov] at h1
 have h2:=h.trow
 rw [htl,htv] at h2
 obtain ⟨q1,_,_⟩:=Qm h1 os.length yai
 obtain ⟨r1,r2,_⟩:=Qm h2 tl.length yai
 refine ⟨go,co,gt,ct,gn,cn,tl,t,⟨hov,hco,htv,hts,htN,hnv,?_,?_,r2,?_,?_,?_,?_,?_,?_⟩⟩
 ·rw [q1,ho];simp
 ·rw [r1,hts,<-hnv];simp
 ·intro e;have:=h.lb.1;rw [e,ln] at this;simp at this
 ·intro e;have:=h.lb.1;rw [e,lt] at this;simp at this
 ·intro e;have:=h.lp.1;rw [<-e,ln] at this;simp at this
 ·intro e;rw [e,lt] at ln;simp at ln
 ·intro e;have:=h.lb.1;rw [e,lo] at this;simp at this
 ·intro e;have:=h.lb.1;rw [e,h.lp.1] at this;simp at this
theorem DMach.end_if(h:DMach D lab w m d)(hD: ∀k,w.heap.size<=k->D k)(ho:d.opn=os++[a])(hN:d.thr.getLast?=some N)(hk:N[a]?=some k)(h122:k.1=122)(b1:os.length<=3)(b2:d.thr.length<=2000)(b3:N.length<=1000):
  Cl 24 #[ptr m.br] w λe w'=>e= .returned (.int .i64 0)/\Chg (λb _=>D b) w w'/\ ∃lab' m',m'.br=m.br/\m'.bp=m.bp/\DMach D lab' w' m' {d with opn:=os,thr:=d.thr.dropLast++[N]}:=by
 have ha:a<N.length:=(List.getElem?_eq_some_iff.1 hk).1
 obtain ⟨go,co,gt,ct,gn,cn,tl,t,E⟩:=h.endAt ho hN ha
 have hti:m.ts[tl.length]?=some t:=by rw [E.ts];simp
 have hth:=h.th _ t hti
 have hrow:=hth.row
 rw [E.tN,E.nv] at hrow
 have hnod:=hth.nodes
 rw [E.tN] at hnod
 obtain ⟨k1,_,_⟩:=Zr hrow (a*14) yai
 obtain ⟨k2,k3,_⟩:=Zr hrow (a*14+11) yai
 have hkc:w.cell? ⟨gn,a*14,none⟩=some (.int .u8 122):=by
  rw [k1,hnod.kind a k hk,h122];rfl
 obtain ⟨x,hx⟩: ∃x,t.xs[a*14+11]?=some x:=z9k
 have hlen:=Sl h
 have hTl:tl.length<=2000:=yc5
 refine (Go.Proofs.YtphcopbffecceaaGreatDoor.end_if h.c0 yc2 (h.free 5) E.oc yc3 E.tc E.ft hkc (k2.trans hx) k3 b1 hTl ha b3 E.hco E.n1 E.n2 E.n3 E.n4 E.n5 E.n6).mono ?_
 rintro e w' ⟨rfl,rfl⟩
 have h1:=h.popOpen ho E.ov
 have hDn:=(h.ln _ t hti gn ybp).2
 have hDt:=(h.lt gt (by rw [E.tv];rfl)).2
 have hrow1:=(h1.th tl.length t hti).row
 rw [E.tN,E.nv] at hrow1
 obtain ⟨lab',h2⟩:=h1.setThr (λq hq=>hD q yc4) E.ts E.tv (zg2 hrow1 (a*14+11) (.int .i64 (N.length:Int))) (hnod.set a _) ((Chg.refl _ _).setCell (λ_=>by rw [E.nv];rfl) _) (.inl ybp)
 refine ⟨rfl,?_,lab',_,?_,?_,h2⟩
 rotate_left
 ·rfl
 ·rfl
 exact (((Chg.refl (λb _=>D b) w).setCell (λ_=>h.lb.2) _).setCell (λ_=>hDn) _).setCell (λ_=>hDt) _
end
section
variable{D:Nat->Prop}{lab:Nat->Nat×Nat}{w:World}{m:DM}{d:DR}
theorem DMach.end_at(h:DMach D lab w m d)(hD: ∀k,w.heap.size<=k->D k)(ho:d.opn=os++[a])(hN:d.thr.getLast?=some N)(hk:N[a]?=some k)(h40:k.1=40)(b1:os.length<=3)(b2:d.thr.length<=2000)(b3:N.length<=1000):
  Cl 24 #[ptr m.br] w λe w'=>e= .returned (.int .i64 0)/\Chg (λb _=>D b) w w'/\ ∃lab' m',m'.br=m.br/\m'.bp=m.bp/\DMach D lab' w' m' {d with opn:=os,thr:=d.thr.dropLast++[N++[(41,0)]]}:=by
 have ha:a<N.length:=(List.getElem?_eq_some_iff.1 hk).1
 obtain ⟨go,co,gt,ct,gn,cn,tl,t,E⟩:=h.endAt ho hN ha
 have hti:m.ts[tl.length]?=some t:=by rw [E.ts];simp
 have hth:=h.th _ t hti
 have hrow:=hth.row
 rw [E.tN,E.nv] at hrow
 have hnod:=hth.nodes
 rw [E.tN] at hnod
 obtain ⟨k1,_,_⟩:=Zr hrow (a*14) yai
 have hkc:w.cell? ⟨gn,a*14,none⟩=some (.int .u8 40):=by
  rw [k1,hnod.kind a k hk,h40];rfl
 obtain ⟨x,hx⟩: ∃x,t.xs[a*14+11]?=some x:=z9k
 have hlen:=Sl h
 have hTl:tl.length<=2000:=yc5
 refine (Go.Proofs.YtphcopbffecceaaGreatDoor.end_at h.c0 yc2 (h.free 5) E.oc yc3 E.tc E.ft hrow hkc hx b1 hTl ha b3 E.hco E.n1 E.n2 E.n3 E.n4 E.n5 E.n6).mono ?_
 rintro e w' ⟨rfl,w3,g,cp,q1,q2,q3,rfl⟩
 have h1:=h.popOpen ho E.ov
 have hDn:=(h.ln _ t hti gn ybp).2
 have hDt:=(h.lt gt (by rw [E.tv];rfl)).2
 have hDg:D g:=by
  rcases q3 with rfl|e
  ·exact hDn
  ·exact hD g yai
 have hch:Chg (λb _=>b=gn) (w.setCell ⟨m.br,5,none⟩ (.slice (some ⟨go,0,none⟩) os.length co)) w3:=((Chg.refl (λb _=>b=gn) _).alloc _).trans q2
 have hch':Chg (λb _=>t.nv.ownBlock=some b) (w.setCell ⟨m.br,5,none⟩ (.slice (some ⟨go,0,none⟩) os.length co)) (w3.setCell ⟨g,a*14+11,none⟩ (.int .i64 ((N.length+1:Nat):Int))):=(hch.mono (λb _ _ e=>by rw [E.nv,e];rfl)).setCell (λhlt=>by
  rcases q3 with rfl|e
  ·rw [E.nv];rfl
  ·rw [Jq] at hlt;omega) _
 have hl:(N++[((41:Nat),(0:Int))]).length=N.length+1:=yaj
 have hrow2:=zg2 q1 (a*14+11) (.int .i64 ((N.length+1:Nat):Int))
 rw [<-hl] at hrow2 hch'
 have hn2:NodesAt ((t.xs++zen).set (a*14+11) (.int .i64 (((N++[((41:Nat),(0:Int))]).length:Nat):Int))) (N++[(41,0)]):=(hnod.app (dp:=0) rfl rfl rfl rfl).set a _
 obtain ⟨lab',h2⟩:=h1.setThr (λq hq=>hD q yc4) E.ts E.tv hrow2 hn2 hch' (by
  rcases q3 with rfl|e
  ·exact .inl ybp
  ·exact .inr (by rw [Jq];omega))
 rw [hl] at h2
 refine ⟨rfl,?_,lab',_,?_,?_,h2⟩
 rotate_left
 ·rfl
 ·rfl
 have c1:Chg (λb _=>D b) w w3:=((Chg.refl (λb _=>D b) w).setCell (λ_=>h.lb.2) _).trans (hch.mono λb _ _ e=>e▸hDn)
 exact (c1.setCell (λ_=>hDg) _).setCell (λ_=>hDt) _
theorem DMach.end_lp(h:DMach D lab w m d)(hD: ∀k,w.heap.size<=k->D k)(ho:d.opn=os++[a])(hN:d.thr.getLast?=some N)(hk:N[a]?=some k)(h108:k.1=108)(b1:os.length<=3)(b2:d.thr.length<=2000)(b3:N.length<=1000):
  Cl 24 #[ptr m.br] w λe w'=>e= .returned (.int .i64 0)/\Chg (λb _=>D b) w w'/\ ∃lab' m',m'.br=m.br/\m'.bp=m.bp/\DMach D lab' w' m' {d with opn:=os,thr:=d.thr.dropLast++[N++[(98,0)]]}:=by
 have ha:a<N.length:=(List.getElem?_eq_some_iff.1 hk).1
 obtain ⟨go,co,gt,ct,gn,cn,tl,t,E⟩:=h.endAt ho hN ha
 have hti:m.ts[tl.length]?=some t:=by rw [E.ts];simp
 have hth:=h.th _ t hti
 have hrow:=hth.row
 rw [E.tN,E.nv] at hrow
 have hnod:=hth.nodes
 rw [E.tN] at hnod
 obtain ⟨k1,_,_⟩:=Zr hrow (a*14) yai
 have hkc:w.cell? ⟨gn,a*14,none⟩=some (.int .u8 108):=by
  rw [k1,hnod.kind a k hk,h108];rfl
 obtain ⟨x,hx⟩: ∃x,t.xs[a*14+11]?=some x:=z9k
 obtain ⟨dp,hdp⟩:=hnod.deep a ha
 obtain ⟨k4,_,_⟩:=Zr hrow (a*14+13) yai
 have hlen:=Sl h
 have hTl:tl.length<=2000:=yc5
 refine (Go.Proofs.YtphcopbffecceaaGreatDoor.end_lp h.c0 yc2 (h.free 5) E.oc yc3 E.tc E.ft hrow hkc (k4.trans hdp) hx b1 hTl ha b3 E.hco E.n1 E.n2 E.n3 E.n4 E.n5 E.n6).mono ?_
 rintro e w' ⟨rfl,w3,g,cp,q1,q2,q3,rfl⟩
 have h1:=h.popOpen ho E.ov
 have hDn:=(h.ln _ t hti gn ybp).2
 have hDt:=(h.lt gt (by rw [E.tv];rfl)).2
 have hDg:D g:=by
  rcases q3 with rfl|e
  ·exact hDn
  ·exact hD g yai
 have hch:Chg (λb _=>b=gn) (w.setCell ⟨m.br,5,none⟩ (.slice (some ⟨go,0,none⟩) os.length co)) w3:=((Chg.refl (λb _=>b=gn) _).alloc _).trans q2
 have hch':Chg (λb _=>t.nv.ownBlock=some b) (w.setCell ⟨m.br,5,none⟩ (.slice (some ⟨go,0,none⟩) os.length co)) (w3.setCell ⟨g,a*14+11,none⟩ (.int .i64 ((N.length+1:Nat):Int))):=(hch.mono (λb _ _ e=>by rw [E.nv,e];rfl)).setCell (λhlt=>by
  rcases q3 with rfl|e
  ·rw [E.nv];rfl
  ·rw [Jq] at hlt;omega) _
 have hl:(N++[((98:Nat),(0:Int))]).length=N.length+1:=yaj
 have hrow2:=zg2 q1 (a*14+11) (.int .i64 ((N.length+1:Nat):Int))
 rw [<-hl] at hrow2 hch'
 have hn2:NodesAt ((t.xs++zcb a dp).set (a*14+11) (.int .i64 (((N++[((98:Nat),(0:Int))]).length:Nat):Int))) (N++[(98,0)]):=(hnod.app (dp:=dp) rfl rfl rfl rfl).set a _
 obtain ⟨lab',h2⟩:=h1.setThr (λq hq=>hD q yc4) E.ts E.tv hrow2 hn2 hch' (by
  rcases q3 with rfl|e
  ·exact .inl ybp
  ·exact .inr (by rw [Jq];omega))
 rw [hl] at h2
 refine ⟨rfl,?_,lab',_,?_,?_,h2⟩
 rotate_left
 ·rfl
 ·rfl
 have c1:Chg (λb _=>D b) w w3:=((Chg.refl (λb _=>D b) w).setCell (λ_=>h.lb.2) _).trans (hch.mono λb _ _ e=>e▸hDn)
 exact (c1.setCell (λ_=>hDg) _).setCell (λ_=>hDt) _
end
end Go.Proofs.YtphcopbffecceaaGreatDoor
