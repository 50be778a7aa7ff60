import Derived.Test.YtphcopbffecceaaGreatDoorP05
set_option maxRecDepth 100000
set_option maxHeartbeats 1000000
namespace Go.Proofs.YtphcopbffecceaaGreatDoor
open Go.RowKit
variable{ba bk bl cp g n:Nat}{u:ByteArray}{P:Program}{w w3:World}{a:PV}{ops:Array Oper}{o:Oper}{Q:Exit->Act->World->Prop}{f:Value}
section
variable{W w w':World}{x:Cx}{K:List (Nat×Nat×Value)}{c:Nat}{s:Ck}
theorem zvj(l:List ByteArray)(u:ByteArray):(zjx l u).getD (.int .i64 0)= .int .i64 (((l.findIdx? λy=>decide (y=u)).getD 0:Nat):Int):=by
 unfold zjx
 cases l.findIdx? λy=>decide (y=u)<;>rfl
theorem zzz(l:List (ByteArray×Int×Int))(u:ByteArray):(shF l u).getD (.agg #[.int .i64 0, .int .i64 0])= .agg #[.int .i64 ((((l.find? λp=>decide (p.1=u)).map (·.2)).getD (0,0)).1), .int .i64 ((((l.find? λp=>decide (p.1=u)).map (·.2)).getD (0,0)).2)]:=by
 unfold shF
 cases l.find? λp=>decide (p.1=u)<;>rfl
theorem zqz(hx:zj0 W x)(u:ByteArray):x.locI u<=4:=by
 unfold Cx.locI
 cases h:x.loc.findIdx? λy=>decide (y=u) with
 |none=>simp
 |some k=>
  have:=(List.findIdx?_eq_some_iff_findIdx_eq.1 h).1
  have:=hx.ln
  simp only [Option.getD_some]
  omega
theorem Cw.lookL(h:Cw W x K w c s)(hu:u.size<=maxLen):(Instr.lookup 114 (.map (some x.lb)) (.string u) false).run Tryz.prog w= .ok (.int .i64 (x.locI u)) w:=by
 have:=h.mL.look1 (t:=114) Tryz.underlying114 (zqy w) hu
 rw [zvj] at this
 exact this
theorem Cw.lookS(h:Cw W x K w c s)(hu:u.size<=maxLen):(Instr.lookup 92 (.map (some x.sb)) (.string u) false).run Tryz.prog w= .ok (.agg #[.int .i64 (x.var u).1, .int .i64 (x.var u).2]) w:=by
 have:=h.mS.look1 (t:=92) Tryz.underlying92 (zqx w) hu
 rw [zzz] at this
 exact this
theorem zdr(h:Cw W x K w c s)(hu:u.size<=maxLen):
  Cl 95 #[ptr c, .string u] w λe w'=>e= .returned (.string (x.local u))/\Cw W x K w' c s:=by
 have hc:=h.c2
 have hl:=h.lookL hu
 have hk:=zqz h.base u
 have H:=hid h
 clear h
 go_enter Tryz.func95,Tryz.ntmps95
 go_wp2_with fail
 refine (zbt H.out (x.locI u) yai yai).mono ?_
 rintro e w1 ⟨rfl,h1⟩
 have H1:=hid h1
 clear h1 H hc hl
 go_wp2
 go_ret
 exact ⟨rfl,H1.out⟩
def PV.ok(a:PV):Prop:=a.name.size<=maxLen/\-9223372036854775808<=a.num/\a.num<=9223372036854775807
theorem Cw.drew(h:Cw W x K w c s):Cw W x K w.drew c s:=h.below ⟨rfl,rfl,rfl,Nat.le_refl _,λ_ _=>rfl⟩
theorem Cw.alloc(h:Cw W x K w c s)(o:Obj):Cw W x K (w.alloc o) c s:=h.below ((Below.refl _ w).alloc (Nat.le_refl _) o)
theorem Yq(h:Cw W x K w c s)(ha:a.ok):
  Cl 96 #[ptr c, .agg #[.string a.name, .int .i64 a.num]] w λe w'=>e= .returned (.string (x.val a))/\Cw W x K w' c s:=by
 obtain ⟨h1,h2,h3⟩:=ha
 have H:=hid h
 clear h
 by_cases hn:a.name=⟨#[]⟩
 ·have e:x.val a=dec a.num:=if_pos hn
  rw [e]
  obtain ⟨nm,num⟩:=a
  simp only at hn h1 h2 h3 e⊢
  subst hn
  clear e
  go_enter Tryz.func96,Tryz.ntmps96
  go_wp2_with fail
  refine (zah (H.out.alloc _) num h2 h3).mono ?_
  rintro e w1 ⟨rfl,h1⟩
  have H1:=hid h1
  clear h1 H
  go_wp2
  go_ret
  exact ⟨rfl,H1.out⟩
 ·have e:x.val a=x.local a.name:=if_neg hn
  rw [e]
  obtain ⟨nm,num⟩:=a
  simp only at hn h1 h2 h3 e⊢
  clear e
  have hb:nm.toList.isEmpty=false:=by
   refine Ey ?_
   rcases nm with ⟨⟨l⟩⟩
   cases l with
   |nil=>exact (hn rfl).elim
   |cons a l=>simp [ByteArray.size]
  go_enter Tryz.func96,Tryz.ntmps96
  go_wp2_with fail
  refine (zdr (H.out.alloc _) h1).mono ?_
  rintro e w1 ⟨rfl,h1⟩
  have H1:=hid h1
  clear h1 H
  go_wp2
  go_ret
  exact ⟨rfl,H1.out⟩
end
theorem zl6(w:World)(t ty e:TypeId)(i:TypeInfo)(z:Value)(sz bytes:Nat)(hpos:0<sz)(ht:P.underlying t=some (.slice e))(hi:P.info? e=some i)(hz:i.zero=some z)(hsize:i.size=sz)(hby:i.bytes=bytes)(hzs:z.cells.size=sz)
  (v:Value) (n:Nat) (xs:List Value) (hown:w.ownsRow 0 e sz v n xs) (ad:Addr) (us:List Value) (hus:us.length=sz) (hu: ∀j u',us[j]?=some u'->w.cell? (ad.add j)=some u') (h1: ∀u'∈us,u'.oneCell'=true) (h63:n+1<=maxLen) (hbytes:(n+1)*bytes<=140737488355328):
  ∃g cap w',(Builtin.append_ #[t,t] ty #[v, .slice (some ad) 1 1]).run P w= .ok (.slice (some ⟨g,0,none⟩) (n+1) cap) w'/\
   w'.ownsRow 0 e sz (.slice (some ⟨g,0,none⟩) (n+1) cap) (n+1) (xs++us)/\Chg (λk _=>v.ownBlock=some k) w w'/\(v.ownBlock=some g\/g=w.heap.size):=by
 obtain ⟨v',w',hr,h2,_,_⟩:=run_append_own (P:=P) w 0 t ty e i z sz bytes ht hi hz hsize hby hzs hpos v n xs hown ad 1 1 us yai hu h1 h63 hbytes (Nat.zero_le _)
 subst hby
 subst hsize
 have hlu:us.length=1*i.size:=yai
 rcases hown.2 with ⟨rfl,rfl⟩|⟨g,cap,cur,rfl,hbg,hg,hnc,hcm,hcs,htake⟩
 ·have hx:=run_append_nil (P:=P) w t ty e i z ht hi hz ad 1 1 us hlu hu yal yal yai
  rw [hx] at hr
  injection hr with e1 e2
  subst e1;subst e2
  exact ⟨_,_,_,hx,h2,((Chg.refl _ w).drew).alloc _, .inr rfl⟩
 ·by_cases hroom:n+1<=cap
  ·have hsq:(n+1)*i.size<=cap*i.size:=Nat.mul_le_mul_right _ hroom
   rw [Nat.add_mul] at hsq
   have hx:=run_append_room (P:=P) w t ty e i ht hi g n cap cur hg ad 1 1 us hlu hu h1 hroom (by rw [hcs];omega)
   rw [hx] at hr
   injection hr with e1 e2
   subst e1;subst e2
   refine ⟨_,_,_,hx,h2,(Chg.setRow hg ?_).mono (λk i _ e=>by simp [Value.ownBlock,e]), .inl rfl⟩
   simp only [List.size_toArray,List.length_append,List.length_take,List.length_drop,Array.length_toList]
   omega
  ·have hx:=run_append_grow (P:=P) w t ty e i z ht hi hz ⟨g,0,none⟩ n cap xs hown.1 (hown.cells (g:=g) rfl) ad 1 1 us hlu hu yai (by unfold maxLen at h63;omega) (growslice_fits yai hbytes)
   rw [hx] at hr
   injection hr with e1 e2
   subst e1;subst e2
   exact ⟨_,_,_,hx,h2,((Chg.refl _ w).drew).alloc _, .inr rfl⟩
theorem zds{rest:List Oper}{a:Act}(hgd:o.guard=none)(s x:Operand)(t:TypeId)
  (ho:o.op= .call {callee:= .builtin .append,args:=#[s,x],argTypes:=#[t,t]})
  (e:TypeId) (i:TypeInfo) (z:Value) (sz bytes:Nat) (hpos:0<sz) (ht:P.underlying t=some (.slice e)) (hi:P.info? e=some i) (hz:i.zero=some z) (hsize:i.size=sz) (hby:i.bytes=bytes) (hzs:z.cells.size=sz)
  (v:Value) (n:Nat) (xs:List Value) (hs:a.eval s=v) (hown:w.ownsRow 0 e sz v n xs) (ad:Addr) (us:List Value) (hus:us.length=sz) (hx:a.eval x= .slice (some ad) 1 1) (hu: ∀j u',us[j]?=some u'->w.cell? (ad.add j)=some u') (hu1: ∀u'∈us,u'.oneCell'=true) (h63:n+1<=maxLen) (hbytes:(n+1)*bytes<=140737488355328)
  (h: ∀g cap w',w'.ownsRow 0 e sz (.slice (some ⟨g,0,none⟩) (n+1) cap) (n+1) (xs++us)->Chg (λk _=>v.ownBlock=some k) w w'->(v.ownBlock=some g\/g=w.heap.size)->wpList P ops Q rest (a.put o.dst (.slice (some ⟨g,0,none⟩) (n+1) cap)) w'):wpList P ops Q (o::rest) a w:=
 wpList_plain hgd λK hK=>by
  obtain ⟨g,cap,w',hr,h2,h3,h4⟩:=zl6 (P:=P) w t o.type e i z sz bytes hpos ht hi hz hsize hby hzs v n xs hown ad us hus hu hu1 h63 hbytes
  unfold Oper.wp execOp
  simp only [ho,resolve,invoke,builtin,Sem.run_bind,Sem.run_pure,Result.andThen_ok,List.map_toArray,List.map_cons,List.map_nil,hs,hx,hr]
  exact hK _ _ (h g cap w' h2 h3 h4)
theorem Je{a:Act}{K:Act->World->Prop}{E:Prop}(hgd:o.guard=none)(s x:Operand)(t:TypeId)
  (ho:o.op= .call {callee:= .builtin .append,args:=#[s,x],argTypes:=#[t,t]})
  (e:TypeId) (i:TypeInfo) (z:Value) (sz bytes:Nat) (hpos:0<sz) (ht:P.underlying t=some (.slice e)) (hi:P.info? e=some i) (hz:i.zero=some z) (hsize:i.size=sz) (hby:i.bytes=bytes) (hzs:z.cells.size=sz)
  (v:Value) (n:Nat) (xs:List Value) (hs:a.eval s=v) (hown:w.ownsRow 0 e sz v n xs) (ad:Addr) (us:List Value) (hus:us.length=sz) (hx:a.eval x= .slice (some ad) 1 1) (hu: ∀j u',us[j]?=some u'->w.cell? (ad.add j)=some u') (hu1: ∀u'∈us,u'.oneCell'=true) (h63:n+1<=maxLen) (hbytes:(n+1)*bytes<=140737488355328)
  (h: ∀g cap w',w'.ownsRow 0 e sz (.slice (some ⟨g,0,none⟩) (n+1) cap) (n+1) (xs++us)->Chg (λk _=>v.ownBlock=some k) w w'->(v.ownBlock=some g\/g=w.heap.size)->K (a.put o.dst (.slice (some ⟨g,0,none⟩) (n+1) cap)) w'):
  if Region.wanted o (yielded ops a.tmps)=true then Oper.wp P o a w K Q else E:=by
 have hw:Region.wanted o (yielded ops a.tmps)=true:=by simp [Region.wanted,hgd]
 rw [if_pos hw]
 obtain ⟨g,cap,w',hr,h2,h3,h4⟩:=zl6 (P:=P) w t o.type e i z sz bytes hpos ht hi hz hsize hby hzs v n xs hown ad us hus hu hu1 h63 hbytes
 unfold Oper.wp execOp
 simp only [ho,resolve,invoke,builtin,Sem.run_bind,Sem.run_pure,Result.andThen_ok,List.map_toArray,List.map_cons,List.map_nil,hs,hx,hr]
 exact h g cap w' h2 h3 h4
section
variable{W w w':World}{x:Cx}{K:List (Nat×Nat×Value)}{m:Cm}{c:Nat}{s:Ck}
theorem Ck.Ok.line(h:s.Ok)(l:ByteArray)(hz:l.size<=200):Ck.Ok {s with L:=s.L++[l],g:=s.g+1}:=by
 refine ⟨by simp;exact h.l,λu hu=>?_,Nat.le_succ_of_le h.t,λn hn=>?_,λk hk=>⟨Nat.le_succ_of_le (h.u k hk).1,λn hn=>?_⟩⟩
 ·show u.size<=200+30*(s.g+1)
  rcases List.mem_append.1 hu with hu|hu
  ·have:=h.z u hu;omega
  ·rw [List.mem_singleton.1 hu];omega
 ·have:=h.tb n hn
  show n<(s.L++[l]).length
  simp;omega
 ·have:=(h.u k hk).2 n hn
  show n<(s.L++[l]).length
  simp;omega
def Cv(W:World)(x:Cx)(K:List (Nat×Nat×Value))(m:Cm)(w:World)(c:Nat)(s:Ck):Prop:=∃lab lv,Cd W x K {m with lab:=lab,lv:=lv} w c s
theorem Cv.cw(h:Cv W x K m w c s):Cw W x K w c s:=let ⟨_,_,h⟩:=h;⟨_,h⟩
theorem Cd.pushLine(h:Cd W x K m w c s)(l:ByteArray)
  (ho:w3.ownsRow 0 9 1 (.slice (some ⟨g,0,none⟩) (s.L.length+1) cp) (s.L.length+1) (s.L.map .string++[.string l]))
  (hc:Chg (λk _=>m.lv.ownBlock=some k) w w3) (hg:m.lv.ownBlock=some g\/g=w.heap.size) (hz:l.size<=200):
  Cv W x K m (w3.setCell ⟨c,0,none⟩ (.slice (some ⟨g,0,none⟩) (s.L.length+1) cp)) c {s with L:=s.L++[l],g:=s.g+1}:=by
 have lb:=h.lt
 have nc: ¬m.lv.ownBlock=some c:=λe=>by have:=h.llv _ e;rw [h.lc] at this;omega
 have hgc:g≠c:=z96
 have hgs:g<w3.heap.size:=(ho.lt g rfl).2
 have hset:Chg (λk j=>k=c/\j=0) w3 (w3.setCell ⟨c,0,none⟩ (.slice (some ⟨g,0,none⟩) (s.L.length+1) cp)):=(Chg.refl _ w3).setCell (λ_=>⟨rfl,rfl⟩) _
 have hall:Chg (λk j=>m.lv.ownBlock=some k\/(k=c/\j=0)) w (w3.setCell ⟨c,0,none⟩ (.slice (some ⟨g,0,none⟩) (s.L.length+1) cp)):=(hc.mono (λ_ _ _ e=> .inl e)).trans (hset.mono (λ_ _ _ e=> .inr e))
 have hold: ∀k,k<w.heap.size->(if k=g then 2 else m.lab k)=m.lab k:=by
  intro k hk
  by_cases e:k=g
  ·rw [if_pos e]
   rcases hg with hg|hg
   ·rw [e];exact (h.llv g hg).symm
   ·omega
  ·rw [if_neg e]
 have nk: ∀k l,m.lab k=l->l≠2->l≠1->∀j,¬(m.lv.ownBlock=some k\/(k=c/\j=0)):=λk l hk h1 h2 j e=>by
  rcases e with e|e
  ·exact h1 (hk.symm.trans (h.llv k e))
  ·exact h2 (hk.symm.trans (e.1▸h.lc))
 have kc: ∀j,j≠0->¬(m.lv.ownBlock=some c\/(c=c/\j=0)):=λj hj e=>e.elim nc (λe=>hj e.2)
 have hM: ∀k j,k<w.heap.size->(m.lv.ownBlock=some k\/(k=c/\j=0))->m.lab k≠0:=by
  rintro k j _ (e|⟨rfl,_⟩)
  ·rw [h.llv k e];omega
  ·rw [h.lc];omega
 refine ⟨λk=>if k=g then 2 else m.lab k, .slice (some ⟨g,0,none⟩) (s.L.length+1) cp,h.turn (h.ok.line l hz) hall ?_ hold ?_ (Qg ((hc.cell _ _ lb nc).trans h.c0) rfl) ((hall.cell _ _ lb (kc 4 yai)).trans h.c4) ((hall.cell _ _ lb (kc 5 yai)).trans h.c5) ((hall.cell _ _ lb (kc 6 yai)).trans h.c6) ?_ (Qc h.trow hall (λq hq=>nk _ _ (h.ltv q hq) yai yai)) (h.tl.keep hall hM λk hk e=>(hold k hk).trans e) ?_ ?_ ?_⟩
 ·exact z9w
 ·intro k hk
  have:w3.heap.size<=k:=ya9
  show (if k=g then 2 else m.lab k)=0
  rw [if_neg yai]
  exact h.lz k (Nat.le_trans hc.size this)
 ·exact z8u
 ·exact z9a
 ·intro q hq
  simp [Value.ownBlock] at hq
  subst hq
  exact if_pos rfl
 ·intro q hq
  exact (hold q (h.trow.lt q hq).2).trans (h.ltv q hq)
theorem zz0:(Tryz.prog.info? 9).map (λi=>(i.zero,i.size,i.bytes))=some (some (.string ⟨#[]⟩),1,16):=yak
theorem zgg: ∀(ws:List ByteArray),(∀u∈ws,u.size<=30)->(Lib.join (ws.map (·.data.toList)) [32]).length<=31*ws.length
 |[],_=>by simp [Lib.join_nil]
 |[a],h=>by
  have:=h a yaj
  simp only [List.map_cons,List.map_nil,Lib.join_one,List.length_cons,List.length_nil]
  have h1:a.data.size<=30:=this
  rw [Array.length_toList]
  omega
 |a::b::r,h=>by
  have ih:=zgg (b::r) (λu hu=>h u (List.mem_cons_of_mem _ hu))
  have:=h a yaj
  have e:Lib.join ((a::b::r).map (·.data.toList)) [32]=a.data.toList++[32]++Lib.join ((b::r).map (·.data.toList)) [32]:=by
   simp [Lib.join,List.intercalate]
  rw [e]
  simp only [ByteArray.size] at this
  simp only [List.length_append,List.length_cons,List.length_nil,Array.length_toList] at ih⊢
  omega
theorem z2l(hm:Cd W x K m w c s)(ws:List ByteArray)(hbk:bk<w.heap.size)(hcells: ∀(j:Nat) u,ws[j]?=some u->w.cell? ⟨bk,0+j,none⟩=some (.string u))(hn:ws.length<=6)(hws: ∀u∈ws,u.size<=30)(hG:s.g<100000000):
  Cl 67 #[ptr c, .slice (some ⟨bk,0,none⟩) ws.length ws.length] w λe w'=>e= .returned (.tuple #[])/\Cv W x K m w' c (s.add ws):=by
 obtain ⟨i0,hi0,hz0,hz1,hz2⟩:=info_parts zz0
 have hc:=hm.c0
 have hL:s.L.length<100000000:=Nat.lt_of_le_of_lt hm.ok.l hG
 have hjz:(Zt 32 ws).size<=200:=by
  have:=zgg ws hws
  have e:(Zt 32 ws).size=(Lib.join (ws.map (·.data.toList)) [32]).length:=by simp [Zt,ByteArray.size]
  omega
 have hl1:s.L.length+1<=maxLen:=yap
 have hl2:(s.L.length+1)*16<=140737488355328:=yai
 have KJ:Hid (∀w0,Below w.heap.size w w0->Cl 70 #[.slice (some ⟨bk,0,none⟩) ws.length ws.length, .string ⟨#[32]⟩] w0 λe w'=>e= .returned (.string (Zt 32 ws))/\Below w0.heap.size w0 w'):=hid λw0 hb=>
  Tryz.strings_Join bk 0 ws.length ws ⟨#[32]⟩ w0 (λj u hu=>(hb.cell (p:=⟨bk,0+j,none⟩) hbk).trans (hcells j u hu)) (Nat.lt_of_lt_of_le hbk hb.size) yai (Nat.le_refl _) (by have:=zgg ws hws;show (Lib.join (ws.map (·.data.toList)) [32]).length<=_;omega)
 have nc: ¬m.lv.ownBlock=some c:=λe=>by have:=hm.llv _ e;rw [hm.lc] at this;omega
 have NC:Hid (∀(w1 w3:World) (o:Obj),Cd W x K m w1 c s->Chg (λk _=>m.lv.ownBlock=some k) (w1.alloc o) w3->w3.cell? ⟨c,0,none⟩=some m.lv):=hid λw1 w3 o h1 hch=>(hch.cell _ _ (by have:=h1.lt;simp;omega) nc).trans ((World.cell?_alloc_past _ _ _ h1.lt).trans h1.c0)
 have NF:Hid (∀(w1 w3:World) (o:Obj),Cd W x K m w1 c s->Chg (λk _=>m.lv.ownBlock=some k) (w1.alloc o) w3->w3.frozen? ⟨c,0,none⟩=false):=hid λw1 w3 o h1 hch=>(hch.frozen _ _ (by have:=h1.lt;simp;omega)).trans ((World.frozen?_alloc_past _ _ _ h1.lt).trans (h1.free 0))
 have H:=hid hm
 clear hm nc hcells hws hbk
 generalize hwn:ws.length=nw at*
 go_enter Tryz.func67,Tryz.ntmps67
 go_wp2_with fail
 go_region_law (first
  |(go_simp;go_at_call 70;refine (KJ.out _ ?_).mono ?_;(case refine_1=>exact Qi _ w);rintro e w1 ⟨rfl,b1⟩;have H1:=hid (H.out.below (w':=w1) ((Qi _ w).trans b1));have hc1:=H1.out.c0;have lb1:=H1.out.lt;clear b1 hc)
  |(refine Je rfl (.tmp 8) (.tmp 11) 49 rfl 9 i0 (.string ⟨#[]⟩) 1 16 yal Tryz.underlying49 hi0 hz0 hz1 hz2 rfl m.lv s.L.length (s.L.map .string) rfl (H1.out.lrow.alloc _) ⟨w1.heap.size,0,none⟩ [.string (Zt 32 ws)] rfl rfl (cell_one_new _ _ _) yax hl1 hl2 ?_;intro g cp w3 ho hch hg;have hcb:=NC.out w1 w3 _ H1.out hch;have hfb:=NF.out w1 w3 _ H1.out hch;have HR:=hid ((H1.out.below ((Below.refl _ w1).alloc (Nat.le_refl _) _)).pushLine (Zt 32 ws) ho hch hg hjz);clear ho hch hg hc1))
 all_goals
  go_wp2
  go_end0
  exact ⟨rfl,HR.out⟩
theorem z42(h:Cw W x K w c s)(ws:List ByteArray)(hbk:bk<w.heap.size)(hcells: ∀(j:Nat) u,ws[j]?=some u->w.cell? ⟨bk,0+j,none⟩=some (.string u))(hn:ws.length<=6)(hws: ∀u∈ws,u.size<=30)(hG:s.g<100000000):
  Cl 67 #[ptr c, .slice (some ⟨bk,0,none⟩) ws.length ws.length] w λe w'=>e= .returned (.tuple #[])/\Cw W x K w' c (s.add ws):=by
 obtain ⟨m,h⟩:=h
 exact (z2l h ws hbk hcells hn hws hG).mono λe w' ⟨he,h'⟩=>⟨he,h'.cw⟩
end
section
variable{W w w':World}{x:Cx}{K:List (Nat×Nat×Value)}{m:Cm}{c:Nat}{s:Ck}
theorem zc2{e:TypeId}{v:Value}{xs:List Value}(h:w.ownsRow 0 e 1 v n xs): ∃a k,v= .slice a n k:=by
 rcases h.2 with ⟨rfl,rfl⟩|⟨g,cap,cur,rfl,_⟩
 ·exact ⟨_,_,rfl⟩
 ·exact ⟨_,_,rfl⟩
theorem Cw.lines(h:Cw W x K w c s): ∃a k,w.cell? ⟨c,0,none⟩=some (.slice a s.L.length k):=by
 obtain ⟨m,h⟩:=h
 obtain ⟨a,k,e⟩:=zc2 h.lrow
 exact ⟨a,k,by rw [h.c0,e]⟩
theorem Cw.ok(h:Cw W x K w c s):s.Ok:=let ⟨_,h⟩:=h;h.ok
theorem zbu(h:Cw W x K w c s):
  Cl 128 #[ptr c] w λe w'=>e= .returned (.int .i64 s.L.length)/\w'=w:=by
 obtain ⟨a,k,hc⟩:=h.lines
 clear h
 go_enter Tryz.func128,Tryz.ntmps128
 go_wp2
 go_ret
 exact ⟨rfl,rfl⟩
abbrev zcx(bl ba:Nat):Value:= .func (.func 129) #[] #[ptr bl,ptr ba]
theorem Cd.fresh2(h:Cd W x K m w c s)(hb:Below w.heap.size w w'){b1 o1 b2 o2:Nat}{v1 v2:Value}(h1:w.heap.size<=b1)(h2:b1<w'.heap.size)(h3:w'.cell? ⟨b1,o1,none⟩=some v1)(h4:w.heap.size<=b2)(h5:b2<w'.heap.size)(h6:w'.cell? ⟨b2,o2,none⟩=some v2):Cd W x ((b1,o1,v1)::(b2,o2,v2)::K) m w' c s:=
 ((h.below hb).more h5 (h.lz b2 h4) h6).more h2 (h.lz b1 h1) h3
theorem zyp(h:Cd W x K m w c s)(ws:List ByteArray)(hbk:bk<w.heap.size)(hcells: ∀(j:Nat) u,ws[j]?=some u->w.cell? ⟨bk,0+j,none⟩=some (.string u))(hn:ws.length<=6)(hws: ∀u∈ws,u.size<=30)(hG:s.g<100000000):
  Cl 102 #[ptr c, .slice (some ⟨bk,0,none⟩) ws.length ws.length] w λe w'=>∃bl ba,e= .returned (zcx bl ba)/\Cv W x ((bl,0,ptr c)::(ba,0, .int .i64 s.L.length)::K) m w' c (s.add ws):=by
 have H:=hid h
 have HC:=hid hcells
 have HW:=hid hws
 have lb:=h.lt
 clear h hcells hws
 go_enter Tryz.func102,Tryz.ntmps102
 go_wp2_with fail
 refine (zbu (Cw.alloc ⟨m,H.out⟩ _)).mono ?_
 rintro e w1 ⟨rfl,rfl⟩
 go_wp2_with fail
 have hb2:Below w.heap.size w ((w.alloc (.cells #[ptr c] 178)).alloc (.cells #[.int .i64 (s.L.length:Int)] 3)):=((Below.refl _ w).alloc (Nat.le_refl _) _).alloc yaj _
 have H2:=hid (H.out.fresh2 hb2 (b1:=w.heap.size) (o1:=0) (v1:=ptr c) (b2:=w.heap.size+1) (o2:=0) (v2:= .int .i64 s.L.length) (Nat.le_refl _) yan ((World.cell?_alloc_past _ _ _ yaj).trans (World.cell?_alloc_new _ _ _ 0)) yaj yaj yaj)
 refine (z2l H2.out ws (bk:=bk) (Nat.lt_of_lt_of_le hbk hb2.size) (λj u hu=>(hb2.cell (p:=⟨bk,0+j,none⟩) hbk).trans (HC.out j u hu)) hn HW.out hG).mono ?_
 rintro e w3 ⟨rfl,h3⟩
 have H3:=hid h3
 clear h3 H2 hb2 H HC HW
 have hmf: ∀(fn:Fn) (first cap:Array Value) (w:World),(Instr.makeFunc fn first cap).run Tryz.prog w= .ok (.func fn first cap) w:=λ_ _ _ _=>rfl
 go_wp2
 go_ret
 exact ⟨_,_,rfl,H3.out⟩
theorem z2m(h:Cw W x K w c s)(ws:List ByteArray)(hbk:bk<w.heap.size)(hcells: ∀(j:Nat) u,ws[j]?=some u->w.cell? ⟨bk,0+j,none⟩=some (.string u))(hn:ws.length<=6)(hws: ∀u∈ws,u.size<=30)(hG:s.g<100000000):
  Cl 102 #[ptr c, .slice (some ⟨bk,0,none⟩) ws.length ws.length] w λe w'=>∃bl ba,e= .returned (zcx bl ba)/\Cw W x ((bl,0,ptr c)::(ba,0, .int .i64 s.L.length)::K) w' c (s.add ws):=by
 obtain ⟨m,h⟩:=h
 exact (zyp h ws hbk hcells hn hws hG).mono λe w' ⟨bl,ba,he,h'⟩=>⟨bl,ba,he,h'.cw⟩
theorem Cd.line(h:Cd W x K m w c s)(hn:n<s.L.length): ∃g k,m.lv= .slice (some ⟨g,0,none⟩) s.L.length k/\w.cell? ⟨g,n,none⟩=some (.string s.L[n])/\w.frozen? ⟨g,n,none⟩=false/\m.lab g=2:=by
 rcases h.lrow.2 with ⟨_,e⟩|⟨g,cap,cur,e,h1,h2,h3,h4,h5,h6⟩
 ·omega
 ·have hc:=h.lrow.cells (g:=g) (by rw [e];rfl)
  have e1:=hc n (.string s.L[n]) (by simp [List.getElem?_eq_getElem hn])
  have e2:(⟨g,0,none⟩:Addr).add n=⟨g,n,none⟩:=by cases n<;>simp [Addr.add]
  rw [e2] at e1
  refine ⟨g,cap,e,e1,?_,h.llv g (by rw [e];rfl)⟩
  simp [World.frozen?,h2]
theorem Ck.Ok.landed(h:s.Ok)(n:Nat)(l:ByteArray)(hz:l.size<=200+30*(s.g+1)):Ck.Ok {s with L:=s.L.set n l,g:=s.g+1}:=by
 refine ⟨by simp;exact Nat.le_succ_of_le h.l,λu hu=>?_,Nat.le_succ_of_le h.t,λn hn=>by simpa using h.tb n hn,λk hk=>⟨Nat.le_succ_of_le (h.u k hk).1,λn hn=>by simpa using (h.u k hk).2 n hn⟩⟩
 show u.size<=200+30*(s.g+1)
 rcases List.mem_or_eq_of_mem_set hu with hu|hu
 ·have:=h.z u hu;omega
 ·rw [hu];exact hz
theorem Cd.landed(h:Cd W x K m w c s){k:Nat}(hlv:m.lv= .slice (some ⟨g,0,none⟩) s.L.length k)(l:ByteArray)(hz:l.size<=200+30*(s.g+1)):
  Cd W x K m (w.setCell ⟨g,n,none⟩ (.string l)) c {s with L:=s.L.set n l,g:=s.g+1}:=by
 have lb:=h.lt
 have hlg:m.lab g=2:=h.llv g (by rw [hlv];rfl)
 have hset:Chg (λk j=>k=g/\j=n) w (w.setCell ⟨g,n,none⟩ (.string l)):=(Chg.refl _ w).setCell (λ_=>⟨rfl,rfl⟩) _
 have nk: ∀k l,m.lab k=l->l≠2->∀j,¬(k=g/\j=n):=λk l hk h1 j e=>h1 (by rw [<-hk,e.1];exact hlg)
 have hM: ∀k j,k<w.heap.size->(k=g/\j=n)->m.lab k≠0:=by
  rintro k j _ ⟨rfl,_⟩
  rw [hlg];omega
 have kc: ∀j,¬(c=g/\j=n):=nk c 1 h.lc yai
 refine h.turn (h.ok.landed n l hz) hset (λk j hk e=>⟨hM k j hk e,λec=>?_⟩) (λ_ _=>rfl) (λk hk=>h.lz k ya9) ((hset.cell _ _ lb (kc 0)).trans h.c0) ((hset.cell _ _ lb (kc 4)).trans h.c4) ((hset.cell _ _ lb (kc 5)).trans h.c5) ((hset.cell _ _ lb (kc 6)).trans h.c6) ?_ (Qc h.trow hset (λq hq=>nk _ _ (h.ltv q hq) yai)) (h.tl.keep hset hM λ_ _ e=>e) (λk hk=>?_) h.llv h.ltv
 ·exact (kc j (ec▸e)).elim
 ·have hr:=h.lrow
  rw [hlv] at hr
  have:=Ut hr n (.string l)
  rw [hlv]
  simpa [List.map_set] using this
 ·have hb:=h.bk k hk
  exact hb.keep hset hM (nk _ _ hb.lbk yai) (λq hq=>nk _ _ (hb.luv q hq) yai) (λ_ _=>rfl) rfl rfl rfl
theorem zq0(hm:Cd W x K m w c s)(h1:bl<w.heap.size/\m.lab bl=0/\w.cell? ⟨bl,0,none⟩=some (ptr c))(h2:ba<w.heap.size/\m.lab ba=0/\w.cell? ⟨ba,0,none⟩=some (.int .i64 n))(hn:n<s.L.length)(hG:s.g<100000000):
  Cl 129 #[ptr bl,ptr ba] w λe w'=>e= .returned (.tuple #[])/\Cd W x K m w' c (s.land n):=by
 have hL:=Nat.lt_of_le_of_lt hm.ok.l hG
 obtain ⟨l1,h1,k1⟩:=h1
 obtain ⟨l2,h2,k2⟩:=h2
 obtain ⟨g,k,hlv,he,hf,hlg⟩:=hm.line hn
 have hc:=hm.c0
 rw [hlv] at hc
 have hz:=hm.ok.z _ (List.getElem_mem hn)
 have hds:=zaf s.L.length yai yai
 generalize hl:s.L[n]=l at*
 have hi1:(0:Int)<=(n:Int):=yai
 have hi2:(n:Int)<(s.L.length:Int):=yai
 have hs1: ¬9223372036854775807<1+(dec s.L.length).size:=yai
 have hs2: ¬9223372036854775807<l.size+(1+(dec s.L.length).size):=yai
 have KI:Hid (∀w0,Below w.heap.size w w0->Cl 68 #[.int .i64 s.L.length] w0 λe w'=>e= .returned (.string (dec s.L.length))/\Below w0.heap.size w0 w'):=hid λw0 hb=>by
  refine (Tryz.strconv_Itoa s.L.length yai yai w0 (hm.base.tab w0 (hm.low.trans (hb.mono hm.low.size)))).mono ?_
  rintro e w' ⟨rfl,k,os,rfl⟩
  exact ⟨rfl,zbs w0 k os⟩
 have hlz:(l++(ySp++dec s.L.length)).size<=200+30*(s.g+1):=by
  simp only [ByteArray.size_append]
  have:(ySp).size=1:=rfl
  omega
 have hld:s.land n={s with L:=s.L.set n (l++(ySp++dec s.L.length)),g:=s.g+1}:=by
  simp only [Ck.land,List.getElem?_eq_getElem hn,hl,Option.getD_some]
 have H:=hid hm
 have lc:c<w.heap.size:=blt hc
 have n1:bl≠g:=λe=>by rw [e,hlg] at h1;omega
 have n2:ba≠g:=λe=>by rw [e,hlg] at h2;omega
 have n3:c≠g:=λe=>by have:=H.out.lc;rw [e,hlg] at this;omega
 have lg:g<w.heap.size:=blt he
 clear hm
 go_enter Tryz.func129,Tryz.ntmps129
 go_wp2_with fail
 refine wp_region_held_drew (S:=(λw'=>w'.cell? ⟨bl,0,none⟩=some (ptr c)/\w'.cell? ⟨ba,0,none⟩=some (.int .i64 n)/\w'.cell? ⟨c,0,none⟩=some (.slice (some ⟨g,0,none⟩) s.L.length k))) yak ?_ (λhHeld=>?_)
 ·(try dsimp only);go_keep
 refine Qa 0 (h:=Qa 1 (h:=Qa 2 (h:=Qa 3 (h:=Qa 4 (h:=Qa 5 (h:=Qa 7 (h:=?_)))))))
 refine z6u [6,8] (.cons rfl (λKQ hKQ=>?_) (.cons rfl (λKQ hKQ=>?_) .nil))
 go_simp
 refine hKQ.out _ _ ?_ (λhHeld=>?_)
 ·exact z7i
 clear hKQ KQ
 refine z6u [8] (.cons rfl (λKQ hKQ=>?_) .nil)
 (go_simp;go_at_call 128;refine (zbu ⟨m,H.out.below (Qi _ w)⟩).mono ?_;rintro e w1 ⟨rfl,rfl⟩)
 refine hKQ.out _ _ ?_ (λhHeld=>?_)
 ·exact z7i
 clear hKQ KQ
 refine z6u [9] (.cons rfl (λKQ hKQ=>?_) .nil)
 (go_simp;go_at_call 68;refine (KI.out _ (Qi _ w)).mono ?_;rintro e w1 ⟨rfl,b1⟩;have b0:=(Qi w.heap.size w).trans b1;have q1:=(b0.cell (p:=⟨bl,0,none⟩) l1).trans k1;have q2:=(b0.cell (p:=⟨ba,0,none⟩) l2).trans k2;have q3:=(b0.cell (p:=⟨c,0,none⟩) lc).trans hc;have q4:=(b0.cell (p:=⟨g,n,none⟩) lg).trans he;have q5:=(b0.frozen (p:=⟨g,n,none⟩) lg).trans hf;have B0:=hid b0;clear b0 b1)
 refine hKQ.out _ _ ?_ (λhHeld=>?_)
 ·exact z7i
 clear hKQ KQ
 refine z6u [10] (.cons rfl (λKQ hKQ=>?_) .nil)
 go_simp
 rotate_left
 (go_simp;go_at_call 128;refine (zbu ⟨m,H.out.below (Qi _ w)⟩).mono ?_;rintro e w1 ⟨rfl,rfl⟩)
 refine hKQ.out _ _ ?_ (λhHeld=>?_)
 ·exact z7i
 clear hKQ KQ
 refine z6u [6,9] (.cons rfl (λKQ hKQ=>?_) (.cons rfl (λKQ hKQ=>?_) .nil))
 go_simp
 refine hKQ.out _ _ ?_ (λhHeld=>?_)
 ·exact z7i
 clear hKQ KQ
 refine z6u [9] (.cons rfl (λKQ hKQ=>?_) .nil)
 (go_simp;go_at_call 68;refine (KI.out _ (Qi _ w)).mono ?_;rintro e w1 ⟨rfl,b1⟩;have b0:=(Qi w.heap.size w).trans b1;have q1:=(b0.cell (p:=⟨bl,0,none⟩) l1).trans k1;have q2:=(b0.cell (p:=⟨ba,0,none⟩) l2).trans k2;have q3:=(b0.cell (p:=⟨c,0,none⟩) lc).trans hc;have q4:=(b0.cell (p:=⟨g,n,none⟩) lg).trans he;have q5:=(b0.frozen (p:=⟨g,n,none⟩) lg).trans hf;have B0:=hid b0;clear b0 b1)
 refine hKQ.out _ _ ?_ (λhHeld=>?_)
 ·exact z7i
 clear hKQ KQ
 refine z6u [10] (.cons rfl (λKQ hKQ=>?_) .nil)
 go_simp
 rotate_left
 (go_simp;go_at_call 68;refine (KI.out _ (Qi _ w)).mono ?_;rintro e w1 ⟨rfl,b1⟩;have b0:=(Qi w.heap.size w).trans b1;have q1:=(b0.cell (p:=⟨bl,0,none⟩) l1).trans k1;have q2:=(b0.cell (p:=⟨ba,0,none⟩) l2).trans k2;have q3:=(b0.cell (p:=⟨c,0,none⟩) lc).trans hc;have q4:=(b0.cell (p:=⟨g,n,none⟩) lg).trans he;have q5:=(b0.frozen (p:=⟨g,n,none⟩) lg).trans hf;have B0:=hid b0;clear b0 b1)
 refine hKQ.out _ _ ?_ (λhHeld=>?_)
 ·exact z7i
 clear hKQ KQ
 refine z6u [6,10] (.cons rfl (λKQ hKQ=>?_) (.cons rfl (λKQ hKQ=>?_) .nil))
 go_simp
 refine hKQ.out _ _ ?_ (λhHeld=>?_)
 ·exact z7i
 clear hKQ KQ
 refine z6u [10] (.cons rfl (λKQ hKQ=>?_) .nil)
 go_simp
 rotate_left
 go_simp
 refine hKQ.out _ _ ?_ (λhHeld=>?_)
 ·exact z7i
 clear hKQ KQ
 refine z6u [6] (.cons rfl (λKQ hKQ=>?_) .nil)
 go_simp
 rotate_left
 all_goals
  refine hKQ.out _ _ ?_ (λhHeld=>?_)
  ·exact z7i
  clear hKQ KQ
  refine Qa 11 (h:=Qa 12 (h:=?_))
  refine z6u [13] (.cons rfl (λKQ hKQ=>?_) .nil)
  go_simp
  refine hKQ.out _ _ ?_ (λhHeld=>?_)
  ·exact z7i
  clear hKQ KQ
  refine wpAnyH_done yak ?_ _
  go_end0
  exact ⟨rfl,by rw [hld];exact (H.out.below B0.out).landed (n:=n) hlv (l++(ySp++dec s.L.length)) hlz⟩
theorem Se(h:Cw W x K w c s)(h1:(bl,0,ptr c)∈K)(h2:(ba,0, .int .i64 n)∈K)(hn:n<s.L.length)(hG:s.g<100000000):
  Cl 129 #[ptr bl,ptr ba] w λe w'=>e= .returned (.tuple #[])/\Cw W x K w' c (s.land n):=by
 obtain ⟨m,hm⟩:=h
 exact (zq0 hm (hm.kp _ h1) (hm.kp _ h2) hn hG).mono λe w' ⟨he,h'⟩=>⟨he,m,h'⟩
end
def Shorts:List ByteArray->Prop
 |[]=>True
 |u::us=>u.size<=30/\Shorts us
theorem Shorts.all: ∀{ws:List ByteArray},Shorts ws->∀u∈ws,u.size<=30
 |[],_,u,hu=>by simp at hu
 |a::r,h,u,hu=>by
  rcases List.mem_cons.1 hu with rfl|hu
  ·exact h.1
  ·exact h.2.all u hu
section
variable{W w w':World}{x:Cx}{K:List (Nat×Nat×Value)}{m:Cm}{c:Nat}{s:Ck}
theorem zgh(w:World)(ws:List ByteArray)(t:TypeId): ∀(j:Nat) u,ws[j]?=some u->(w.alloc (.cells (ws.map .string).toArray t)).cell? ⟨w.heap.size,0+j,none⟩=some (.string u):=by
 intro j u hu
 rw [Nat.zero_add,World.cell?_alloc_new]
 simp [hu]
theorem Qp(h:Cw W x K w c s)(ws:List ByteArray)(hn:ws.length<=6)(hws:Shorts ws)(hG:s.g<100000000):
  Cl 67 #[ptr c, .slice (some ⟨w.heap.size,0,none⟩) ws.length ws.length] (w.alloc (.cells (ws.map .string).toArray 9)) λe w'=>e= .returned (.tuple #[])/\Cw W x K w' c (s.add ws):=
 z42 (h.alloc _) ws yaj (zgh w ws _) hn hws.all hG
theorem Xo(h:Cw W x K w c s)(ws:List ByteArray)(hn:ws.length<=6)(hws:Shorts ws)(hG:s.g<100000000):
  Cl 102 #[ptr c, .slice (some ⟨w.heap.size,0,none⟩) ws.length ws.length] (w.alloc (.cells (ws.map .string).toArray 9)) λe w'=>∃bl ba,e= .returned (zcx bl ba)/\Cw W x ((bl,0,ptr c)::(ba,0, .int .i64 s.L.length)::K) w' c (s.add ws):=
 z2m (h.alloc _) ws yaj (zgh w ws _) hn hws.all hG
theorem zai(h:Cd W x K m w c s)(ws:List ByteArray)(hn:ws.length<=6)(hws:Shorts ws)(hG:s.g<100000000):
  Cl 102 #[ptr c, .slice (some ⟨w.heap.size,0,none⟩) ws.length ws.length] (w.alloc (.cells (ws.map .string).toArray 9)) λe w'=>∃bl ba,e= .returned (zcx bl ba)/\Cv W x ((bl,0,ptr c)::(ba,0, .int .i64 s.L.length)::K) m w' c (s.add ws):=
 zyp (h.below ((Below.refl _ w).alloc (Nat.le_refl _) _)) ws yaj (zgh w ws _) hn hws.all hG
theorem Sp(n:Int)(h0:-9223372036854775808<=n)(h1:n<=9223372036854775807):(dec n).size<=30:=Nat.le_trans (zaf n h0 h1) yai
theorem zz1(n:Int)(h0:0<=n)(h1:n<=100):(Zy n).size<=30:=Nat.le_trans (zvg n yai yai) yai
theorem zn8(n:Int)(h0:0<=n)(h1:n<=100):(ze5 n).size<=30:=Sp _ yai yai
theorem Ea(h:x.th<=3)(n:Int)(h0:0<=n)(h1:n<=100):(x.own n).size<=30:=Sp _ yai yai
theorem zyq(h:x.th<=3):(x.lock).size<=30:=Sp _ yai yai
theorem zdt(h:zj0 W x)(u:ByteArray):(x.local u).size<=30:=by
 have:=zqz h u
 exact zz1 _ yai yai
theorem zaj(h:zj0 W x)(ha:a.ok):(x.val a).size<=30:=by
 unfold Cx.val
 split
 ·exact Sp _ ha.2.1 ha.2.2
 ·exact zdt h _
theorem zq1(h:Cw W x K w c s)(hn:n<100000000)(hG:s.g<100000000):
  Cl 130 #[ptr c, .int .i64 n] w λe w'=>e= .returned (.tuple #[])/\Cw W x K w' c (s.back n):=by
 have H:=hid h
 clear h
 go_enter Tryz.func130,Tryz.ntmps130
 go_wp2_with fail
 refine (zag H.out n yai yai).mono ?_
 rintro e w1 ⟨rfl,h1⟩
 have H1:=hid h1
 clear h1 H
 go_wp2_with fail
 refine (Qp H1.out [zaa,dec n] yaj ⟨by decide,Sp _ yai yai,trivial⟩ hG).mono ?_
 rintro e w2 ⟨rfl,h2⟩
 have H2:=hid h2
 clear h2 H1
 go_wp2
 go_end0
 exact ⟨rfl,H2.out⟩
theorem zdu(h:Cw W x K w c s)(hu:u.size<=30){n:Int}(h0:0<=n)(h1:n<=100)(hG:s.g+2<100000000):
  Cl 139 #[ptr c, .string u, .int .i64 n] w λe w'=>e= .returned (.tuple #[])/\Cw W x K w' c (Zu u n s):=by
 have H:=hid h
 clear h
 go_enter Tryz.func139,Tryz.ntmps139
 go_wp2_with fail
 go_region_law (first
  |(go_simp;go_at_call 162;refine (Fk H.out.drew n h0 h1).mono ?_;rintro e w1 ⟨rfl,q⟩;have H1:=hid q;clear q)
  |(go_simp;go_at_call 67;refine (Qp H1.out [Qw,yR4,u,ze5 n] yaj ⟨by decide,by decide,hu,zn8 n h0 h1,trivial⟩ yai).mono ?_;rintro e w2 ⟨rfl,q⟩;have H2:=hid q;clear q))
 go_wp2_with fail
 refine (Qp H2.out [yLt,yR4,yR4,yR6] yaj ⟨by decide,by decide,by decide,by decide,trivial⟩ ya0).mono ?_
 rintro e w3 ⟨rfl,q⟩
 have H3:=hid q
 clear q
 go_wp2
 go_end0
 exact ⟨rfl,H3.out⟩
end
section
variable{W w w':World}{x:Cx}{K:List (Nat×Nat×Value)}{m:Cm}{c:Nat}{s:Ck}
theorem Cd.isLeap(h:Cd W x K m w c s)(h1:(bl,0,ptr c)∈K)(h2:(ba,0, .int .i64 n)∈K):IsLeap m.lab w c (zcx bl ba) n:=
 ⟨bl,ba,rfl,h.kp _ h1,h.kp _ h2⟩
theorem Cd.pushTrap(h:Cd W x K m w c s)(hf:IsLeap m.lab w c f n)(hn:n<s.L.length)(hT:s.T.length+1<=s.g)
  (ho:w3.ownsRow 0 1 1 (.slice (some ⟨g,0,none⟩) (s.T.length+1) cp) (s.T.length+1) (m.TV++[f]))
  (hc:Chg (λk _=>m.tv.ownBlock=some k) w w3) (hg:m.tv.ownBlock=some g\/g=w.heap.size):
  Cw W x K (w3.setCell ⟨c,6,none⟩ (.slice (some ⟨g,0,none⟩) (s.T.length+1) cp)) c {s with T:=s.T++[n]}:=by
 have lb:=h.lt
 have nc: ¬m.tv.ownBlock=some c:=λe=>by have:=h.ltv _ e;rw [h.lc] at this;omega
 have hgc:g≠c:=z96
 have hgs:g<w3.heap.size:=(ho.lt g rfl).2
 have hset:Chg (λk j=>k=c/\j=6) w3 (w3.setCell ⟨c,6,none⟩ (.slice (some ⟨g,0,none⟩) (s.T.length+1) cp)):=(Chg.refl _ w3).setCell (λ_=>⟨rfl,rfl⟩) _
 have hall:Chg (λk j=>m.tv.ownBlock=some k\/(k=c/\j=6)) w (w3.setCell ⟨c,6,none⟩ (.slice (some ⟨g,0,none⟩) (s.T.length+1) cp)):=(hc.mono (λ_ _ _ e=> .inl e)).trans (hset.mono (λ_ _ _ e=> .inr e))
 have hold: ∀k,k<w.heap.size->(if k=g then 3 else m.lab k)=m.lab k:=by
  intro k hk
  by_cases e:k=g
  ·rw [if_pos e]
   rcases hg with hg|hg
   ·rw [e];exact (h.ltv g hg).symm
   ·omega
  ·rw [if_neg e]
 have nk: ∀k l,m.lab k=l->l≠3->l≠1->∀j,¬(m.tv.ownBlock=some k\/(k=c/\j=6)):=λk l hk h1 h2 j e=>by
  rcases e with e|e
  ·exact h1 (hk.symm.trans (h.ltv k e))
  ·exact h2 (hk.symm.trans (e.1▸h.lc))
 have kc: ∀j,j≠6->¬(m.tv.ownBlock=some c\/(c=c/\j=6)):=λj hj e=>e.elim nc (λe=>hj e.2)
 have hM: ∀k j,k<w.heap.size->(m.tv.ownBlock=some k\/(k=c/\j=6))->m.lab k≠0:=by
  rintro k j _ (e|⟨rfl,_⟩)
  ·rw [h.ltv k e];omega
  ·rw [h.lc];omega
 refine ⟨{m with lab:=λk=>if k=g then 3 else m.lab k,tv:= .slice (some ⟨g,0,none⟩) (s.T.length+1) cp,TV:=m.TV++[f]},h.turn ?_ hall ?_ hold ?_ ((hall.cell _ _ lb (kc 0 yai)).trans h.c0) ((hall.cell _ _ lb (kc 4 yai)).trans h.c4) ((hall.cell _ _ lb (kc 5 yai)).trans h.c5) (Qg ((hc.cell _ _ lb nc).trans h.c6) rfl) (Qc h.lrow hall (λq hq=>nk _ _ (h.llv q hq) yai yai)) ?_ ((h.tl.push hf).keep hall hM λk hk e=>(hold k hk).trans e) ?_ ?_ ?_⟩
 ·refine ⟨h.ok.l,h.ok.z,by simpa using hT,λn' hn'=>?_,h.ok.u⟩
  rcases List.mem_append.1 hn' with q|q
  ·exact h.ok.tb n' q
  ·rw [List.mem_singleton.1 q];exact hn
 ·exact z9w
 ·intro k hk
  have:w3.heap.size<=k:=ya9
  show (if k=g then 3 else m.lab k)=0
  rw [if_neg yai]
  exact h.lz k (Nat.le_trans hc.size this)
 ·exact z8u
 ·exact z9a
 ·intro q hq
  exact (hold q (h.lrow.lt q hq).2).trans (h.llv q hq)
 ·intro q hq
  simp [Value.ownBlock] at hq
  subst hq
  exact if_pos rfl
theorem Cd.pushUndo(h:Cd W x K m w c s){k:Bk}(hk:s.blk=some k)(hf:IsLeap m.lab w c f n)(hn:n<s.L.length)(hU:k.undo.length+1<=s.g)
  (ho:w3.ownsRow 0 1 1 (.slice (some ⟨g,0,none⟩) (k.undo.length+1) cp) (k.undo.length+1) (m.UV++[f]))
  (hc:Chg (λk _=>m.uv.ownBlock=some k) w w3) (hg:m.uv.ownBlock=some g\/g=w.heap.size):
  Cw W x K (w3.setCell ⟨m.b,18,none⟩ (.slice (some ⟨g,0,none⟩) (k.undo.length+1) cp)) c {s with blk:=some {k with undo:=k.undo++[n]}}:=by
 have lb:=h.lt
 have hb:=h.bk k hk
 have lbb:=Qd hb.sh
 have nc: ¬m.uv.ownBlock=some m.b:=λe=>by have:=hb.luv _ e;rw [hb.lbk] at this;omega
 have hgc:g≠m.b:=z96
 have hgs:g<w3.heap.size:=(ho.lt g rfl).2
 have hset:Chg (λk j=>k=m.b/\j=18) w3 (w3.setCell ⟨m.b,18,none⟩ (.slice (some ⟨g,0,none⟩) (k.undo.length+1) cp)):=(Chg.refl _ w3).setCell (λ_=>⟨rfl,rfl⟩) _
 have hall:Chg (λk j=>m.uv.ownBlock=some k\/(k=m.b/\j=18)) w (w3.setCell ⟨m.b,18,none⟩ (.slice (some ⟨g,0,none⟩) (k.undo.length+1) cp)):=(hc.mono (λ_ _ _ e=> .inl e)).trans (hset.mono (λ_ _ _ e=> .inr e))
 have hold: ∀k,k<w.heap.size->(if k=g then 5 else m.lab k)=m.lab k:=by
  intro k hk
  by_cases e:k=g
  ·rw [if_pos e]
   rcases hg with hg|hg
   ·rw [e];exact (hb.luv g hg).symm
   ·omega
  ·rw [if_neg e]
 have nk: ∀k l,m.lab k=l->l≠5->l≠4->∀j,¬(m.uv.ownBlock=some k\/(k=m.b/\j=18)):=λk l hk h1 h2 j e=>by
  rcases e with e|e
  ·exact h1 (hk.symm.trans (hb.luv k e))
  ·exact h2 (hk.symm.trans (e.1▸hb.lbk))
 have kb: ∀j,j≠18->(w3.setCell ⟨m.b,18,none⟩ (.slice (some ⟨g,0,none⟩) (k.undo.length+1) cp)).cell? ⟨m.b,j,none⟩=w.cell? ⟨m.b,j,none⟩:=λj hj=>hall.cell _ _ lbb (λe=>e.elim nc (λe=>hj e.2))
 have hM: ∀k j,k<w.heap.size->(m.uv.ownBlock=some k\/(k=m.b/\j=18))->m.lab k≠0:=by
  rintro k j _ (e|⟨rfl,_⟩)
  ·rw [hb.luv k e];omega
  ·rw [hb.lbk];omega
 have kc:=nk c 1 h.lc yai yai
 refine ⟨{m with lab:=λk=>if k=g then 5 else m.lab k,uv:= .slice (some ⟨g,0,none⟩) (k.undo.length+1) cp,UV:=m.UV++[f]},h.turn ?_ hall ?_ hold ?_ ((hall.cell _ _ lb (kc 0)).trans h.c0) ((hall.cell _ _ lb (kc 4)).trans h.c4) ?_ ((hall.cell _ _ lb (kc 6)).trans h.c6) (Qc h.lrow hall (λq hq=>nk _ _ (h.llv q hq) yai yai)) (Qc h.trow hall (λq hq=>nk _ _ (h.ltv q hq) yai yai)) (h.tl.keep hall hM λk hk e=>(hold k hk).trans e) ?_ ?_ ?_⟩
 ·refine ⟨h.ok.l,h.ok.z,h.ok.t,h.ok.tb,λk' hk'=>?_⟩
  cases hk'
  refine ⟨by simpa using hU,λn' hn'=>?_⟩
  rcases List.mem_append.1 hn' with q|q
  ·exact (h.ok.u k hk).2 n' q
  ·rw [List.mem_singleton.1 q];exact hn
 ·intro k j hk e
  exact ⟨hM k j hk e,λec=>(kc j (ec▸e)).elim⟩
 ·intro k hk
  have:w3.heap.size<=k:=ya9
  show (if k=g then 5 else m.lab k)=0
  rw [if_neg yai]
  exact h.lz k (Nat.le_trans hc.size this)
 ·have:=(hall.cell _ _ lb (kc 5)).trans h.c5
  rw [this]
  simp only [zjz,hk]
 ·intro k' hk'
  cases hk'
  exact {
   sh:=(hall.shape _ lbb).trans hb.sh
   g:=λi v hv=>by
    have:i<6:=ydg
    exact (kb i yai).trans (hb.g i v hv)
   p:=λi v hv=>by
    have:i<6:=ydh
    exact (kb (6+i) yai).trans (hb.p i v hv)
   ch:=λi v hv=>by
    have:i<4:=ydi
    exact (kb (12+i) yai).trans (hb.ch i v hv)
   gv:=(kb 16 yai).trans hb.gv
   ag:=(kb 17 yai).trans hb.ag
   un:=Qg ((hc.cell _ _ lbb nc).trans hb.un) rfl
   free:=λj=>(hall.frozen _ _ lbb).trans (hb.free j)
   urow:=z8u
   ul:=(hb.ul.push hf).keep hall hM λk hk e=>(hold k hk).trans e
   lbk:=(hold _ lbb).trans hb.lbk
   luv:=λq hq=>by
    simp [Value.ownBlock] at hq
    subst hq
    exact if_pos rfl
   n1:=hb.n1,n2:=hb.n2,n3:=hb.n3}
 ·intro q hq
  exact (hold q (h.lrow.lt q hq).2).trans (h.llv q hq)
 ·intro q hq
  exact (hold q (h.trow.lt q hq).2).trans (h.ltv q hq)
theorem zyr:(Tryz.prog.info? 1).map (λi=>(i.zero,i.size,i.bytes))=some (some .nilFunc,1,8):=yak
end
end Go.Proofs.YtphcopbffecceaaGreatDoor
