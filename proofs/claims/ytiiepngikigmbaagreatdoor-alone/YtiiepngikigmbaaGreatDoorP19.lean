import Derived.Deep.RegionLaw
import Derived.Test.YtiiepngikigmbaaGreatDoorP18
import Derived.Test.YtiiepngikigmbaaGreatDoorAs
set_option maxRecDepth 100000
set_option maxHeartbeats 2000000
namespace Go.Proofs.YtiiepngikigmbaaGreatDoor
open Go.RowKit
variable{W w w3 wr:World}{ws ws1:List ByteArray}{bf bm g i r:Nat}{P:Program}{o1 o2:Obj}{tv:Value}{u:ByteArray}{er ln:Int}{l:List (String×DataW Unit)}
theorem yaa(W:World)(s:ByteArray)(Post:World->Prop)
  (hread:Hid (Cl 23 #[.string s, .int .i64 131072, .func (.func 36) #[] #[ptr W.heap.size]] (W.alloc (.cells #[.slice none 0 0] 53)) λe w'=>e= .returned .nilIface/\Post w'/\ ∃a k c,w'.cell? ⟨W.heap.size,0,none⟩=some (.slice a k c))):
  Cl 17 #[.string s] W λe w'=>∃a k c,e= .returned (.tuple #[.slice a k c, .nilIface])/\w'.cell? ⟨W.heap.size,0,none⟩=some (.slice a k c)/\Post w':=by
 have hmf: ∀(fn:Fn) (first cap:Array Value) (w:World),(Instr.makeFunc fn first cap).run Tryz.prog w= .ok (.func fn first cap) w:=λ_ _ _ _=>rfl
 go_enter Tryz.func17,Tryz.ntmps17
 go_wp2_with fail
 refine hread.out.mono ?_
 rintro e w1 ⟨rfl,hp,a,k,c,hc⟩
 have HP:=hid hp
 clear hp hread
 go_wp2
 go_ret2
 exact ⟨a,k,c,rfl,hc,HP.out⟩
theorem zqj{ops:Array Oper}{o:Oper}{a:Act}{K:Act->World->Prop}{Q:Exit->Act->World->Prop}{E:Prop}(hgd:o.guard=none)(s x:Operand)(t:TypeId)
  (ho:o.op= .call {callee:= .builtin .append,args:=#[s,x],argTypes:=#[t,t]})
  (e:TypeId) (i:TypeInfo) (z:Value) (bytes:Nat) (ht:P.underlying t=some (.slice e)) (hi:P.info? e=some i) (hz:i.zero=some z) (hsize:i.size=1) (hby:i.bytes=bytes) (hzs:z.cells.size=1)
  (v:Value) (n:Nat) (xs:List Value) (hs:a.eval s=v) (hown:w.ownsRow 0 e 1 v n xs) (ad:Addr) (u:Value) (hx:a.eval x= .slice (some ad) 1 1) (hu: ∀j u',[u][j]?=some u'->w.cell? (ad.add j)=some u') (hu1:u.oneCell'=true) (h63:n+1<=maxLen) (hbytes:(n+1)*bytes<=140737488355328)
  (h: ∀g cap w',w'.ownsRow 0 e 1 (.slice (some ⟨g,0,none⟩) (n+1) cap) (n+1) (xs++[u])->Chg (λk _=>v.ownBlock=some k) w w'->(v.ownBlock=some g\/g=w.heap.size)->K (a.put o.dst (.slice (some ⟨g,0,none⟩) (n+1) cap)) w'):
  if Region.wanted o (yielded ops a.tmps)=true then Oper.wp P o a w K Q else E:=by
 have hw:Region.wanted o (yielded ops a.tmps)=true:=by simp [Region.wanted,hgd]
 rw [if_pos hw]
 obtain ⟨g,cap,w',hr,h2,h3,h4⟩:=zlx (P:=P) w t o.type e i z bytes ht hi hz hsize hby hzs v n xs hown ad u hu hu1 h63 hbytes
 unfold Oper.wp execOp
 simp only [ho,resolve,invoke,builtin,Sem.run_bind,Sem.run_pure,Result.andThen_ok,List.map_toArray,List.map_cons,List.map_nil,hs,hx,hr]
 exact h g cap w' h2 h3 h4
theorem yg4{u:Value}(hc:Chg (λj _=>tv.ownBlock=some j) ((wr.drew.alloc o1).alloc o2) w3)(h5:tv.ownBlock≠some bm)(hlt:bm<wr.heap.size)(h:wr.cell? ⟨bm,256,none⟩=some u):w3.cell? ⟨bm,256,none⟩=some u:=
 (hc.cell bm 256 yma h5).trans ((World.cell?_alloc_past _ _ _ yma).trans ((World.cell?_alloc_past (w:=wr.drew) _ _ _ hlt).trans h))
theorem yg5(hc:Chg (λj _=>tv.ownBlock=some j) ((wr.drew.alloc o1).alloc o2) w3)(hlt:bm<wr.heap.size)(h:wr.frozen? ⟨bm,256,none⟩=false):w3.frozen? ⟨bm,256,none⟩=false:=
 (hc.frozen bm 256 yma).trans ((World.frozen?_alloc_past _ _ _ yma).trans ((World.frozen?_alloc_past (w:=wr.drew) _ _ _ hlt).trans h))
theorem yh5:(Tryz.prog.info? 62).map (λi=>(i.zero,i.size,i.bytes))=some (some (.pointer none),1,8):=yl7
theorem yej(W:World)(s:ByteArray)(n:Nat)(hn:n<100000)(Start:Nat->World->Prop)(Inv:Nat->Nat->Nat->World->Prop)
  (hread:Hid (Cl 17 #[.string s] W λe w'=>∃g cap,e= .returned (.tuple #[.slice (some ⟨g,0,none⟩) n cap, .nilIface])/\n<=cap/\Start g w'))
  (h0:Hid (∀g w,Start g w->Inv g w.heap.size 0 (w.alloc (.cells Tryz.zeroCells60 60))))
  (hk:Hid (∀g bm k w,Inv g bm k w->k<n->∃a m c tv xs,w.cell? ⟨g,k,none⟩=some (.slice a m c)/\w.cell? ⟨bm,256,none⟩=some tv/\w.frozen? ⟨bm,256,none⟩=false/\w.ownsRow 0 62 1 tv k xs/\tv.ownBlock≠some bm/\bm<w.heap.size/\
    ∀q cp w3,w3.ownsRow 0 62 1 (.slice (some ⟨q,0,none⟩) (k+1) cp) (k+1) (xs++[ptr w.heap.size])->Chg (λj _=>tv.ownBlock=some j) ((w.drew.alloc (.cells (z7w bm (.slice a m c)) 125)).alloc (.cells #[ptr w.heap.size] 62)) w3->(tv.ownBlock=some q\/q=w.heap.size+2)->Inv g bm (k+1) (w3.setCell ⟨bm,256,none⟩ (.slice (some ⟨q,0,none⟩) (k+1) cp)))):
  Cl 10 #[.string s] W λe w'=>∃g bm,e= .returned (.tuple #[ptr bm, .nilIface])/\Inv g bm n w':=by
 obtain ⟨i0,hi,hz0,hz1,hz2⟩:=info_parts yh5
 go_enter Tryz.func10,Tryz.ntmps10
 go_wp2_with fail
 refine hread.out.mono ?_
 rintro e w1 ⟨g,cap,rfl,hnc,hp⟩
 have HP:=hid (h0.out g w1 hp)
 clear hp hread h0
 go_wp2
 go_loopw [21] (λv wr=>∃k:Nat,k<=n/\v= .int .i64 k/\Inv g w1.heap.size k wr) (λv _=>n- (intOf v).toNat)
 case atStart=>exact ⟨0,by omega,rfl,HP.out⟩
 case round=>
  obtain ⟨k,hkn,rfl,hI⟩:=hrel
  have HI:=hid hI
  clear hI HP
  by_cases hlt:k<n
  ·have hlt':(k:Int)<n:=by omega
   obtain ⟨a,m,c,tv,xs,q1,q2,q3,q4,q5,q6,q7⟩:=hk.out _ _ _ _ HI.out hlt
   have Q4:=hid q4
   have Q7:=hid q7
   have Q5:=hid q5
   have hl1:k+1<=maxLen:=ymb
   have hl2:(k+1)*8<=140737488355328:=yl5
   have O1:Hid (((wr.drew.alloc (.cells (z7w w1.heap.size (.slice a m c)) 125)).alloc (.cells #[ptr wr.heap.size] 62)).ownsRow 0 62 1 tv k xs):=(World.ownsRow.alloc (World.ownsRow.alloc (w:=wr.drew) q4 _) _)
   have C1:Hid (∀j u',[ptr wr.heap.size][j]?=some u'->((wr.drew.alloc (.cells (z7w w1.heap.size (.slice a m c)) 125)).alloc (.cells #[ptr wr.heap.size] 62)).cell? ((⟨wr.heap.size+1,0,none⟩:Addr).add j)=some u'):=by
    have:=cell_one_new (wr.drew.alloc (.cells (z7w w1.heap.size (.slice a m c)) 125)) (ptr wr.heap.size) 62
    have hs:(wr.drew.alloc (.cells (z7w w1.heap.size (.slice a m c)) 125)).heap.size=wr.heap.size+1:=yl6
    rw [hs] at this
    exact this
   clear q4 q7 q5 HI hk
   go_wp2_with fail
   go_region_law (first
    |(go_simp;go_at_call 18;refine (ya8 _ _ _ _ _).mono ?_;rintro e w' ⟨rfl,rfl⟩)
    |(refine zqj rfl (.tmp 29) (.tmp 35) 58 rfl 62 i0 (.pointer none) 8 Tryz.underlying58 hi hz0 hz1 hz2 rfl tv k xs rfl O1.out ⟨wr.heap.size+1,0,none⟩ (ptr wr.heap.size) rfl C1.out rfl hl1 hl2 ?_;intro q cp w3 ho hc hg;have hcb:=yg4 hc Q5.out q6 q2;have hfb:=yg5 hc q6 q3;have HO:=hid ho;have HC:=hid hc;have HG:=hid hg;clear ho hc hg))
   all_goals
    go_wp2
    go_roundw
    case rel=>exact ⟨k+1,by omega,by go_num,Q7.out q cp w3 HO.out HC.out (HG.out.imp id (λe=>e.trans yl6))⟩
    case measure=>simp [intOf];omega
  ·have hlt': ¬(k:Int)<n:=by omega
   obtain rfl:k=n:=yl5
   go_wp2
   go_ret2
   exact ⟨_,_,rfl,HI.out⟩
theorem Fi(w:World)(cs:Array Value)(t:TypeId):(w.alloc (.cells cs t)).shape? w.heap.size=some (t,cs.size):=ykz
section
variable{W:World}{wd:Nat->ByteArray}{cs:List (List Ic)}{r:List UInt8}{j:Nat}{w:World}
end
theorem yc7: ∀args w,(callFunc 36 args).run Tryz.prog w= .ok (.enter 36 args) w:=λ_ _=>by kernel_rfl
theorem yar:Tryz.zeroCells60=(Array.replicate 256 (.int .i64 0)).push (.slice none 0 0):=yl7
theorem ygg(w:World):MemAt (w.alloc (.cells Tryz.zeroCells60 60)) w.heap.size (λ_=>0)/\(w.alloc (.cells Tryz.zeroCells60 60)).cell? ⟨w.heap.size,256,none⟩=some (.slice none 0 0):=by
 refine ⟨⟨?_,?_,λj _=>by simp⟩,?_⟩
 ·rw [Fi,yar];simp
 ·intro j hj
  rw [World.cell?_alloc_new,yar,Array.getElem?_push_lt yml]
  simp
 ·rw [World.cell?_alloc_new,yar,Array.getElem?_push];simp
section
variable(W:World)(cs:List (List Ic))
def yh6(g bm k:Nat)(w:World):Prop:=∃(cap:Nat) (xs:List Value) (bs:List Nat) (tv:Value),RowsAt W.heap.size w (.slice (some ⟨g,0,none⟩) cs.length cap) cs xs/\Below W.heap.size W w/\W.heap.size<=bm/\MemAt w bm (λ_=>0)/\w.cell? ⟨bm,256,none⟩=some tv/\w.ownsRow 0 62 1 tv k (bs.map ptr)/\
 (∀q,tv.ownBlock=some q->W.heap.size<=q)/\(∀(j b:Nat),bs[j]?=some b->W.heap.size<=b/\ ∃iv,xs[j]?=some iv/\ThAt w b bm iv (.slice none 0 0) Th.init)/\bs.Nodup
variable{W cs}
theorem yc8{cap:Nat}{xs:List Value}(h:RowsAt W.heap.size w (.slice (some ⟨g,0,none⟩) cs.length cap) cs xs)(hb:Below W.heap.size W w):yh6 W cs g w.heap.size 0 (w.alloc (.cells Tryz.zeroCells60 60)):=by
 have hc:Chg (λ_ _=>False) w (w.alloc (.cells Tryz.zeroCells60 60)):=(Chg.refl _ w).alloc _
 exact ⟨cap,xs,[], .slice none 0 0,h.keep hc (λ_ _ _ e=>e),hb.alloc hb.size _,hb.size,(ygg w).1,(ygg w).2,yei _ _,λq hq=>by simp [Value.ownBlock] at hq,λj b hj=>by simp at hj,List.nodup_nil⟩
theorem yek{k:Nat}(h:yh6 W cs g bm k w)(hk:k<cs.length): ∃a m c tv xs,w.cell? ⟨g,k,none⟩=some (.slice a m c)/\w.cell? ⟨bm,256,none⟩=some tv/\w.frozen? ⟨bm,256,none⟩=false/\w.ownsRow 0 62 1 tv k xs/\tv.ownBlock≠some bm/\bm<w.heap.size/\
  ∀q cp w3,w3.ownsRow 0 62 1 (.slice (some ⟨q,0,none⟩) (k+1) cp) (k+1) (xs++[ptr w.heap.size])->Chg (λj _=>tv.ownBlock=some j) ((w.drew.alloc (.cells (z7w bm (.slice a m c)) 125)).alloc (.cells #[ptr w.heap.size] 62)) w3->(tv.ownBlock=some q\/q=w.heap.size+2)->yh6 W cs g bm (k+1) (w3.setCell ⟨bm,256,none⟩ (.slice (some ⟨q,0,none⟩) (k+1) cp)):=by
 obtain ⟨cap,xs,bs,tv,h1,h2,h3,h4,h5,h6,h7,h8,h9⟩:=h
 have hlen:=h1.len
 obtain ⟨iv,hiv⟩: ∃iv,xs[k]?=some iv:=⟨_,List.getElem?_eq_getElem yl5⟩
 obtain ⟨co,hco,hrow⟩:=h1.row k iv hiv
 obtain ⟨a,m,c,rfl⟩: ∃a m c,iv= .slice a m c:=by
  rcases hrow.2 with ⟨e1,_⟩|⟨g',cap',cur,e1,_⟩
  ·exact ⟨_,_,_,e1⟩
  ·exact ⟨_,_,_,e1⟩
 have hbl:bs.length=k:=by have:=h6.1;simp at this;omega
 have htm:tv.ownBlock≠some bm:=λe=>by
  obtain ⟨n,hs⟩:=z7e h6 bm e
  rw [h4.sh] at hs
  simp at hs
 have hgc:=(Qm h1.own k hk).1.trans hiv
 refine ⟨a,m,c,tv,bs.map ptr,hgc,h5,h4.free 256 yl5,h6,htm,h4.lt,?_⟩
 intro q cp w3 ho hc hq
 have d1:Chg (λj (_:Nat)=>tv.ownBlock=some j) w ((w.drew.alloc (.cells (z7w bm (.slice a m c)) 125)).alloc (.cells #[ptr w.heap.size] 62)):=(((Chg.refl _ w).drew).alloc _).alloc _
 have d2:Chg (λj (_:Nat)=>tv.ownBlock=some j) w w3:=d1.trans hc
 have d3:Chg (λj i=>j=bm/\i=256) w3 (w3.setCell ⟨bm,256,none⟩ (.slice (some ⟨q,0,none⟩) (k+1) cp)):=(Chg.refl _ w3).setCell (λ_=>⟨rfl,rfl⟩) _
 have d4:Chg (λj i=>tv.ownBlock=some j\/(j=bm/\i=256)) w (w3.setCell ⟨bm,256,none⟩ (.slice (some ⟨q,0,none⟩) (k+1) cp)):=(d2.mono (λ_ _ _ e=> .inl e)).trans (d3.mono (λ_ _ _ e=> .inr e))
 have hbm3:bm<w3.heap.size:=Nat.lt_of_lt_of_le h4.lt d2.size
 have hsq: ∃n,w3.shape? q=some (62,n):=z7e ho q rfl
 have hqb:q≠bm:=λe=>by
  obtain ⟨n,hs⟩:=hsq
  rw [e,d2.shape bm h4.lt,h4.sh] at hs
  simp at hs
 have hwq:W.heap.size<=q:=by
  rcases hq with e|e
  ·exact h7 q e
  ·have:=h2.size;omega
 have hrowy: ∀j i,yis w j->¬(tv.ownBlock=some j\/(j=bm/\i=256)):=by
  rintro j i hr (e|e)
  ·obtain ⟨n,hs⟩:=z7e h6 j e
   exact z72 hs yl8 yl8 hr
  ·exact z72 (e.1▸h4.sh) yl8 yl8 hr
 have hcell256:w3.cell? ⟨bm,256,none⟩=some tv:=(d2.cell bm 256 h4.lt htm).trans h5
 refine ⟨cap,xs,bs++[w.heap.size], .slice (some ⟨q,0,none⟩) (k+1) cp,h1.keep d4 hrowy,h2.trans (d4.below h2.size ?_),h3,h4.keep d4 ?_,Qg hcell256 rfl,?_,?_,?_,?_⟩
 ·rintro j i (e|e)
  ·exact h7 j e
  ·omega
 ·rintro i hi (e|e)
  ·exact htm e
  ·omega
 ·refine Qc ?_ d3 (λg' hg' i e=>?_)
  ·simpa using ho
  ·simp [Value.ownBlock] at hg'
   exact hqb (hg'.trans e.1)
 ·intro q' hq'
  simp [Value.ownBlock] at hq'
  omega
 ·intro j b hj
  rw [List.getElem?_append] at hj
  split at hj
  ·obtain ⟨e1,iv',e2,e3⟩:=h8 j b hj
   refine ⟨e1,iv',e2,e3.keep d4 ?_ (λg' hg'=>by simp [Value.ownBlock] at hg')⟩
   rintro i (e|e)
   ·obtain ⟨n,hs⟩:=z7e h6 b e
    rw [e3.sh] at hs
    simp at hs
   ·exact e3.ne h4 e.1
  ·rename_i hlt
   have hjk:j=k:=by
    have:=(List.getElem?_eq_some_iff.1 hj).1
    simp at this
    omega
   subst hjk
   simp [hbl] at hj
   subst hj
   refine ⟨h2.size,_,hiv,?_⟩
   have t0:ThAt (w.drew.alloc (.cells (z7w bm (.slice a m c)) 125)) w.heap.size bm (.slice a m c) (.slice none 0 0) Th.init:=yfs w.drew bm (.slice a m c)
   have t1:=t0.below (w':=(w.drew.alloc (.cells (z7w bm (.slice a m c)) 125)).alloc (.cells #[ptr w.heap.size] 62)) ((Below.refl _ _).alloc (Nat.le_refl _) _)
   have t2:=t1.keep hc (λi e=>by
    obtain ⟨n,hs⟩:=z7e h6 w.heap.size e
    have:=Qd hs
    omega) (λg' hg'=>by simp [Value.ownBlock] at hg')
   exact t2.keep d3 (λi e=>by have:=h4.lt;omega) (λg' hg'=>by simp [Value.ownBlock] at hg')
 ·refine List.nodup_append.2 ⟨h9,by simp,?_⟩
  intro x hx y hy
  simp at hy
  subst hy
  obtain ⟨j,hj,rfl⟩:=List.mem_iff_getElem.1 hx
  obtain ⟨_,iv',_,e3⟩:=h8 j bs[j] (List.getElem?_eq_getElem hj)
  have:=e3.lt
  omega
theorem yfv(h:yh6 W cs g bm cs.length w)(hne:0<cs.length):MRep (λk=>W.heap.size<=k) w bm (cs.map λc=>(Th.init,c)) (λ_=>0)/\Below W.heap.size W w:=by
 obtain ⟨cap,xs,bs,tv,h1,h2,h3,h4,h5,h6,h7,h8,h9⟩:=h
 have hlen:=h1.len
 have hbl:bs.length=cs.length:=by have:=h6.1;simp at this;omega
 have hts: ∀i (hi:i<(bs.zip (xs.zip cs)).length),i<bs.length/\i<xs.length/\i<cs.length:=by
  intro i hi;simp at hi;omega
 refine ⟨⟨(bs.zip (xs.zip cs)).map λp=>{b:=p.1,iv:=p.2.1,ov:= .slice none 0 0,T:=Th.init,code:=p.2.2},?_,?_⟩,h2⟩
 ·have hl:((bs.zip (xs.zip cs)).map λp=>({b:=p.1,iv:=p.2.1,ov:= .slice none 0 0,T:=Th.init,code:=p.2.2}:Tr)).length=cs.length:=by simp;omega
  have hget: ∀i (hi:i<((bs.zip (xs.zip cs)).map λp=>({b:=p.1,iv:=p.2.1,ov:= .slice none 0 0,T:=Th.init,code:=p.2.2}:Tr)).length),((bs.zip (xs.zip cs)).map λp=>({b:=p.1,iv:=p.2.1,ov:= .slice none 0 0,T:=Th.init,code:=p.2.2}:Tr))[i]={b:=bs[i]'(by omega),iv:=xs[i]'(by omega),ov:= .slice none 0 0,T:=Th.init,code:=cs[i]'(by omega)}:=by
   intro i hi;simp
  refine ⟨h4,?_,?_,?_,?_,h3,?_,?_⟩
  ·rcases h6.2 with ⟨_,e⟩|⟨bt,cp,cur,e1,_,e3,_⟩
   ·omega
   ·subst e1
    obtain ⟨n,hs⟩:=z7e h6 bt rfl
    refine ⟨bt,cp,n,by rw [h5,hl],⟨hs,h7 bt rfl⟩,?_⟩
    intro i hi
    have hi':i<bs.length:=yl5
    rw [(Qm h6 i yl5).1,hget i hi]
    simp [hi']
  ·intro i hi
   rw [hget i hi]
   obtain ⟨_,iv,e1,e2⟩:=h8 i (bs[i]'(by omega)) (List.getElem?_eq_getElem yl5)
   rw [List.getElem?_eq_getElem yl5] at e1
   cases e1
   exact e2
  ·intro i hi
   rw [hget i hi]
   have hxi:=List.getElem?_eq_getElem (l:=xs) (i:=i) yl5
   obtain ⟨co,e1,e2⟩:=h1.row i _ hxi
   rw [List.getElem?_eq_getElem yl5] at e1
   cases e1
   show ycg _ _ (xs[i]'(by omega)) (cs[i]'(by omega))
   have hlow:=h1.lowr i _ hxi
   generalize (xs[i]'(by omega))=iv at e2 hlow
   rcases e2.2 with ⟨q1,q2⟩|⟨bi,cp,cur,q1,_⟩
   ·exact .inl ⟨q1,List.length_eq_zero_iff.1 q2⟩
   ·subst q1
    obtain ⟨n,hs⟩:=z7e e2 bi rfl
    refine .inr ⟨bi,cp,n,rfl,⟨hs,hlow bi rfl⟩,?_⟩
    intro j hj
    rw [(Qm e2 j hj).1]
    simp [hj]
  ·intro i j hi hj hij
   rw [hget i hi,hget j hj]
   refine ⟨λe=>?_,λk hk=>by simp [Value.ownBlock] at hk⟩
   rcases Nat.lt_or_gt_of_ne hij with hlt|hlt
   ·exact (List.pairwise_iff_getElem.1 h9) i j yl5 yl5 hlt e
   ·exact (List.pairwise_iff_getElem.1 h9) j i yl5 yl5 hlt e.symm
  ·intro i hi
   rw [hget i hi]
   exact (h8 i (bs[i]'(by omega)) (List.getElem?_eq_getElem yl5)).1
  ·intro i hi k hk
   rw [hget i hi] at hk
   simp [Value.ownBlock] at hk
 ·apply List.ext_getElem
  ·simp;omega
  ·intro i h1 h2
   simp
end
theorem zhk(h:Jt u=some r):r<8:=by
 unfold Jt at h
 split at h
 ·split at h
  ·rename_i hc;simp at h;omega
  ·simp at h
 ·simp at h
theorem zdn(h:zhi ws=some (r,ws1)):r<8:=by
 cases ws with
 |nil=>simp [zhi] at h
 |cons u ws=>
  simp [zhi] at h
  obtain ⟨r',h1,rfl,_⟩:=h
  exact zhk h1
theorem Gz{x:Vl}(h:zbp ws=some (x,ws1)):x.ok:=by
 cases ws with
 |nil=>simp [zbp] at h
 |cons u ws=>
  simp only [zbp] at h
  split at h
  ·rename_i r hr
   simp at h
   obtain ⟨rfl,_⟩:=h
   intro _
   have:=zhk hr
   show (0:Int)<=(r:Int)/\(r:Int)<8
   omega
  ·simp at h
   obtain ⟨v,_,rfl,_⟩:=h
   intro h
   simp at h
theorem zc1{c:Vl×Int}(h:Ez ws=some (c,ws1)):c.1.ok:=by
 unfold Ez at h
 cases h1:zbp ws with
 |none=>simp [h1] at h
 |some q=>
  cases h2:zco q.2 with
  |none=>simp [h1,h2] at h
  |some q2=>
   simp [h1,h2] at h
   obtain ⟨rfl,_⟩:=h
   exact Gz (ws1:=q.2) h1
theorem z18(v:Int):(⟨false,v⟩:Vl).ok:=λh=>by simp at h
theorem zzn{ic:Ic}(h:zbm u ws=some (ic,ws1)):okI ic:=by
 have z:=z18 0
 unfold zbm at h
 split at h
 ·rename_i k hk
  have hop:=(zhj hk).1
  unfold gop at h
  cases h1:zhi ws with
  |none=>simp [h1] at h
  |some p1=>
   cases h2:zbp p1.2 with
   |none=>simp [h1,h2] at h
   |some p2=>
    cases h3:zbp p2.2 with
    |none=>simp [h1,h2,h3] at h
    |some p3=>
     simp [h1,h2,h3] at h
     obtain ⟨rfl,_⟩:=h
     exact ⟨zdn (ws1:=p1.2) h1,Gz (ws1:=p2.2) h2,Gz (ws1:=p3.2) h3,z, .inr (.inr (.inr (.inr (.inr (.inr (.inr (.inr (.inr (.inl ⟨rfl,hop⟩)))))))))⟩
 ·split at h
  ·unfold zly at h
   cases h1:zhi ws with
   |none=>simp [h1] at h
   |some p1=>
    cases h2:zbp p1.2 with
    |none=>simp [h1,h2] at h
    |some p2=>
     simp [h1,h2] at h
     obtain ⟨rfl,_⟩:=h
     exact ⟨zdn (ws1:=p1.2) h1,Gz (ws1:=p2.2) h2,z,z, .inr (.inr (.inr (.inr (.inr (.inr (.inr (.inr (.inl rfl))))))))⟩
  split at h
  ·unfold Ia at h
   cases h1:zhi ws with
   |none=>simp [h1] at h
   |some p1=>
    cases h2:Ez p1.2 with
    |none=>simp [h1,h2] at h
    |some p2=>
     simp [h1,h2] at h
     obtain ⟨rfl,_⟩:=h
     exact ⟨zdn (ws1:=p1.2) h1,zc1 (ws1:=p2.2) h2,z,z, .inl rfl⟩
  split at h
  ·unfold Xq at h
   cases h1:Ez ws with
   |none=>simp [h1] at h
   |some p1=>
    cases h2:zbp p1.2 with
    |none=>simp [h1,h2] at h
    |some p2=>
     simp [h1,h2] at h
     obtain ⟨rfl,_⟩:=h
     exact ⟨show 0<8 by decide,zc1 (ws1:=p1.2) h1,Gz (ws1:=p2.2) h2,z, .inr (.inl rfl)⟩
  split at h
  ·unfold zdj at h
   cases h1:zhi ws with
   |none=>simp [h1] at h
   |some p1=>
    cases h2:Ez p1.2 with
    |none=>simp [h1,h2] at h
    |some p2=>
     cases h3:zbp p2.2 with
     |none=>simp [h1,h2,h3] at h
     |some p3=>
      cases h4:zbp p3.2 with
      |none=>simp [h1,h2,h3,h4] at h
      |some p4=>
       simp [h1,h2,h3,h4] at h
       obtain ⟨rfl,_⟩:=h
       exact ⟨zdn (ws1:=p1.2) h1,zc1 (ws1:=p2.2) h2,Gz (ws1:=p3.2) h3,Gz (ws1:=p4.2) h4, .inr (.inr (.inl rfl))⟩
  split at h
  ·unfold Fh at h
   cases h1:zhi ws with
   |none=>simp [h1] at h
   |some p1=>
    cases h2:Ez p1.2 with
    |none=>simp [h1,h2] at h
    |some p2=>
     cases h3:zbp p2.2 with
     |none=>simp [h1,h2,h3] at h
     |some p3=>
      simp [h1,h2,h3] at h
      obtain ⟨rfl,_⟩:=h
      exact ⟨zdn (ws1:=p1.2) h1,zc1 (ws1:=p2.2) h2,Gz (ws1:=p3.2) h3,z, .inr (.inr (.inr (.inl rfl)))⟩
  split at h
  ·simp [zfh] at h
   obtain ⟨rfl,_⟩:=h
   exact ⟨show 0<8 by decide,z,z,z, .inr (.inr (.inr (.inr (.inl rfl))))⟩
  split at h
  ·unfold zqg at h
   cases h1:zbp ws with
   |none=>simp [h1] at h
   |some p1=>
    simp [h1] at h
    obtain ⟨rfl,_⟩:=h
    exact ⟨show 0<8 by decide,Gz (ws1:=p1.2) h1,z,z, .inr (.inr (.inr (.inr (.inr (.inl rfl)))))⟩
  split at h
  ·unfold zqh at h
   cases h1:gIn 0 4000 ws with
   |none=>simp [h1] at h
   |some p1=>
    simp [h1] at h
    obtain ⟨rfl,_⟩:=h
    exact ⟨show 0<8 by decide,z,z,z, .inr (.inr (.inr (.inr (.inr (.inr (.inl rfl))))))⟩
  split at h
  ·unfold gjz at h
   cases h1:zbp ws with
   |none=>simp [h1] at h
   |some p1=>
    cases h2:gIn 0 4000 p1.2 with
    |none=>simp [h1,h2] at h
    |some p2=>
     simp [h1,h2] at h
     obtain ⟨rfl,_⟩:=h
     exact ⟨show 0<8 by decide,Gz (ws1:=p1.2) h1,z,z, .inr (.inr (.inr (.inr (.inr (.inr (.inr (.inr (.inr (.inr rfl)))))))))⟩
  split at h
  ·unfold zgb at h
   cases h1:gIn 1 9 ws with
   |none=>simp [h1] at h
   |some p1=>
    simp [h1] at h
    obtain ⟨rfl,_⟩:=h
    exact ⟨show 0<8 by decide,z,z,z, .inr (.inr (.inr (.inr (.inr (.inr (.inr (.inl rfl)))))))⟩
  split at h
  ·simp [znz] at h
   obtain ⟨rfl,_⟩:=h
   exact ⟨show 0<8 by decide,z,z,z, .inr (.inr (.inr (.inr (.inr (.inr (.inr (.inl rfl)))))))⟩
  ·simp at h
def zqk(acc:List (List Ic)):Prop:=acc.length<=3/\ ∀c∈acc,c.length<=4000/\ ∀i∈c,okI i
theorem zu8{acc acc':List (List Ic)}(h:Gj ws acc= .ok acc')(ha:zqk acc):zqk acc'/\acc'≠[]:=by
 unfold Gj at h
 split at h
 ·simp at h
 ·split at h
  ·split at h
   ·split at h
    ·simp at h
    ·simp at h
     subst h
     refine ⟨⟨?_,?_⟩,by simp⟩
     ·have:=ha.1;simp;omega
     ·intro c hc
      simp at hc
      rcases hc with hc|rfl
      ·exact ha.2 c hc
      ·exact ⟨by simp,λi hi=>by simp at hi⟩
   ·simp at h
  ·split at h
   ·simp at h
   ·simp at h
   ·rename_i ic hi
    split at h
    ·simp at h
    ·rename_i c hc
     split at h
     ·simp at h
     ·rename_i hne
      simp at h
      subst h
      have hm:c∈acc:=List.mem_of_getLast? hc
      refine ⟨⟨?_,?_⟩,by simp⟩
      ·have h0:acc≠[]:=List.ne_nil_of_mem hm
       have:=List.length_pos_iff.2 h0
       have:=ha.1
       simp;omega
      ·intro d hd
       simp at hd
       rcases hd with hd|rfl
       ·exact ha.2 d ((List.dropLast_sublist acc).subset hd)
       ·have h1:=(ha.2 c hm).1
        refine ⟨by simp;omega,λi hi'=>?_⟩
        simp at hi'
        rcases hi' with hi'|rfl
        ·exact (ha.2 c hm).2 i hi'
        ·exact zzn hi
def zdo:Nat->List UInt8->Nat->List (List Ic)->Except (Int×Int) (List (List Ic))
 |0,_,_,acc=> .ok acc
 |f+1,r,j,acc=>if r=[]/\j≠0 then .ok acc else match Lib.cut r [10] with
  |(_,_,false)=> .error (2,j+1)
  |(l,r',true)=>match Gj (Ql l) acc with
   | .ok acc'=>zdo f r' (j+1) acc'
   | .error er=> .error (er,j+1)
theorem zql(r:List UInt8)(c:UInt8):(Lib.cut r [c]).1.length<=r.length:=by
 unfold Lib.cut
 split
 ·simp only [List.length_take];omega
 ·exact Nat.le_refl _
theorem zzo(c:UInt8):Lib.cut [] [c]=([],[],false):=rfl
theorem zn0{l:List UInt8}(h:l.length<=131072):SzOk (Ql l):=by
 constructor
 ·rw [zdm]
  have:=Lib.countB_le ⟨#[32]⟩ yl8 _ ⟨l.toArray⟩ (Nat.le_refl _)
  have h2:(⟨l.toArray⟩:ByteArray).size=l.length:=ym9
  omega
 ·intro u hu
  have key: ∀(k:Nat) (s:ByteArray),∀u∈Lib.splitB ⟨#[32]⟩ 0 k s,u.size<=s.size:=by
   intro k
   induction k with
   |zero=>intro s u hu;simp [Lib.splitB_zero] at hu;rw [hu];exact Nat.le_refl _
   |succ k ih=>
    intro s u hu
    unfold Lib.splitB at hu
    split at hu
    ·simp at hu;rw [hu];exact Nat.le_refl _
    ·simp only [List.mem_cons] at hu
     rcases hu with rfl|hu
     ·rw [ByteArray.size_extract];omega
     ·have:=ih _ u hu
      rw [ByteArray.size_extract] at this
      omega
  have h2:(⟨l.toArray⟩:ByteArray).size=l.length:=ym9
  have:=key _ _ u hu
  omega
def yit(W:World)(R:Except (Int×Int) (List (List Ic)))(r:List UInt8)(j:Nat)(w:World):Prop:=
 ∃f acc v xs,r.length+1<=f/\r.length<=131072/\zdo f r j acc=R/\zqk acc/\(j≠0->acc≠[])/\w.cell? ⟨W.heap.size,0,none⟩=some v/\w.shape? W.heap.size=some (53,1)/\w.frozen? ⟨W.heap.size,0,none⟩=false/\RowsAt W.heap.size w v acc xs/\Below W.heap.size W w/\
  w.cell? ⟨W.heap.size+1,0,none⟩=some .nilIface/\w.frozen? ⟨W.heap.size+1,0,none⟩=false/\w.shape? (W.heap.size+1)=some (33,1)
def yiu(W:World)(R:Except (Int×Int) (List (List Ic)))(bf:Nat)(w:World):Prop:=
 ∃er ln,R= .error (er,ln)/\w.cell? ⟨bf,0,none⟩=some (.int .i64 er)/\w.cell? ⟨bf,1,none⟩=some (.int .i64 ln)/\W.heap.size+1<bf/\Below W.heap.size W w/\
  w.cell? ⟨W.heap.size+1,0,none⟩=some .nilIface/\w.frozen? ⟨W.heap.size+1,0,none⟩=false/\W.heap.size+1<w.heap.size
section
variable{W:World}{R:Except (Int×Int) (List (List Ic))}{r:List UInt8}{j:Nat}{w:World}
theorem yel(hE:Env W)(h:yit W R r j w)(hr:r≠[]\/j=0):
  ∃l r' b,Lib.cut r [10]=(l,r',b)/\l.length<=r.length/\
   (b=true->r'.length<r.length/\ ∀n,Cl 36 #[ptr (w.heap.size+1),ptr W.heap.size] (((w.drewN n).alloc (.cells ((Ql l).map Value.string).toArray 9)).alloc (.cells #[.int .i64 (j+1), .slice (some ⟨w.heap.size,0,none⟩) (Ql l).length (Ql l).length] 135)) λe w2=>(e= .returned (.tuple #[])/\yit W R r' (j+1) w2)\/ ∃bf,e= .panicked (zga bf)/\yiu W R bf w2)/\
   (b=false->∀n bf w2,Fails 2 (j+1) (w.heap.size+1) (((w.drewN n).alloc (.cells ((Ql l).map Value.string).toArray 9)).alloc (.cells #[.int .i64 (j+1), .slice (some ⟨w.heap.size,0,none⟩) (Ql l).length (Ql l).length] 135)) (.panicked (zga bf)) w2->yiu W R bf w2):=by
 obtain ⟨f,acc,v,xs,hf,hr1,hR,hacc,hne,a1,a2,a3,a4,a5,a6,a7,a8⟩:=h
 obtain ⟨f,rfl⟩: ∃f',f=f'+1:=⟨f- 1,by omega⟩
 have hcond: ¬(r=[]/\j≠0):=λ⟨e1,e2⟩=>hr.elim (λh=>h e1) (λh=>e2 h)
 have hB:W.heap.size<=w.heap.size:=a5.size
 have lt1:W.heap.size<w.heap.size:=Qd a2
 have lt2:W.heap.size+1<w.heap.size:=Qd a8
 have hl:=zql r 10
 generalize hcu:Lib.cut r [10]=q
 obtain ⟨l,r',b⟩:=q
 rw [hcu] at hl
 simp only at hl
 have hworld: ∀n,∃w1,w1=((w.drewN n).alloc (.cells ((Ql l).map Value.string).toArray 9)).alloc (.cells #[.int .i64 (j+1), .slice (some ⟨w.heap.size,0,none⟩) (Ql l).length (Ql l).length] 135)/\Below w.heap.size w w1/\LineAt w1 (w.heap.size+1) (j+1) w.heap.size (Ql l)/\w1.shape? w.heap.size=some (9,(Ql l).length):=by
  intro n
  refine ⟨_,rfl,((zjp w.heap.size w n).alloc (Nat.le_refl _) _).alloc yl6 _,zbq (w:=w.drewN n),?_⟩
  refine (Jw (Below.heap_alloc _ _ _ yl6)).trans ?_
  have:=Fi (w.drewN n) ((Ql l).map Value.string).toArray 9
  rw [show ((Ql l).map Value.string).toArray.size=(Ql l).length from by simp] at this
  exact this
 -- what a fault in this line comes to
 have hfall: ∀(w1:World) (er:Int) (bf:Nat) (w2:World),Below w.heap.size w w1->R= .error (er,(j:Int)+1)->Fails er (j+1) (w.heap.size+1) w1 (.panicked (zga bf)) w2->yiu W R bf w2:=by
  rintro w1 er bf w2 hb hR' ⟨bf',e1,e2,e3,e4,e5⟩
  have:bf'=bf:=by simpa [zga] using e1.symm
  subst this
  have hs:=hb.size
  have hc:Chg (Jo (w.heap.size+1)) w w2:=(Chg.of_below hb).trans e5
  refine ⟨er,(j:Int)+1,hR',e3,e4,by omega,a5.trans (hc.below hB (λk i e=>by omega)),(hc.cell _ 0 lt2 (λe=>by omega)).trans a6,(hc.frozen _ 0 lt2).trans a7,Nat.lt_of_lt_of_le lt2 hc.size⟩
 refine ⟨l,r',b,rfl,hl,?_,?_⟩
 ·rintro rfl
  have hr0:r≠[]:=λe=>by rw [e,zzo] at hcu;simp at hcu
  have hlt:=(z17 hcu hr0).1
  refine ⟨hlt,λn=>?_⟩
  obtain ⟨w1,hw1,hb,hL,hws⟩:=hworld n
  rw [<-hw1]
  have hc1:Chg (λ_ _=>False) w w1:=Chg.of_below hb
  have hE1:Env w1:=(hE.keep (M:=λk _=>W.heap.size<=k) ((Chg.of_below (a5.trans (hb.mono hB)))) (λk i hk e=>by have:=hE.lo;omega))
  have s2:=(hc1.shape _ lt1).trans a2
  have s8:=(hc1.shape _ lt2).trans a8
  have hR2:R=match Gj (Ql l) acc with| .ok acc'=>zdo f r' (j+1) acc'| .error er=> .error (er,(j:Int)+1):=by rw [<-hR];simp only [zdo,if_neg hcond,hcu]
  refine (yfu (Nat.le_trans hB hb.size) hE.lo hL yl5 hws ((hc1.cell _ 0 lt1 (λe=>e)).trans a1) s2 ((hc1.frozen _ 0 lt1).trans a3) (a4.keep hc1 (λ_ _ _ e=>e)) hacc.1 (λc hc=>(hacc.2 c hc).1) hE1 (zn0 yl5)).mono ?_
  intro e w2 h2
  cases hg:Gj (Ql l) acc with
  |error er=>
   rw [hg] at h2 hR2
   right
   obtain ⟨bf,he,h3⟩:=h2.thru (Chg.refl _ w1)
   exact ⟨bf,he,hfall w1 er bf w2 hb hR2 h3⟩
  |ok acc'=>
   rw [hg] at h2 hR2
   left
   obtain ⟨rfl,v',xs',c1,c2,c3⟩:=h2
   have lt1':=Nat.lt_of_lt_of_le lt1 hb.size
   have lt2':=Nat.lt_of_lt_of_le lt2 hb.size
   have nt: ¬yc6 w1 W.heap.size (w.heap.size+1) W.heap.size (W.heap.size+1) 0:=by
    rintro (e|e|e)
    ·omega
    ·omega
    ·exact z72 s8 yl8 yl8 e.2
   obtain ⟨ok1,ok2⟩:=zu8 hg hacc
   refine ⟨rfl,f,acc',v',xs',by omega,by omega,hR2.symm,ok1,λ_=>ok2,c1,(c3.shape _ lt1').trans s2,(c3.frozen _ 0 lt1').trans ((hc1.frozen _ 0 lt1).trans a3),c2,(a5.trans (hb.mono hB)).trans (c3.below (Nat.le_trans hB hb.size) ?_),(c3.cell _ 0 lt2' nt).trans ((hc1.cell _ 0 lt2 (λe=>e)).trans a6),(c3.frozen _ 0 lt2').trans ((hc1.frozen _ 0 lt2).trans a7),(c3.shape _ lt2').trans s8⟩
   rintro k i (e|e|e)
   ·omega
   ·omega
   ·exact e.1
 ·rintro rfl n bf w2 hF
  obtain ⟨w1,hw1,hb,_,_⟩:=hworld n
  rw [<-hw1] at hF
  have hR2:R= .error (2,(j:Int)+1):=by rw [<-hR];simp only [zdo,if_neg hcond,hcu]
  exact hfall w1 2 bf w2 hb hR2 hF
end
def zu9(s:ByteArray):Except (Int×Int) (List (List Ic)):=if 131072<s.size then .error (1,0) else zdo (s.size+2) s.data.toList 0 []
def FaultAt(w:World)(bf:Nat)(er ln:Int):Prop:=w.cell? ⟨bf,0,none⟩=some (.int .i64 er)/\w.cell? ⟨bf,1,none⟩=some (.int .i64 ln)
theorem zgc(W:World)(s:ByteArray)(most:Int)(tk:Value)(hs:most<(s.size:Int)):
  Cl 23 #[.string s, .int .i64 most,tk] W λe w'=>∃bf,e= .returned (.iface 47 (ptr bf))/\W.heap.size<bf/\FaultAt w' bf 1 0/\Below W.heap.size W w':=by
 go_enter_defers Tryz.func23,Tryz.ntmps23
 go_wp2
 have hsz:(W.alloc (.cells #[.iface 47 (ptr (W.heap.size+1))] 33)).heap.size=W.heap.size+1:=yl6
 have c0:=World.cell?_alloc_new (W.alloc (.cells #[.iface 47 (ptr (W.heap.size+1))] 33)) #[.int .i64 1, .int .i64 0] 51 0
 have c1:=World.cell?_alloc_new (W.alloc (.cells #[.iface 47 (ptr (W.heap.size+1))] 33)) #[.int .i64 1, .int .i64 0] 51 1
 rw [hsz] at c0 c1
 refine ⟨.iface 47 (ptr (W.heap.size+1)),?_,W.heap.size+1,rfl,by omega,⟨c0,c1⟩,((Below.refl _ W).alloc (Nat.le_refl _) _).alloc yl6 _⟩
 simp [results,Tryz.results23,go_sem]
theorem z86(W:World)(s:ByteArray)(Post:Nat->World->Prop)
  (hread:Hid (Cl 23 #[.string s, .int .i64 131072, .func (.func 36) #[] #[ptr W.heap.size]] (W.alloc (.cells #[.slice none 0 0] 53)) λe w'=>∃bf,e= .returned (.iface 47 (ptr bf))/\Post bf w')):
  Cl 17 #[.string s] W λe w'=>∃bf,e= .returned (.tuple #[.slice none 0 0, .iface 47 (ptr bf)])/\Post bf w':=by
 have hmf: ∀(fn:Fn) (first cap:Array Value) (w:World),(Instr.makeFunc fn first cap).run Tryz.prog w= .ok (.func fn first cap) w:=λ_ _ _ _=>rfl
 go_enter Tryz.func17,Tryz.ntmps17
 go_wp2_with fail
 refine hread.out.mono ?_
 rintro e w1 ⟨bf,rfl,hp⟩
 have HP:=hid hp
 clear hp hread
 go_wp2
 go_ret2
 exact ⟨bf,rfl,HP.out⟩
theorem yfw(W:World)(s:ByteArray)(Post:Nat->World->Prop)
  (hread:Hid (Cl 17 #[.string s] W λe w'=>∃bf,e= .returned (.tuple #[.slice none 0 0, .iface 47 (ptr bf)])/\Post bf w')):
  Cl 10 #[.string s] W λe w'=>∃bf,e= .returned (.tuple #[.pointer none, .iface 47 (ptr bf)])/\Post bf w':=by
 go_enter Tryz.func10,Tryz.ntmps10
 go_wp2_with fail
 refine hread.out.mono ?_
 rintro e w1 ⟨bf,rfl,hp⟩
 have HP:=hid hp
 clear hp hread
 go_wp2
 go_ret2
 exact ⟨bf,rfl,HP.out⟩
theorem FaultAt.keep{w':World}{M:Nat->Nat->Prop}(h:FaultAt w bf er ln)(hc:Chg M w w')(hM: ∀i,¬M bf i):FaultAt w' bf er ln:=
 ⟨(hc.cell bf 0 (blt h.1) (hM 0)).trans h.1,(hc.cell bf 1 (blt h.2) (hM 1)).trans h.2⟩
theorem yas(hE:Env W)(s:ByteArray):
  Cl 17 #[.string s] W λe w'=>match zu9 s with
   | .ok cs=>∃a k c xs,e= .returned (.tuple #[.slice a k c, .nilIface])/\RowsAt W.heap.size w' (.slice a k c) cs xs/\zqk cs/\cs≠[]/\Below W.heap.size W w'
   | .error (er,ln)=>∃bf,e= .returned (.tuple #[.slice none 0 0, .iface 47 (ptr bf)])/\W.heap.size<=bf/\FaultAt w' bf er ln/\Below W.heap.size W w':=by
 have hsz:(W.alloc (.cells #[.slice none 0 0] 53)).heap.size=W.heap.size+1:=yl6
 have hbA:Below W.heap.size W (W.alloc (.cells #[.slice none 0 0] 53)):=(Below.refl _ W).alloc (Nat.le_refl _) _
 by_cases hlong:131072<s.size
 ·rw [show zu9 s= .error (1,0) from by unfold zu9;rw [if_pos hlong]]
  refine (z86 W s (λbf w'=>W.heap.size<=bf/\FaultAt w' bf 1 0/\Below W.heap.size W w') ((zgc _ s 131072 _ yl5).mono ?_)).mono ?_
  ·rintro e w' ⟨bf,rfl,h1,h2,h3⟩
   rw [hsz] at h1
   exact ⟨bf,rfl,by omega,h2,hbA.trans (h3.mono yl6)⟩
  ·rintro e w' ⟨bf,rfl,h⟩
   exact ⟨bf,rfl,h⟩
 have hs': ∀l:List UInt8,l.length<=s.size->(⟨l.toArray⟩:ByteArray).size<4294967281:=λl hl=>by
  have:(⟨l.toArray⟩:ByteArray).size=l.length:=ym9
  omega
 have hlen:s.data.toList.length=s.size:=ynh
 have hgc:zu9 s=zdo (s.size+2) s.data.toList 0 []:=by unfold zu9;rw [if_neg hlong]
 obtain ⟨m,hm⟩:=hE.max
 have hmx: ∀r j w,yit W (zu9 s) r j w->w.cell? ⟨1,0,none⟩=some (.int .i64 m):=by
  rintro r j w ⟨f,acc,v,xs,hf,hr1,hR,hacc,hne,a1,a2,a3,a4,a5,a6,a7,a8⟩
  exact (a5.cell (p:=⟨1,0,none⟩) (show 1<W.heap.size by have:=hE.lo;omega)).trans hm
 have k:=ya9 (W.alloc (.cells #[.slice none 0 0] 53)) s 131072 36 W.heap.size (yit W (zu9 s)) (yiu W (zu9 s)) yl5 yl5 yc7 ?_ ?_ ?_ ?_ ?_ ?_
 ·rw [hsz] at k
  cases hR:zu9 s with
  |ok cs=>
   refine (yaa W s (λw'=>∃a k c xs,w'.cell? ⟨W.heap.size,0,none⟩=some (.slice a k c)/\RowsAt W.heap.size w' (.slice a k c) cs xs/\zqk cs/\cs≠[]/\Below W.heap.size W w') (k.mono ?_)).mono ?_
   ·rintro e w' (⟨rfl,j,w1,hj,⟨f,acc,v,xs,hf,hr1,hR',hacc,hne,a1,a2,a3,a4,a5,a6,a7,a8⟩,rfl⟩|⟨bf,w2,_,⟨er,ln,hbad,_⟩,_⟩)
    ·obtain ⟨f,rfl⟩: ∃f',f=f'+1:=⟨f- 1,by omega⟩
     rw [hR] at hR'
     simp only [zdo,ne_eq,hj,not_false_eq_true,and_self,if_true,Except.ok.injEq] at hR'
     subst hR'
     obtain ⟨a,kk,c,rfl⟩: ∃a kk c,v= .slice a kk c:=by
      rcases a4.own.2 with ⟨e1,e2⟩|⟨g',cap',cur,e1,_⟩
      ·exact ⟨_,_,_,e1⟩
      ·exact ⟨_,_,_,e1⟩
     have hset:Chg (λq i=>q=W.heap.size+1/\i=0) w1 (w1.setCell ⟨W.heap.size+1,0,none⟩ .nilIface):=(Chg.refl _ w1).setCell (λ_=>⟨rfl,rfl⟩) _
     have cb:=(hset.cell W.heap.size 0 (Qd a2) (λe=>by omega)).trans a1
     refine ⟨rfl,⟨a,kk,c,xs,cb,a4.keep hset ?_,hacc,hne hj,a5.trans (hset.below a5.size ?_)⟩,a,kk,c,cb⟩
     ·rintro q i hq ⟨rfl,_⟩
      exact z72 a8 yl8 yl8 hq
     ·rintro q i ⟨rfl,_⟩
      omega
    ·rw [hR] at hbad
     simp at hbad
   ·rintro e w' ⟨a,kk,c,rfl,h1,a',k',c',xs,h2,h3,h4,h5,h6⟩
    rw [h1] at h2
    simp only [Option.some.injEq,Value.slice.injEq] at h2
    obtain ⟨rfl,rfl,rfl⟩:=h2
    exact ⟨a,kk,c,xs,rfl,h3,h4,h5,h6⟩
  |error q=>
   obtain ⟨er,ln⟩:=q
   refine (z86 W s (λbf w'=>W.heap.size<=bf/\FaultAt w' bf er ln/\Below W.heap.size W w') (k.mono ?_)).mono ?_
   ·rintro e w' (⟨rfl,j,w1,hj,⟨f,acc,v,xs,hf,hr1,hR',_⟩,rfl⟩|⟨bf,w2,rfl,⟨er',ln',hbad,b1,b2,b3,b4,b5,b6,b7⟩,rfl⟩)
    ·obtain ⟨f,rfl⟩: ∃f',f=f'+1:=⟨f- 1,by omega⟩
     rw [hR] at hR'
     simp [zdo,hj] at hR'
    ·rw [hR] at hbad
     simp at hbad
     obtain ⟨rfl,rfl⟩:=hbad
     have hc:Chg (λq i=>q=W.heap.size+1/\i=0) w2 ((w2.alloc (.cells #[ptr bf] 130)).setCell ⟨W.heap.size+1,0,none⟩ (.iface 47 (ptr bf))):=((Chg.refl _ w2).alloc _).setCell (λ_=>⟨rfl,rfl⟩) _
     exact ⟨bf,rfl,by omega,FaultAt.keep ⟨b1,b2⟩ hc (λi e=>by omega),b4.trans (hc.below b4.size (λq i e=>by omega))⟩
   ·rintro e w' ⟨bf,rfl,h⟩
    exact ⟨bf,rfl,h⟩
 ·-- at the start
  refine ⟨s.size+2,[], .slice none 0 0,[],by omega,by omega,hgc.symm,⟨by simp,λc hc=>by simp at hc⟩,λh=>absurd rfl h,?_,?_,?_,⟨yei _ _,?_,?_,?_,?_⟩,((Below.refl _ W).alloc (Nat.le_refl _) _).alloc yl6 _,?_,?_,?_⟩
  ·exact (World.cell?_alloc_past _ _ _ yl6).trans (World.cell?_alloc_new W _ _ 0)
  ·exact (Jw (Below.heap_alloc _ _ _ yl6)).trans (Fi W _ _)
  ·exact (World.frozen?_alloc_past _ _ _ yl6).trans yl6
  ·intro i iv hi;simp at hi
  ·intro i j iv jv _ hi;simp at hi
  ·intro g hg;simp [Value.ownBlock] at hg
  ·intro i iv hi;simp at hi
  ·rw [<-hsz];exact World.cell?_alloc_new _ _ _ 0
  ·rw [<-hsz];simp
  ·rw [<-hsz];exact Fi _ _ _
 ·intro r j w hr hi
  exact Tryz.strings_Cut ⟨r.toArray⟩ ⟨#[10]⟩ m w (hs' r hr) (hmx r j w hi)
 ·intro r j w l n hi hl
  have hmw:w.cell? ⟨1,0,none⟩=some (.int .i64 m):=hmx r j w hi
  have hk:=Tryz.strings_Split ⟨l.toArray⟩ ⟨#[32]⟩ m (w.drewN n) (hs' l hl) hmw yl8
  rw [zdm]
  exact hk
 ·intro r j w hi hr
  exact yel hE hi hr
 ·rintro r j w ⟨f,acc,v,xs,hf,hr1,hR,hacc,hne,a1,a2,a3,a4,a5,a6,a7,a8⟩
  rw [hsz]
  exact ⟨a6,a7⟩
 ·rintro bf w ⟨er,ln,hbad,b1,b2,b3,b4,b5,b6,b7⟩
  rw [hsz]
  exact ⟨b7,b5,b6⟩
theorem yc9(W:World)(s:ByteArray)(hread:Hid (Cl 17 #[.string s] W λ_ _=>False)):
  Cl 10 #[.string s] W λ_ _=>False:=by
 go_enter Tryz.func10,Tryz.ntmps10
 go_wp2_with fail
 refine hread.out.mono ?_
 intro e w1 h
 exact h.elim
theorem yem(hE:Env W)(s:ByteArray):
  Cl 10 #[.string s] W λe w'=>match zu9 s with
   | .ok cs=>∃bm,e= .returned (.tuple #[ptr bm, .nilIface])/\MRep (λk=>W.heap.size<=k) w' bm (cs.map λc=>(Th.init,c)) (λ_=>0)/\zqk cs/\Below W.heap.size W w'
   | .error (er,ln)=>∃bf,e= .returned (.tuple #[.pointer none, .iface 47 (ptr bf)])/\W.heap.size<=bf/\FaultAt w' bf er ln/\Below W.heap.size W w':=by
 have k:=yas hE s
 cases hR:zu9 s with
 |ok cs=>
  rw [hR] at k
  by_cases hok:zqk cs/\cs≠[]
  ·refine (yej W s cs.length (by have:=hok.1.1;omega) (λg w1=>∃cap xs,RowsAt W.heap.size w1 (.slice (some ⟨g,0,none⟩) cs.length cap) cs xs/\Below W.heap.size W w1) (yh6 W cs) (k.mono ?_) ?_ ?_).mono ?_
   ·rintro e w1 ⟨a,k,c,xs,rfl,h1,_,_,h2⟩
    rcases h1.own.2 with ⟨_,e⟩|⟨g,cap,cur,e1,_,_,e4,_⟩
    ·exact absurd (List.length_eq_zero_iff.1 e) hok.2
    ·cases e1
     exact ⟨g,c,rfl,e4,c,xs,h1,h2⟩
   ·rintro g w1 ⟨cap,xs,h1,h2⟩
    exact yc8 h1 h2
   ·intro g bm k w1 h1 h2
    exact yek h1 h2
   ·rintro e w1 ⟨g,bm,rfl,h1⟩
    have:=yfv h1 (List.length_pos_iff.2 hok.2)
    exact ⟨bm,rfl,this.1,hok.1,this.2⟩
  ·exact (yc9 W s (k.mono λe w' ⟨_,_,_,_,_,_,h1,h2,_⟩=>absurd ⟨h1,h2⟩ hok)).mono λe w' h=>h.elim
 |error q=>
  obtain ⟨er,ln⟩:=q
  rw [hR] at k
  refine (yfw W s (λbf w'=>W.heap.size<=bf/\FaultAt w' bf er ln/\Below W.heap.size W w') k).mono ?_
  rintro e w' ⟨bf,rfl,h⟩
  exact ⟨bf,rfl,h⟩
theorem zn1(hE:Env w)(hb:FaultAt w bf er ln):
  Cl 9 #[.iface 47 (ptr bf)] w λe w'=>e= .returned (.tuple #[.int .i64 er, .int .i64 ln])/\Below w.heap.size w w':=by
 have hlt:bf<w.heap.size:=blt hb.1
 have HE:=hid hE
 have HB:=hid hb
 clear hE hb
 go_enter Tryz.func9,Tryz.ntmps9
 go_wp2_with fail
 have hs1:(w.alloc (.cells #[.pointer none] 47)).heap.size=w.heap.size+1:=yl6
 have hb2:Below w.heap.size w ((w.alloc (.cells #[.pointer none] 47)).alloc (.cells #[.int .i64 0] 23)):=((Below.refl _ w).alloc (Nat.le_refl _) _).alloc yl6 _
 have hg:((w.alloc (.cells #[.pointer none] 47)).alloc (.cells #[.int .i64 0] 23)).cell? ⟨0,0,none⟩=some (.iface 158 (.agg #[.pointer (some ⟨10,33,none⟩)])):=(HE.out.below hb2).et
 have ht0:((w.alloc (.cells #[.pointer none] 47)).alloc (.cells #[.int .i64 0] 23)).cell? ⟨w.heap.size,0,none⟩=some (.pointer none):=(World.cell?_alloc_past _ _ _ yl5).trans (World.cell?_alloc_new w _ _ 0)
 have hf0:((w.alloc (.cells #[.pointer none] 47)).alloc (.cells #[.int .i64 0] 23)).frozen? ⟨w.heap.size,0,none⟩=false:=(World.frozen?_alloc_past _ _ _ yl5).trans yl6
 have key:Cl 16 #[.iface 47 (ptr bf), .iface 49 (.pointer (some ⟨w.heap.size,0,none⟩))] ((w.alloc (.cells #[.pointer none] 47)).alloc (.cells #[.int .i64 0] 23)) λev w'=>ev= .returned (.bool true)/\w'.cell? ⟨w.heap.size,0,none⟩=some (.pointer (some ⟨bf,0,none⟩))/\w'.cell? ⟨bf,0,none⟩=some (.int .i64 er)/\w'.cell? ⟨bf,1,none⟩=some (.int .i64 ln)/\Below w.heap.size w w':=by
  refine (as_hit ⟨bf,0,none⟩ ⟨w.heap.size,0,none⟩ (.pointer none) _ hg ht0 hf0).mono ?_
  rintro e w' ⟨rfl,rfl⟩
  generalize hW2:(w.alloc (.cells #[.pointer none] 47)).alloc (.cells #[.int .i64 0] 23)=W2 at*
  have c9:Chg (λ_ (_:Nat)=>False) W2 ((((W2.alloc (.cells #[.pointer (some ⟨w.heap.size,0,none⟩)] 49)).alloc (.cells #[.pointer (some ⟨10,49,none⟩), .pointer (some ⟨W2.heap.size,0,none⟩), .int .u64 150] 106)).alloc (.cells #[.pointer (some ⟨10,49,none⟩), .pointer (some ⟨W2.heap.size,0,none⟩), .int .u64 150] 106)).alloc (.cells #[.pointer (some ⟨bf,0,none⟩)] 47)):=((((Chg.refl _ W2).alloc _).alloc _).alloc _).alloc _
  have c1:=(c9.mono (M':=λk (_:Nat)=>k=w.heap.size) (λ_ _ _ e=>e.elim)).setCell (b:=w.heap.size) (o:=0) (λ_=>rfl) (.pointer (some ⟨bf,0,none⟩))
  have hl2:bf<W2.heap.size:=Nat.lt_of_lt_of_le hlt hb2.size
  have hl3:w.heap.size<W2.heap.size:=blt ht0
  have e0:=(hb2.cell (p:=⟨bf,0,none⟩) hlt).trans HB.out.1
  have e1:=(hb2.cell (p:=⟨bf,1,none⟩) hlt).trans HB.out.2
  exact ⟨rfl,Qg ((c9.cell w.heap.size 0 hl3 (λe=>e)).trans ht0) rfl,(c1.cell bf 0 hl2 yl5).trans e0,(c1.cell bf 1 hl2 yl5).trans e1,hb2.trans (c1.below hb2.size (λk i e=>by omega))⟩
 clear hg ht0 hf0 hb2 hs1
 have HK:=hid key
 clear key
 refine HK.out.mono ?_
 rintro e w1 ⟨rfl,k1,k2,k3,k4⟩
 have K4:=hid k4
 clear k4 HK
 go_wp2
 go_region
 all_goals
  go_wp2
  go_ret2
  exact ⟨rfl,⟨K4.out.os,K4.out.tape,K4.out.output,K4.out.size,K4.out.block⟩⟩
theorem yen(hE:Env W)(s:ByteArray):
  Cl 5 #[.string s] W λe w'=>match zu9 s with
   | .ok cs=>∃bm,e= .returned (.tuple #[ptr bm, .int .i64 0, .int .i64 0])/\MRep (λk=>W.heap.size<=k) w' bm (cs.map λc=>(Th.init,c)) (λ_=>0)/\zqk cs/\Below W.heap.size W w'
   | .error (er,ln)=>e= .returned (.tuple #[.pointer none, .int .i64 er, .int .i64 ln])/\Below W.heap.size W w':=by
 have k:=yem hE s
 have HE:=hid hE
 clear hE
 cases hR:zu9 s with
 |ok cs=>
  rw [hR] at k
  have K:=hid k
  clear k
  go_enter Tryz.func5,Tryz.ntmps5
  go_wp2_with fail
  refine K.out.mono ?_
  rintro e W1 ⟨bm,rfl,h1,ha,b1⟩
  have H1:=hid h1
  have B1:=hid b1
  have HA:=hid ha
  clear h1 b1 ha K
  go_wp2_with fail
  refine (zu7 W1).mono ?_
  rintro e W2 ⟨rfl,b2⟩
  have B2:=hid b2
  clear b2
  go_wp2
  go_ret3
  exact ⟨bm,rfl,H1.out.below B2.out,HA.out,B1.out.trans (B2.out.mono B1.out.size)⟩
 |error q=>
  obtain ⟨er,ln⟩:=q
  rw [hR] at k
  have K:=hid k
  clear k
  go_enter Tryz.func5,Tryz.ntmps5
  go_wp2_with fail
  refine K.out.mono ?_
  rintro e W1 ⟨bf,rfl,h0,h1,b1⟩
  have H1:=hid h1
  have B1:=hid b1
  clear h1 b1 K
  go_wp2_with fail
  refine (zn1 (HE.out.keep (Chg.of_below (M:=λ_ _=>False) (B1.out.mono (Nat.le_refl _))) (λ_ _ _ e=>e)) H1.out).mono ?_
  rintro e W2 ⟨rfl,b2⟩
  have B2:=hid b2
  clear b2
  go_wp2
  go_ret3
  exact ⟨rfl,B1.out.trans (B2.out.mono B1.out.size)⟩
open Go.ChangeShapes Go.WideShapes Go.ChangeAt Go.WideMaps Go.WideElems Go.RowKit
theorem gEs:Tryz.prog.globalNamed "strconv.ErrSyntax" =some 6:=yl7
theorem gEr:Tryz.prog.globalNamed "strconv.ErrRange" =some 7:=yl7
theorem gEt:Tryz.prog.globalNamed "errors.errorType" =some 0:=yl7
theorem tEs:(Tryz.prog.globals[6]?).map (·.type)=some 33:=yl7
theorem tEr:(Tryz.prog.globals[7]?).map (·.type)=some 33:=yl7
theorem z4y:(Tryz.prog.cutTypes.find? (·.1== "internal/reflectlite.rtype")).map (·.2)=some 158:=yl7
theorem z19:((List.range 373).filter λt=>Tryz.prog.rowNamed t [101,114,114,111,114])=[33]:=yl7
theorem zqm:Tryz.prog.types.size=373:=yl7
theorem zva{H:Type}{enc:TypeId×Value->H}{base fuel:Nat}{sp:Nat->Bool}{held:Bool}{t:TypeId}{cs:List Value}{x:DataW H×List MemPlace}{ms:Array (String×TypeId)}(ht:P.underlying t=some (.interface ms))(h:DataW.trod enc P w base sp held fuel t cs=some x):
  cs=[.nilIface]\/ ∃te pe,cs=[.iface te pe]:=by
 cases fuel with
 |zero=>simp [DataW.trod] at h
 |succ n=>
  unfold DataW.trod at h
  rw [ht] at h
  match cs,h with
  |[],h=>simp at h
  |[v],h=>
   cases v with
   |nilIface=>exact .inl rfl
   |iface te pe=>exact .inr ⟨te,pe,rfl⟩
   |_=>simp at h
  |_::_::_,h=>simp at h
theorem zym{n:String}{d:DataW Unit}(hg:Tryz.prog.globalNamed n=some g)(ht:(Tryz.prog.globals[g]?).map (·.type)=some 33)(h:laidMet Tryz.prog [(n,d)] W): ∃ev,W.cell? ⟨g,0,none⟩=some ev/\(ev= .nilIface\/ ∃te pe,ev= .iface te pe):=by
 obtain ⟨ps,⟨g0,t0,cs0,f0,p0,q0,hg0,ht0,hv0,hd0,_,_⟩,_,_⟩:=h
 obtain rfl:=Option.some.inj (hg.symm.trans hg0)
 obtain rfl:=Option.some.inj (ht.symm.trans ht0)
 have hc:=World.var?_cell hg0 hv0 0
 rcases zva Tryz.underlying33 hd0 with e|⟨te,pe,e⟩
 ·rw [Array.eq_one_of_toList e] at hc
  exact ⟨_,by simpa using hc, .inl rfl⟩
 ·rw [Array.eq_one_of_toList e] at hc
  exact ⟨_,by simpa using hc, .inr ⟨te,pe,rfl⟩⟩
theorem zqn(hf:l.filter (λx=>x.1== "errors.errorType")=[("errors.errorType",Rows.laid_errors_errorType)])(h:laidMetH Tryz.prog l W):W.cell? ⟨0,0,none⟩=some (.iface 158 (.agg #[.pointer (some ⟨10,33,none⟩)])):=by
 have h1:=h.filter (λx=>x.1== "errors.errorType")
 rw [hf] at h1
 have h':laidMet Tryz.prog [] W/\handlesMet Tryz.prog [("errors.errorType",Rows.laid_errors_errorType)] W:=h1
 obtain ⟨name,u,ty,e1,e2,e3,e4,e5⟩:=h'.2 _ (List.mem_singleton.2 rfl)
 have en:name=[101,114,114,111,114]:=(Option.some.inj e1).symm
 subst en
 obtain rfl:=Option.some.inj (z4y.symm.trans e2)
 have hm:ty∈(List.range 373).filter λt=>Tryz.prog.rowNamed t [101,114,114,111,114]:=List.mem_filter.2 ⟨List.mem_range.2 (by rw [<-zqm];exact e3),e4⟩
 rw [z19] at hm
 obtain rfl:=List.mem_singleton.1 hm
 have hh:typeHandle Tryz.prog 33= .pointer (some ⟨10,33,none⟩):=yl7
 rw [hh] at e5
 simpa using World.var?_cell gEt e5 0
theorem z2a(hS:W.ShapedOpen Tryz.prog)(hL:laidMetH Tryz.prog l W)
  (f1:l.filter (λx=>x.1== "commits/ops.words")=[("commits/ops.words",Rows.laid_commits_ops_words)]) (f2:l.filter (λx=>x.1== "errors.errorType")=[("errors.errorType",Rows.laid_errors_errorType)])
  (f3:l.filter (λx=>x.1== "strconv.ErrSyntax")=[("strconv.ErrSyntax",Rows.laid_strconv_ErrSyntax)]) (f4:l.filter (λx=>x.1== "strconv.ErrRange")=[("strconv.ErrRange",Rows.laid_strconv_ErrRange)]):Env W:=by
 have h3:=hL.filter (λx=>x.1== "strconv.ErrSyntax")
 rw [f3,MakeChecks.laidMetH_plain _ _ _ yl7] at h3
 have h4:=hL.filter (λx=>x.1== "strconv.ErrRange")
 rw [f4,MakeChecks.laidMetH_plain _ _ _ yl7] at h4
 have hlast:9<W.heap.size:=by
  have hsome:(((begin Tryz.prog (λ_ _=>0) default).world.heap[9]?).bind Obj.row?).isSome=true:=yl7
  obtain ⟨⟨zero,t⟩,h0⟩:=Option.isSome_iff_exists.1 hsome
  obtain ⟨cs,hh,_⟩:=hS.1 9 zero t (of_decide_eq_true yl7) h0
  exact (Array.getElem?_eq_some_iff.1 hh).1
 exact ⟨by omega,zqa hS,znw f1 hL,zym gEs tEs h3,zym gEr tEr h4,zqn f2 hL⟩
section
variable{D:Nat->Prop}{w:World}{bm:Nat}{A:List (Th×List Ic)}{m:Nat->Int}
theorem ydb(hi:A.length<=i):z7b A m i=(A,m):=by unfold z7b;rw [List.getElem?_eq_none hi]
theorem ybz(hi:A.length<=i):z69 A m i=(A,m):=by unfold z69;rw [List.getElem?_eq_none hi]
theorem ydc{ts:List Tr}(h:MAt D w bm m ts)(i:Nat)(hi:ts.length<=i):
  Cl 21 #[ptr bm, .int .i64 i] w λe w'=>e= .returned (.tuple #[])/\w'=w:=by
 obtain ⟨bt,cap,h1,h3⟩:=h.slot
 clear h h3
 go_enter Tryz.func21,Tryz.ntmps21
 go_wp2_with fail
 refine (yee bm bt _ cap i h1 hi).mono ?_
 rintro e w' ⟨rfl,rfl⟩
 go_wp2
 go_end0
 exact ⟨rfl,rfl⟩
theorem ydd(h:MRep D w bm A m)(hD: ∀k,w.heap.size<=k->D k)(hok:okA A)(i:Nat):
  Cl 20 #[ptr bm, .int .i64 i] w λe w'=>e= .returned (.tuple #[])/\(MRep D w' bm (z7b A m i).1 (z7b A m i).2/\Chg (λk _=>D k) w w'):=by
 by_cases hi:i<A.length
 ·exact yh2 h hD hok i hi
 ·rw [ydb (Nat.le_of_not_lt hi)]
  obtain ⟨ts,h1,h2⟩:=h
  have hl:ts.length=A.length:=by rw [<-h2];simp
  refine (yef h1 i yl5).mono ?_
  rintro e w' ⟨rfl,rfl⟩
  exact ⟨rfl,⟨ts,h1,h2⟩,Chg.refl _ _⟩
theorem yb0(h:MRep D w bm A m)(hD: ∀k,w.heap.size<=k->D k)(i:Nat):
  Cl 21 #[ptr bm, .int .i64 i] w λe w'=>e= .returned (.tuple #[])/\(MRep D w' bm (z69 A m i).1 (z69 A m i).2/\Chg (λk _=>D k) w w'):=by
 by_cases hi:i<A.length
 ·exact yg1 h hD i hi
 ·rw [ybz (Nat.le_of_not_lt hi)]
  obtain ⟨ts,h1,h2⟩:=h
  have hl:ts.length=A.length:=by rw [<-h2];simp
  refine (ydc h1 i yl5).mono ?_
  rintro e w' ⟨rfl,rfl⟩
  exact ⟨rfl,⟨ts,h1,h2⟩,Chg.refl _ _⟩
theorem yde(h:MRep D w bm A m)(hD: ∀k,w.heap.size<=k->D k)(i:Nat)(n:Nat)(hn:(n:Int)<=1000000)(hok: ∀k,k<n->okA (z9i A m i k).1):
  Cl 12 #[ptr bm, .int .i64 i, .int .i64 n] w λe w'=>e= .returned (.tuple #[])/\MRep D w' bm (z9i A m i n).1 (z9i A m i n).2/\Chg (λk _=>D k) w w':=by
 have HK:=hid hok
 have HD:=hid hD
 have H:=hid h
 clear hok hD h
 go_enter Tryz.func12,Tryz.ntmps12
 go_wp2
 go_loopw [7] (λv wr=>∃k:Nat,k<=n/\v= .int .i64 k/\Hid (MRep D wr bm (z9i A m i k).1 (z9i A m i k).2/\Chg (λk _=>D k) w wr)) (λv _=>n- (intOf v).toNat)
 case atStart=>exact ⟨0,Nat.zero_le _,rfl,H.out,Chg.refl _ _⟩
 case round=>
  obtain ⟨k,hk,rfl,hr⟩:=hrel
  by_cases hlt:k<n
  ·have hlt':(k:Int)<(n:Int):=by omega
   go_wp2_with fail
   refine (ydd hr.out.1 (λj hj=>HD.out j (Nat.le_trans hr.out.2.size hj)) (HK.out k hlt) i).mono ?_
   rintro e w1 ⟨rfl,h1⟩
   have H1:=hid h1
   clear h1
   go_wp2
   go_roundw
   case rel=>exact ⟨k+1,by omega,by go_num,H1.out.1,hr.out.2.trans H1.out.2⟩
   case measure=>simp [intOf];omega
  ·have hk':k=n:=by omega
   subst hk'
   have hlt': ¬(k:Int)<(k:Int):=yl5
   go_wp2
   go_end0
   exact ⟨rfl,hr.out⟩
theorem yb1(h:MRep D w bm A m)(hD: ∀k,w.heap.size<=k->D k)(i:Nat):
  Cl 13 #[ptr bm, .int .i64 i] w λe w'=>e= .returned (.tuple #[])/\MRep D w' bm (z69 A m i).1 (z69 A m i).2/\Chg (λk _=>D k) w w':=by
 have HS:=hid (yb0 h hD i)
 clear h hD
 go_enter Tryz.func13,Tryz.ntmps13
 go_wp2_with fail
 refine HS.out.mono ?_
 rintro e w1 ⟨rfl,hr⟩
 have HR:=hid hr
 clear hr HS
 go_wp2
 go_end0
 exact ⟨rfl,HR.out⟩
def ydf(c n:Int):Int:=if c<0 then (wrap64 (-wrap64 (c+1))).tmod n else c%n
theorem yfx(c n:Int)(hc:-9223372036854775808<=c)(hn:0<n):0<=ydf c n/\ydf c n<n:=by
 unfold ydf
 split
 ·rename_i hlt
  have h0:=z99 c hc hlt
  refine ⟨Int.tmod_nonneg n h0,?_⟩
  rw [Int.tmod_eq_emod_of_nonneg h0]
  exact Int.emod_lt_of_pos _ hn
 ·exact ⟨Int.emod_nonneg _ yl5,Int.emod_lt_of_pos _ hn⟩
theorem yg6(c n:Int)(w:World)(hn:0<n):
  Cl 7 #[.int .i64 c, .int .i64 n] w λe w'=>e= .returned (.int .i64 (ydf c n))/\w'=w:=by
 have hn0: ¬n=0:=yl5
 have HN:=hid hn
 clear hn
 by_cases hlt:c<0
 ·rw [show ydf c n=(wrap64 (-wrap64 (c+1))).tmod n from if_pos hlt]
  go_enter Tryz.func7,Tryz.ntmps7
  go_wp2
  go_ret
  exact ⟨rfl,rfl⟩
 ·rw [show ydf c n=c%n from if_neg hlt]
  go_enter Tryz.func7,Tryz.ntmps7
  go_wp2
  go_ret
  exact ⟨rfl,rfl⟩
end
end Go.Proofs.YtiiepngikigmbaaGreatDoor
