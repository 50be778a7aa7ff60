import Derived.Test.YtphcopbffecceaaGreatDoorP17
set_option maxRecDepth 100000
set_option maxHeartbeats 4000000
namespace Go.Proofs.YtphcopbffecceaaGreatDoor
open Go.RowKit
variable{W W':World}{es:List En}{s:St}{b:Bool}{st:RS}{T e:TypeId}{B c p:Nat}{bs:List Value}{a:Option Addr}
open Go.RowKit Go.Shelf
attribute [local go_sem] Oper.semAt_some
def Zo(hs:List Hd)(e:En):Bool:=kdA hs e&&decide (8<((Jb hs e).map (Zn hs kdO 3)).sum)
def RS.ents(st:RS)(t:Nat):List En:=match st.hs[t]? with
 |some h=>h.ents
 |_=>[]
def RS.thrMuch(st:RS)(t:Nat):Bool:=decide (3<((st.ents t).map (Zn st.hs (kdA st.hs) 3)).sum)||(Jf st.hs 3 (st.ents t)).any (Zo st.hs)
def zay(st:RS):Bool:=decide (6<st.cells)||(decide (3<st.threads.length)||st.threads.any st.thrMuch)
section
variable{D:Nat->Prop}{lab:Nat->Nat×Nat}{w:World}{br sb bs:Nat}{tv ov:Value}{st:RS}{ms:List HM}
theorem zox(n:Nat)(h:RMach D lab w br sb bs tv ov st ms)(hc:6<st.cells):
  CallsIn Fence.wide n Tryz.prog 31 #[ptr br] w λe w'=>e= .returned (.bool true)/\Below w.heap.size w w':=by
 have c2:(w.alloc (.cells #[.bool false] 4)).cell? ⟨br,2,none⟩=some (.int .i64 st.cells):=(World.cell?_alloc_past _ _ _ (Qd h.sh)).trans h.c2
 have hw: ∀f,Fence.wide.fn f:=λ_=>trivial
 clear h
 refine callsIn_of_wp_marks Tryz.func31 rfl trivial ?_ rfl
 simp only [Tryz.ntmps31,List.size_toArray,List.length_cons,List.length_nil,Nat.reduceAdd,Nat.reduceSub,Array.replicate_succ,Array.replicate_zero,List.push_toArray,List.append_toArray,List.nil_append,List.cons_append]
 gi_wp2
 exact ⟨.bool true,by simp [results,Tryz.f31,go_sem],rfl,(Below.refl _ w).alloc (Nat.le_refl _) _⟩
theorem zh8(n:Nat)(h:RMach D lab w br sb bs tv ov st ms)(hc: ¬6<st.cells)(ht:3<st.threads.length):
  CallsIn Fence.wide n Tryz.prog 31 #[ptr br] w λe w'=>e= .returned (.bool true)/\Below w.heap.size w w':=by
 have lb:=Qd h.sh
 have c2:(w.alloc (.cells #[.bool false] 4)).cell? ⟨br,2,none⟩=some (.int .i64 st.cells):=(World.cell?_alloc_past _ _ _ lb).trans h.c2
 obtain ⟨ta,tk,htv⟩:=h.threadS
 have c1:(w.alloc (.cells #[.bool false] 4)).cell? ⟨br,1,none⟩=some (.slice ta st.threads.length tk):=ydl
 have ht':3<(st.threads.length:Int):=yai
 have hw: ∀f,Fence.wide.fn f:=λ_=>trivial
 clear h htv
 refine callsIn_of_wp_marks Tryz.func31 rfl trivial ?_ rfl
 simp only [Tryz.ntmps31,List.size_toArray,List.length_cons,List.length_nil,Nat.reduceAdd,Nat.reduceSub,Array.replicate_succ,Array.replicate_zero,List.push_toArray,List.append_toArray,List.nil_append,List.cons_append]
 gi_wp2
 exact ⟨.bool true,by simp [results,Tryz.f31,go_sem],rfl,(Below.refl _ w).alloc (Nat.le_refl _) _⟩
end
section
variable{st:RS}{lv:Nat->Nat}{ib:Nat->Bool}{wt:Nat->Nat}{x:Cx}
theorem zy0(h:Fit st lv ib wt)(hx:x.sh=st.shared)(hc: ¬6<st.cells){u:ByteArray}(hu:u.size<=maxLen)(hs:st.isSh u=true):x.varOk u:=by
 unfold RS.isSh at hs
 have hex:(st.shared.find? λp=>decide (p.1=u)).isSome=true:=by
  rw [List.find?_isSome]
  obtain ⟨p,hp,hq⟩:=List.any_eq_true.1 hs
  exact ⟨p,hp,hq⟩
 obtain ⟨p,hp⟩:=Option.isSome_iff_exists.1 hex
 obtain ⟨q1,q2,q3⟩:=h.sh p (List.mem_of_find?_eq_some hp)
 refine ⟨hu,p.2.1.toNat,p.2.2.toNat,?_,by omega,by omega⟩
 unfold Cx.var
 rw [hx,hp]
 simp only [Option.map_some,Option.getD_some]
 refine Prod.ext ?_ ?_
 ·show p.2.1=_;omega
 ·show p.2.2=_;omega
theorem zw0(hz:zl9 s)(hn:zop s){v:PV}(hv:v∈Qj s):v.ok:=⟨hz.rd v hv,hn.rd v hv⟩
theorem zsn(h:Fit st lv ib wt)(hx:x.sh=st.shared)(hc: ¬6<st.cells)(hl:z0s st b s):x.leafOk b s:=by
 have hr:=λv (hv:v∈Qj s)=>zw0 hl.sz hl.nm hv
 have hto:=hl.sz.to
 have hof:=hl.of
 have hofz:=hl.sz.of
 have hop:=hl.nm.op
 have hnh:=hl.nh
 clear hl
 rcases s with ⟨to,a⟩|⟨to,o,a,c⟩|⟨to,f,a⟩|⟨f,a,c⟩|a|⟨⟩|a|n
 ·exact ⟨hto,hr a yau⟩
 ·exact ⟨hto,hop,hr a yau,hr c yau⟩
 ·exact ⟨(hof f rfl).1,hto,zy0 h hx hc (hofz f rfl) (hof f rfl).2,hr a yau⟩
 ·exact ⟨(hof f rfl).1,zy0 h hx hc (hofz f rfl) (hof f rfl).2,hr a yau,hr c yau⟩
 ·exact hr a yau
 ·simp [Qf] at hnh
 ·simp [Qf] at hnh
 ·simp [Qf] at hnh
theorem z3n(h:Fit st lv ib wt)(he: ∀(j:Nat) (y:Hd),st.hs[j]?=some y->y.ents.length<=14)(hx:x.sh=st.shared)(hc: ¬6<st.cells): ∀(f i:Nat) (y:Hd),st.hs[i]?=some y->lv i+f=3->∀e∈y.ents,enW st.hs x f (ib i) e
 |0,i,y,hy,_, .inl s,hm=>zsn h hx hc (h.leaf i y hy s hm)
 |f+1,i,y,hy,_, .inl s,hm=>zsn h hx hc (h.leaf i y hy s hm)
 |0,i,y,hy,hf, .inr j,hm=>by
  obtain ⟨q1,s,q2,q3⟩:=h.nest i y hy j hm
  obtain ⟨z,hz,_⟩:=Yy q2
  have:=h.le j (List.getElem?_eq_some_iff.1 hz).1
  omega
 |f+1,i,y,hy,hf, .inr j,hm=>by
  obtain ⟨q1,s,q2,q3⟩:=h.nest i y hy j hm
  obtain ⟨z,hz,hzk⟩:=Yy q2
  have ih:=z3n h he hx hc f j z hz yai
  have hzz:st.hs[j]?=some ⟨.st s,z.ents⟩:=by rw [hz,<-hzk]
  refine ⟨z.ents,he j z hz,?_⟩
  have hh:=q3.hh
  have hr:=λv (hv:v∈Qj s)=>zw0 q3.sz q3.nm hv
  have h1:=q3.at1
  have h0:=q3.at0
  have hlp:=q3.lp
  clear q3 q2
  rcases s with ⟨to,a⟩|⟨to,o,a,c⟩|⟨to,f,a⟩|⟨f,a,c⟩|a|⟨⟩|a|n
  ·simp [Qf] at hh
  ·simp [Qf] at hh
  ·simp [Qf] at hh
  ·simp [Qf] at hh
  ·simp [Qf] at hh
  ·obtain ⟨e1,e2⟩:=h1 rfl
   rw [e2] at ih
   exact .inl ⟨hzz,e1,ih⟩
  ·rw [h0 rfl] at ih
   exact .inr (.inl ⟨a,hzz,hr a yau,ih⟩)
  ·rw [h0 rfl] at ih
   exact .inr (.inr ⟨n,hzz,hlp n rfl,ih⟩)
theorem z0w(h:Fit st lv ib wt): ∀(f:Nat) (e:En),wE st.hs f e<=wtE wt e
 |0, .inl _=>Nat.le_refl 1
 |0, .inr j=>by show 1<=1+wt j;omega
 |f+1, .inl _=>Nat.le_refl 1
 |f+1, .inr j=>by
  show 1+((Jb st.hs (.inr j)).map (wE st.hs f)).sum<=1+wt j
  cases hj:st.hs[j]? with
  |none=>simp [Jb,hj]
  |some y=>
   have h1:=h.w j y hj
   have h2:(y.ents.map (wE st.hs f)).sum<=(y.ents.map (wtE wt)).sum:=by
    have ih:=z0w h f
    generalize y.ents=es
    induction es with
    |nil=>simp
    |cons e r ih2=>
     have:=ih e
     simp only [List.map_cons,List.sum_cons]
     omega
   simp only [Jb,hj]
   omega
end
theorem zms{s:ByteArray}(hg:Jl s= .ok st)(hok:st.Ok 2000)(hm:zay st=false)(x:Cx)(hx:x.sh=st.shared)(t:Nat)(ht:t∈st.threads):
  (st.ents t).length<=14/\(∀e∈st.ents t,enW st.hs x 3 false e)/\((st.ents t).map (wE st.hs 3)).sum<=14:=by
 obtain ⟨lv,ib,wt,h⟩:=zd8 hg
 have hc: ¬6<st.cells:=by
  unfold zay at hm
  simp only [Bool.or_eq_false_iff,decide_eq_false_iff_not] at hm
  exact hm.1
 obtain ⟨l,c,q1,q2,q3⟩:=hok.thr t ht
 obtain ⟨y,hy,_⟩:=Yy q1
 have he:st.ents t=y.ents:=by unfold RS.ents;rw [hy]
 obtain ⟨l0,i0⟩:=h.thr t ht
 have hw:=h.w t y hy
 have hcc:=h.c t ht l c q1
 rw [he]
 refine ⟨hok.e14 t y hy,?_,?_⟩
 ·have:=z3n h hok.e14 hx hc 3 t y hy yai
  rw [i0] at this
  exact this
 ·exact z8h
section
variable{D:Nat->Prop}{lab:Nat->Nat×Nat}{w w':World}{br sb bs:Nat}{tv ov:Value}{st:RS}{ms:List HM}{k:Nat}
theorem RMach.ar(h:RMach D lab w br sb bs tv ov st ms):Ar st.hs ms w:=⟨h.hd,h.hs⟩
theorem RMach.thread_at(h:RMach D lab w br sb bs tv ov st ms)(hok:st.Ok k)(i:Nat)(hi:i<st.threads.length):
  ∃g cp,tv= .slice (some ⟨g,0,none⟩) st.threads.length cp/\st.threads.length<=cp/\g<w.heap.size/\ ∃ht:st.threads[i]<ms.length,w.cell? ⟨g,i,none⟩=some (ptr ms[st.threads[i]].b)/\ms[st.threads[i]].b<w.heap.size/\
   w.cell? ⟨ms[st.threads[i]].b,0,none⟩=some ms[st.threads[i]].rv/\(∃a c,ms[st.threads[i]].rv= .slice a (st.ents st.threads[i]).length c)/\w.ownsRow 0 162 1 ms[st.threads[i]].rv (st.ents st.threads[i]).length ((st.ents st.threads[i]).map (enV (Qu ms)))/\(st.ents st.threads[i]).length<=14:=by
 have hr:=h.trow
 have ht:st.threads[i]<ms.length:=by rw [h.len];exact hok.ent.2.1 _ (List.getElem_mem hi)
 have hx:=h.hsAt _ ht
 have he:st.ents st.threads[i]=ms[st.threads[i]].h.ents:=by unfold RS.ents;rw [hx]
 have hd:=h.hd _ ht
 obtain ⟨g,cp,htv,hcp⟩: ∃g cp,tv= .slice (some ⟨g,0,none⟩) st.threads.length cp/\st.threads.length<=cp:=yaa
 subst htv
 obtain ⟨q1,_,_⟩:=Qm hr i hi
 refine ⟨g,cp,rfl,hcp,(hr.lt g rfl).2,ht,?_,Qd hd.sh,hd.rc,?_,by rw [he];exact hd.row,by rw [he];exact hok.e14 _ _ hx⟩
 ·rw [q1,List.getElem?_map,List.getElem?_eq_getElem hi]
  simp [idP,Qu,List.getElem?_eq_getElem ht]
 ·rw [he]
  rcases hd.row.2 with ⟨e1,e2⟩|⟨g',cap',cur,e1,_⟩
  ·exact ⟨Option.none,0,by rw [e1,e2]⟩
  ·exact ⟨_,_,e1⟩
theorem zy1(hd:st.Deep)(hok:st.Ok k)(t:Nat): ∀e∈st.ents t,enG st.hs 3 e:=by
 obtain ⟨lv,hd⟩:=hd
 intro e he
 unfold RS.ents at he
 cases hx:st.hs[t]? with
 |none=>simp [hx] at he
 |some x=>
  rw [hx] at he
  exact zou hd hok hx e he
theorem zgs(h:RMach D lab w br sb bs tv ov st ms)(hok:st.Ok k)(hd:st.Deep)(i:Nat)(hi:i<st.threads.length)(ht:st.threads[i]<ms.length)(hb:Below w.heap.size w w'):
  Cl 63 #[ms[st.threads[i]].rv] w' λr w''=>r= .returned (.int .i64 ((st.ents st.threads[i]).map (Zn st.hs (kdA st.hs) 3)).sum)/\Below w'.heap.size w' w'':=by
 obtain ⟨g,cp,_,_,_,_,_,_,_,_,hrow,h14⟩:=(h.below hb).thread_at hok i hi
 exact zrs yai (h.below hb).ar hrow h14 (zy1 hd hok _)
end
open Go.RowKit Go.Shelf
attribute [local go_sem] Oper.semAt_some
abbrev z5q(br Br:Nat)(c:Int)(tv:Value)(N k:Nat)(u4 u29 u30 u31 u32 u33 u34 u35 u36 u37 u38 u39 u40 u41 u42 u43 u44 u61:Value)(Ds:List Nat):Act:={tmps:=#[ptr br,undef, .pointer (some ⟨Br,0,none⟩),undef,u4,undef,undef,undef,ptr br, .pointer (some ⟨br,0,none⟩), .pointer (some ⟨br,2,none⟩), .int .i64 c, .bool false, .bool false,ptr br, .pointer (some ⟨br,0,none⟩), .pointer (some ⟨br,0,none⟩), .pointer (some ⟨br,1,none⟩),tv, .int .i64 (N:Int), .bool false, .bool false,ptr br, .pointer (some ⟨br,0,none⟩), .pointer (some ⟨br,0,none⟩), .pointer (some ⟨br,1,none⟩),tv, .int .i64 (N:Int), .int .i64 (k:Int),u29,u30,u31,u32,u33,u34,u35,u36,u37,u38,u39,u40,u41,u42,u43,u44,undef,undef,undef,undef,undef,undef,undef,undef,undef,undef,undef,undef,undef,undef,undef,undef,u61],defers:=z0v Ds}
structure z5r(w:World)(st:RS)(k:Nat)(Ds:List Nat)(W:World):Prop where
 low:Below w.heap.size w W
 box:Boxed W w.heap.size 4 (.bool false)
 nd:Ds.Nodup
 ds: ∀D∈Ds,w.heap.size+1<=D/\D<W.heap.size/\W.heap[D]?=some (.deferred (some []))
 no: ∀j (h:j<st.threads.length),j<k->st.thrMuch st.threads[j]=false
theorem zb2{w:World}{n:Nat}{Ds:List Nat}{tmps:Array Value}(h2:tmps[2]?=some (.pointer (some ⟨w.heap.size,0,none⟩)))(low:Below w.heap.size w W)(hb:W.cell? ⟨w.heap.size,0,none⟩=some (.bool b))(nd:Ds.Nodup)(ds: ∀D∈Ds,w.heap.size+1<=D/\W.heap[D]?=some (.deferred (some [])))(bb:Bool)(e:bb=b):
  LeavesInM Fence.wide n Tryz.prog Tryz.f31 tmps (λe w'=>e= .returned (.bool bb)/\Below w.heap.size w w') (z0v Ds) .returning W:=by
 refine Iu w Ds W nd (λD hD=>⟨by have:=(ds D hD).1;omega,(ds D hD).2⟩) (λW' hW' hk=>?_)
 have hc:W'.cell? ⟨w.heap.size,0,none⟩=some (.bool b):=by
  have hn:w.heap.size∉Ds:=λe=>by have:=(ds _ e).1;omega
  rw [<-hb]
  unfold World.cell?
  simp only [hk _ hn]
 refine ⟨.bool b,?_,by rw [e],low.trans hW'⟩
 simp [results,Tryz.f31,go_sem,h2,hc]
open Go.RowKit Go.Shelf
attribute [local go_sem] Oper.semAt_some Yr Vw Ys Yt Yu Vh Yb Zc
section
variable{D:Nat->Prop}{lab:Nat->Nat×Nat}{w:World}{br sb bs:Nat}{tv ov:Value}{st:RS}{ms:List HM}{kk:Nat}
theorem zso(n:Nat)(hn:6<=n)(h:RMach D lab w br sb bs tv ov st ms)(hok:st.Ok kk)(hdp:st.Deep)(hc: ¬6<st.cells)(ht:st.threads.length<=3):
  CallsIn Fence.wide n Tryz.prog 31 #[ptr br] w λe w'=>e= .returned (.bool (st.threads.any st.thrMuch))/\Below w.heap.size w w':=by
 have lb:=Qd h.sh
 have c2:(w.alloc (.cells #[.bool false] 4)).cell? ⟨br,2,none⟩=some (.int .i64 st.cells):=(World.cell?_alloc_past _ _ _ lb).trans h.c2
 obtain ⟨ta,tk,htv⟩:=h.threadS
 have c1:(w.alloc (.cells #[.bool false] 4)).cell? ⟨br,1,none⟩=some (.slice ta st.threads.length tk):=ydl
 have ht': ¬3<(st.threads.length:Int):=yai
 have hw: ∀f,Fence.wide.fn f:=λ_=>trivial
 have H:=hid h
 have HTV:=hid htv
 clear h htv
 refine callsIn_of_wp_marks Tryz.func31 rfl trivial ?_ rfl
 simp only [Tryz.ntmps31,List.size_toArray,List.length_cons,List.length_nil,Nat.reduceAdd,Nat.reduceSub,Array.replicate_succ,Array.replicate_zero,List.push_toArray,List.append_toArray,List.nil_append,List.cons_append]
 gi_wp2
 refine wpIn_loop (λa W=>∃k u4 u29 u30 u31 u32 u33 u34 u35 u36 u37 u38 u39 u40 u41 u42 u43 u44 u61 Ds,k<=st.threads.length/\a=z5q br w.heap.size st.cells (.slice ta st.threads.length tk) st.threads.length k u4 u29 u30 u31 u32 u33 u34 u35 u36 u37 u38 u39 u40 u41 u42 u43 u44 u61 Ds/\z5r w st k Ds W) (λa _=>st.threads.length- (intOf (a.tmps[28]?.getD undef)).toNat) ?_ ?_
 ·refine ⟨0,undef,undef,undef,undef,undef,undef,undef,undef,undef,undef,undef,undef,undef,undef,undef,undef,undef,undef,[],Nat.zero_le _,rfl,⟨(Below.refl _ w).alloc (Nat.le_refl _) _,Boxed.new w 4 _,List.nodup_nil,λD hD=>by simp at hD,λj _ hj=>by omega⟩⟩
 ·rintro a W ⟨k,u4,u29,u30,u31,u32,u33,u34,u35,u36,u37,u38,u39,u40,u41,u42,u43,u44,u61,Ds,hk,rfl,hI⟩
  have HI:=hid hI
  clear hI
  by_cases hlt:k<st.threads.length
  ·have hlt':(k:Int)<(st.threads.length:Int):=by omega
   obtain ⟨g,cp,htv,hcp,hg,htl,q1,q2,q3,⟨ra,rc,hrv⟩,hrow,h14⟩:=(H.out.below HI.out.low).thread_at hok k hlt
   rw [HTV.out] at htv
   obtain ⟨rfl,rfl⟩:ta=some ⟨g,0,none⟩/\tk=cp:=by simpa using htv
   have KB:=hid ((callsIn_wide (n:=n- 1)).2 (zgs H.out hok hdp k hlt htl HI.out.low))
   rw [hrv] at q3 hrow KB
   have HROW:=hid hrow
   have h1n:1<=n:=yai
   have cb:=HI.out.box.cell
   have fb:=HI.out.box.frozen
   generalize hM:((st.ents st.threads[k]).map (Zn st.hs (kdA st.hs) 3)).sum=Mb at*
   generalize ms[st.threads[k]].b=tb at*
   clear htv hrow
   gi_wp2_with (gi_at_call 63;refine KB.out.mono ?_;clear KB;rintro e W1 ⟨rfl,b1⟩;have cb1:=(b1.cell (p:=⟨w.heap.size,0,none⟩) (blt cb)).trans cb;have fb1:=(b1.frozen (p:=⟨w.heap.size,0,none⟩) (blt cb)).trans fb;have q31:=(b1.cell (p:=⟨tb,0,none⟩) q2).trans q3;have B1:=hid b1;clear b1)
   ·have h3:3<Mb:=by assumption
    refine zb2 rfl ((HI.out.low.trans (B1.out.mono HI.out.low.size)).setCell (p:=⟨w.heap.size,0,none⟩) (Nat.le_refl _) _) (Qg cb1 rfl) HI.out.nd (λD hD=>⟨(HI.out.ds D hD).1,(KeepsOthers.setCell W1 ⟨w.heap.size,0,none⟩ (.bool true)).same D _ ((B1.out.block D (HI.out.ds D hD).2.1).trans (HI.out.ds D hD).2.2) rfl⟩) _ ?_
    rw [List.any_eq_true]
    exact ⟨st.threads[k],List.getElem_mem hlt,by simp [RS.thrMuch,hM,h3]⟩
   ·have h3: ¬3<Mb:=by first|assumption|omega
    refine ((callsIn_wide (n:=n- 1)).2 (zse ra _ rc W1)).mono ?_
    rintro e w' ⟨rfl,rfl⟩
    gi_wp2
    have hBB:=B1.out
    obtain ⟨W2,hW2⟩: ∃W2,W1.alloc (.cells #[.slice ra (st.ents st.threads[k]).length rc] 111)=W2:=⟨_,rfl⟩
    have hB2:Below W1.heap.size W1 W2:=ydm
    have hBt:W2.cell? ⟨W1.heap.size,0,none⟩=some (.slice ra (st.ents st.threads[k]).length rc):=by rw [<-hW2];exact World.cell?_alloc_new _ _ _ 0
    have hsz2:W2.heap.size=W1.heap.size+1:=by rw [<-hW2];simp
    rw [hW2]
    clear hW2
    have hWW:Below W.heap.size W W2:=hBB.trans (hB2.mono hBB.size)
    have low2:Below w.heap.size w W2:=HI.out.low.trans (hWW.mono HI.out.low.size)
    have hR2:=hid (H.out.below low2)
    have hrow2:=Qc HROW.out (Chg.of_below (M:=λ_ _=>False) hWW) (λ_ _ _ e=>e)
    have hl2:w.heap.size<W2.heap.size:=by have:=blt cb1;simp at this;omega
    have bx2:Boxed W2 w.heap.size 4 (.bool false):=(hWW.block w.heap.size (blt cb)).trans HI.out.box
    have hds2: ∀D∈Ds,w.heap.size+1<=D/\D<W2.heap.size/\W2.heap[D]?=some (.deferred (some [])):=λD hD=>⟨(HI.out.ds D hD).1,Nat.lt_of_lt_of_le (HI.out.ds D hD).2.1 hWW.size,(hWW.block D (HI.out.ds D hD).2.1).trans (HI.out.ds D hD).2.2⟩
    refine wpIn_rangeFunc_ownH rfl h1n (gf:=92) (lb:=#[.pointer (some ⟨W1.heap.size,0,none⟩)]) rfl trivial (enters_of Tryz.func92 yak rfl)
     (zsf (n- 1) W1.heap.size W2 hR2.out.ar hrow2 h14 (zy1 hdp hok _) hBt) belowK_t (belowK_b (Nat.le_refl _)) (Below.refl _ _) (λ_=>rfl)
     (λpre W'=>(∀x∈pre,Zo st.hs x.1=false)/\Below W2.heap.size W2 W')
     (λc' pre W'=>((c'= .ret/\ ∃x∈pre,Zo st.hs x.1=true)/\(Boxed W' w.heap.size 4 (.bool true)/\(∀D∈Ds,W'.heap[D]?=some (.deferred (some [])))))/\Below w.heap.size w W')
     (OwnFrom.and (λ_ _ _ _ hs _ _=>hs) (ownFrom_below (Nat.le_refl _) (Nat.le_refl _)))
     (λc'=>OwnFrom.and (OwnFrom.and (λ_ _ _ _ hs _ _=>hs) (OwnFrom.and (Own.from (boxed_own _ _ _) _) (λpre X Y row hs hg hr=>?own))) (ownFrom_below (Nat.le_refl _) yai))
     ⟨λx hx=>by simp at hx,Below.refl _ _⟩
     (λx a' _=>a'={tmps:=#[ptr br,undef, .pointer (some ⟨w.heap.size,0,none⟩),undef,ptr tb,enV (Qu ms) x.1,undef,undef,ptr br, .pointer (some ⟨br,0,none⟩), .pointer (some ⟨br,2,none⟩), .int .i64 st.cells, .bool false, .bool false,ptr br, .pointer (some ⟨br,0,none⟩), .pointer (some ⟨br,0,none⟩), .pointer (some ⟨br,1,none⟩), .slice (some ⟨g,0,none⟩) st.threads.length tk, .int .i64 (st.threads.length:Int), .bool false, .bool false,ptr br, .pointer (some ⟨br,0,none⟩), .pointer (some ⟨br,0,none⟩), .pointer (some ⟨br,1,none⟩), .slice (some ⟨g,0,none⟩) st.threads.length tk, .int .i64 (st.threads.length:Int), .int .i64 (k:Int), .bool true, .pointer (some ⟨g,k,none⟩),ptr tb,ptr tb, .pointer (some ⟨tb,0,none⟩), .pointer (some ⟨tb,0,none⟩), .pointer (some ⟨tb,0,none⟩), .slice ra (st.ents st.threads[k]).length rc, .int .i64 Mb, .bool (decide (3<Mb)),ptr tb, .pointer (some ⟨tb,0,none⟩), .pointer (some ⟨tb,0,none⟩), .pointer (some ⟨tb,0,none⟩), .slice ra (st.ents st.threads[k]).length rc, .func (.func 92) #[] #[.pointer (some ⟨W1.heap.size,0,none⟩)],enV (Qu ms) x.1,undef,undef,undef,undef,undef,undef,undef,undef,undef,undef,undef,undef,undef,undef,undef,u61],defers:=[]})
     (λx a' _ X Y row hs _ _=>hs)
     ?assign ?body ?done ?stop
    case own=>
     intro D hD
     exact (hg.block D (Array.getElem?_eq_some_iff.1 (hs D hD)).1 (λe=>by have:=(hr D e.symm).1;have:=(hds2 D hD).2.1;omega)).trans (hs D hD)
    case assign=>
     rintro l pre x W' K hI hK
     gi_wp2
     exact hK _ _ (KeepsFrom.refl _ _) (Below.refl _ _) hI rfl
    case done=>
     rintro D' ys W' hD hS ⟨hno,hb⟩ hK
     gi_wp2
     refine ⟨⟨k+1,_,_,_,_,_,_,_,_,_,_,_,_,_,_,_,_,_,_,D'::Ds,by omega,rfl,⟨low2.trans (hb.mono yai),(hb.block w.heap.size hl2).trans bx2,List.nodup_cons.2 ⟨λe=>by have:=(hds2 D' e).2.1;omega,HI.out.nd⟩,λE hE=>?_,λj hj hjk=>?_⟩⟩,?_⟩
     ·rcases List.mem_cons.1 hE with rfl|hE
      ·exact ⟨by omega,(Array.getElem?_eq_some_iff.1 hK).1,hK⟩
      ·exact ⟨(hds2 E hE).1,Nat.lt_of_lt_of_le (hds2 E hE).2.1 hb.size,(hb.block E (hds2 E hE).2.1).trans (hds2 E hE).2.2⟩
     ·by_cases e:j=k
      ·subst e
       have:(Jf st.hs 3 (st.ents st.threads[j])).any (Zo st.hs)=false:=by
        rw [List.any_eq_false]
        intro y hy
        rw [<-hS] at hy
        obtain ⟨x,hx,rfl⟩:=List.mem_map.1 hy
        simp [hno x hx]
       simp [RS.thrMuch,hM,h3,this]
      ·exact HI.out.no j hj yai
     ·simp [intOf];omega
    case stop=>
     rintro D' c' pre W' hD hSp ⟨⟨⟨rfl,x,hx,hm⟩,bx,hds⟩,hb⟩ hK
     gi_wp2
     refine zb2 (Ds:=D'::Ds) rfl hb bx.cell (List.nodup_cons.2 ⟨λe=>by have:=(hds2 D' e).2.1;omega,HI.out.nd⟩) (λE hE=>?_) _ ?_
     ·rcases List.mem_cons.1 hE with rfl|hE
      ·exact ⟨by omega,hK⟩
      ·exact ⟨(hds2 E hE).1,hds E hE⟩
     ·rw [List.any_eq_true]
      refine ⟨st.threads[k],List.getElem_mem hlt,?_⟩
      have:(Jf st.hs 3 (st.ents st.threads[k])).any (Zo st.hs)=true:=List.any_eq_true.2 ⟨x.1,hSp.subset (List.mem_map.2 ⟨x,hx,rfl⟩),hm⟩
      simp [RS.thrMuch,this]
    case body=>
     rintro l pre ⟨e,he⟩ a' W' hl _ ⟨hno,hb⟩ rfl hlt
     have hsn:Zo st.hs e=false->∀x∈pre++[(⟨e,he⟩:zcs st.hs)],Zo st.hs x.1=false:=λhm x hx=>(List.mem_append.1 hx).elim (hno x) (λh=>by simp at h;subst h;exact hm)
     have he0:=he
     rcases he0 with ⟨s,rfl,hh⟩|⟨j,y,s,rfl,hj,hky,hh,ht,hl14,hsub⟩
     ·have hm:Zo st.hs (.inl s)=false:=rfl
      have HS:=hid (hsn hm)
      have hv:enV (Qu ms) (.inl s)=stV s:=rfl
      rw [hv]
      clear hsn hv
      rcases s with ⟨to,a⟩|⟨to,k,a,c⟩|⟨to,f,a⟩|⟨f,a,c⟩|a|⟨⟩|a|n
      ·simp only [stV]
       gi_wp2
       exact ⟨KeepsFrom.refl _ _,Below.refl _ _,HS.out,hb⟩
      ·simp only [stV]
       gi_wp2
       exact ⟨KeepsFrom.refl _ _,Below.refl _ _,HS.out,hb⟩
      ·simp only [stV]
       gi_wp2
       exact ⟨KeepsFrom.refl _ _,Below.refl _ _,HS.out,hb⟩
      ·simp only [stV]
       gi_wp2
       exact ⟨KeepsFrom.refl _ _,Below.refl _ _,HS.out,hb⟩
      ·simp only [stV]
       gi_wp2
       exact ⟨KeepsFrom.refl _ _,Below.refl _ _,HS.out,hb⟩
      ·simp [Qf] at hh
      ·simp [Qf] at hh
      ·simp [Qf] at hh
     ·obtain ⟨hl5,e1,e2⟩:=Eg (hR2.out.ar.below hb) hj
      have HAW:=hid (hR2.out.ar.below hb)
      have hrowW:=(HAW.out.hd j hl5).row
      rw [e1] at hrowW
      have hcW:=(HAW.out.hd j hl5).rc
      obtain ⟨ya,yc,hyr⟩: ∃a c,ms[j].rv= .slice a y.ents.length c:=by
       rcases hrowW.2 with ⟨q1,q2⟩|⟨g',cap',cur,q1,_⟩
       ·exact ⟨none,0,by rw [q1,q2]⟩
       ·exact ⟨_,_,q1⟩
      rw [hyr] at hrowW hcW
      have hen:Zo st.hs (.inr j)=(HK.isAtomic (.st s)&&decide (8<(y.ents.map (Zn st.hs kdO 3)).sum)):=by simp only [Zo,kdA,Jb,hj,hky]
      rw [e2,hky]
      have KO:=hid (CallsIn.inRound l ((callsIn_wide (n:=n- 1- 1- 1)).2 (z0i (f:=3) yai HAW.out hrowW hl14 (λe' he'=>Gt 2 e' (hsub e' he')))))
      generalize ms[j].b=jb at*
      generalize (y.ents.map (Zn st.hs kdO 3)).sum=So at*
      have HSN:=hid hsn
      have cbW:=(hb.cell (p:=⟨w.heap.size,0,none⟩) hl2).trans bx2.cell
      have fbW:=(hb.frozen (p:=⟨w.heap.size,0,none⟩) hl2).trans bx2.frozen
      have h1r:1<=n- 1- 1:=yai
      clear hsn hrowW
      rcases s with ⟨to,a⟩|⟨to,k,a,c⟩|⟨to,f,a⟩|⟨f,a,c⟩|a|⟨⟩|a|nn
      ·simp [Qf] at hh
      ·simp [Qf] at hh
      ·simp [Qf] at hh
      ·simp [Qf] at hh
      ·simp [Qf] at hh
      ·simp only [hkT]
       gi_wp2_with (gi_at_call 65;refine KO.out.mono ?_;clear KO;rintro e W3 ⟨rfl,b3⟩;have cb3:=(b3.cell (p:=⟨w.heap.size,0,none⟩) (blt cbW)).trans cbW;have fb3:=(b3.frozen (p:=⟨w.heap.size,0,none⟩) (blt cbW)).trans fbW;have B3:=hid b3;clear b3)
       ·have h8:8<So:=by assumption
        have KF:KeepsFrom W2.heap.size W' W3:=KeepsFrom.of_grownBy (row:=none) ⟨B3.out.os,B3.out.tape,B3.out.output,B3.out.size,λq hq _=>B3.out.block q hq⟩ (λq e=>by cases e)
        have bx3:Boxed W3 w.heap.size 4 (.bool false):=(B3.out.block w.heap.size (blt cbW)).trans ((hb.block w.heap.size hl2).trans bx2)
        have low3:Below w.heap.size w W3:=(low2.trans (hb.mono yai)).trans (B3.out.mono (by have:=hb.size;omega))
        refine ⟨KF.trans ((KeepsOthers.setCell W3 ⟨w.heap.size,0,none⟩ (.bool true)).from _),⟨⟨rfl,⟨.inr j,he⟩,by simp,?_⟩,bx3.set _,λD hD=>?_⟩,low3.setCell (p:=⟨w.heap.size,0,none⟩) (Nat.le_refl _) _⟩
        ·rw [hen];simp [HK.isAtomic,h8]
        ·exact (KeepsOthers.setCell W3 ⟨w.heap.size,0,none⟩ (.bool true)).same D _ ((B3.out.block D (Nat.lt_of_lt_of_le (hds2 D hD).2.1 hb.size)).trans ((hb.block D (hds2 D hD).2.1).trans (hds2 D hD).2.2)) rfl
       ·have h8: ¬8<So:=by first|assumption|omega
        have KF:KeepsFrom W2.heap.size W' W3:=KeepsFrom.of_grownBy (row:=none) ⟨B3.out.os,B3.out.tape,B3.out.output,B3.out.size,λq hq _=>B3.out.block q hq⟩ (λq e=>by cases e)
        exact ⟨KF,B3.out.mono hb.size,HSN.out (by rw [hen];simp [h8]),hb.trans (B3.out.mono hb.size)⟩
      ·simp only [hkT]
       gi_wp2
       exact ⟨KeepsFrom.refl _ _,Below.refl _ _,λa b hx=>HSN.out (by rw [hen];rfl) ⟨a,b⟩ hx,hsz2▸hb⟩
      ·simp only [hkT]
       gi_wp2
       exact ⟨KeepsFrom.refl _ _,Below.refl _ _,λa b hx=>HSN.out (by rw [hen];rfl) ⟨a,b⟩ hx,hsz2▸hb⟩
  ·have hlt': ¬(k:Int)<(st.threads.length:Int):=by omega
   have cb:=HI.out.box.cell
   have fb:=HI.out.box.frozen
   gi_wp2
   refine zb2 rfl (HI.out.low.setCell (p:=⟨w.heap.size,0,none⟩) (Nat.le_refl _) _) (Qg cb rfl) HI.out.nd (λD hD=>⟨(HI.out.ds D hD).1,(KeepsOthers.setCell W ⟨w.heap.size,0,none⟩ (.bool false)).same D _ (HI.out.ds D hD).2.2 rfl⟩) _ ?_
   rw [List.any_eq_false]
   intro t ht
   obtain ⟨i,hi,rfl⟩:=List.getElem_of_mem ht
   have:=HI.out.no i hi yai
   simp [this]
end
open Go.RowKit Go.Shelf
theorem zsp(W:World)(st:RS):zsi W st (zay st):=by
 intro w br h
 obtain ⟨E,lab,sb,bs,tv,ov,ms,_,hm⟩:=h.m
 unfold zay
 by_cases h1:6<st.cells
 ·rw [decide_eq_true h1]
  exact (callsIn_wide (n:=6)).1 (zox 6 hm h1)
 ·rw [decide_eq_false h1]
  by_cases h2:3<st.threads.length
  ·rw [decide_eq_true h2]
   exact (callsIn_wide (n:=6)).1 (zh8 6 hm h1 h2)
  ·rw [decide_eq_false h2]
   exact (callsIn_wide (n:=6)).1 (zso 6 yai hm h.ok h.deep h1 yai)
theorem zkp(s:ByteArray):zsh s (s.data.toList.count 10):=by
 intro w _
 refine (Tryz.strings_Count_one s 10 w).mono ?_
 rintro e w' ⟨rfl,rfl⟩
 exact ⟨rfl,Below.refl _ _⟩
def zaz(s:ByteArray):Except (Int×Int) RS:=
 match Jl s with
 | .error e=> .error e
 | .ok st=>if st.opn.length≠1 then .error (3,(s.data.toList.count 10:Int)+1) else if zay st=true then .error (5,0) else .ok st
theorem Iv{s:ByteArray}(h:Jl s= .ok st):s.size<=2000:=by
 unfold Jl at h
 by_cases hs:2000<s.size
 ·rw [if_pos hs] at h;cases h
 ·omega
def z3o(W:World)(r:Except (Int×Int) RS)(e:Ending)(w':World):Prop:=
 match r with
 | .error (er,ln)=>∃bf,e= .returned (.tuple #[.pointer none, .iface 64 (ptr bf)])/\W.heap.size<=bf/\FaultAt w' bf er ln/\Below W.heap.size W w'
 | .ok st=>∃br,e= .returned (.tuple #[ptr br, .nilIface])/\Has W w' br st
theorem zmt(hE:Env W)(s:ByteArray):Cl 15 #[.string s] W λe w'=>z3o W (zaz s) e w':=by
 unfold zaz
 cases hg:Jl s with
 |error p=>
  obtain ⟨er,ln⟩:=p
  exact zow hE s hg
 |ok st=>
  have hs:=Iv hg
  have hc:s.data.toList.count 10<=s.data.toList.length:=List.count_le_length
  have hl:s.data.toList.length=s.size:=Array.length_toList
  dsimp only
  by_cases ho:st.opn.length=1
  ·rw [if_neg (by simpa using ho)]
   cases hm:zay st with
   |true=>
    rw [if_pos rfl]
    exact zsl hE s hg ho (hid (hm▸zsp W st))
   |false=>
    rw [if_neg yaj]
    exact zsm hE s hg ho (hid (hm▸zsp W st))
  ·rw [if_pos ho]
   exact zsk hE s hg ho yai (hid (zkp s))
theorem zd9{b:Nat}{p:Value}(h:Lib.BuilderAtF T e B b p bs W)(hb:Below W.heap.size W W'):Lib.BuilderAtF T e B b p bs W':=by
 have hlt:=h.lt
 obtain ⟨hB,v,hv,hown,hne⟩:=h
 exact ⟨hB,v,(hb.block b hlt).trans hv,hown.kept (row:=none) ⟨hb.os,hb.tape,hb.output,hb.size,λk hk _=>hb.block k hk⟩ (Classical.em _),hne⟩
theorem zsq{b:Nat}(h:Lib.IsBuilderF T e B b bs W)(hb:Below W.heap.size W W'):Lib.IsBuilderF T e B b bs W':=
 h.elim (λx=> .inl (zd9 x hb)) (λx=> .inr (zd9 x hb))
def TabAt(W:World):Prop:=∀w,Below W.heap.size W w->Lib.TabIs Tryz.prog w "internal/strconv.uint64pow10" .u64 Lib.pow10Tab
theorem TabAt.below(h:TabAt W)(hb:Below W.heap.size W W'):TabAt W':=λw hw=>h w (hb.trans (hw.mono hb.size))
def RS.locs(st:RS)(t:Nat):List ByteArray:=match st.hk t with
 |some (.inl (l,_))=>l
 |_=>[]
def RS.thr(st:RS)(i:Nat):Nat:=(st.threads[i]?).getD 0
def zmu(st:RS)(i sb lb:Nat):Cx:=⟨st.shared,st.locs (st.thr i),i,sb,lb⟩
theorem zkq(hs:List Hd)(x y:Cx)(f:Nat)(h: ∀e s,cEn hs x f e s=cEn hs y f e s): ∀(es:List En) (s:Ck),es.foldl (λs e=>cEn hs x f e s) s=es.foldl (λs e=>cEn hs y f e s) s
 |[],_=>rfl
 |e::r,s=>by
  simp only [List.foldl_cons]
  rw [h e s]
  exact zkq hs x y f h r _
theorem zy2(hs:List Hd)(sh:List (ByteArray×Int×Int))(loc:List ByteArray)(th sb lb sb' lb':Nat): ∀(f:Nat) (e:En) (s:Ck),cEn hs ⟨sh,loc,th,sb,lb⟩ f e s=cEn hs ⟨sh,loc,th,sb',lb'⟩ f e s
 |0, .inl _,_=>rfl
 |0, .inr _,_=>rfl
 |f+1, .inl _,_=>rfl
 |f+1, .inr j,s=>by
  have ih:=zkq hs ⟨sh,loc,th,sb,lb⟩ ⟨sh,loc,th,sb',lb'⟩ f (zy2 hs sh loc th sb lb sb' lb' f)
  simp only [cEn]
  cases hs[j]? with
  |none=>rfl
  |some y=>
   obtain ⟨k,es⟩:=y
   cases k with
   |inl p=>rfl
   |inr st=>
    simp only
    rw [show (λs=>es.foldl (λs e=>cEn hs ⟨sh,loc,th,sb,lb⟩ f e s) s)=λs=>es.foldl (λs e=>cEn hs ⟨sh,loc,th,sb',lb'⟩ f e s) s from funext λs=>ih es s]
    rfl
def Ek(st:RS)(i:Nat):ByteArray:=zfr st.hs (zmu st i 0 0) (st.ents (st.thr i))
def za0(st:RS):Nat->List UInt8
 |0=>[]
 |i+1=>za0 st i++(Ek st i).data.toList
def Yi(st:RS):ByteArray:=⟨(za0 st st.threads.length).toArray⟩
section
variable{D:Nat->Prop}{lab:Nat->Nat×Nat}{W:World}{br sb bs:Nat}{tv ov:Value}{st:RS}{ms:List HM}{k:Nat}
def mAt(ms:List HM)(st:RS)(i:Nat):HM:=(ms[st.thr i]?).getD ⟨0, .nilIface,0,⟨.st .atomic,[]⟩⟩
structure z5s(W:World)(st:RS)(ms:List HM)(tv:Value)(i:Nat):Prop where
 row: ∃g cp,tv= .slice (some ⟨g,0,none⟩) st.threads.length cp/\W.cell? ⟨g,i,none⟩=some (ptr (mAt ms st i).b)
 c0:W.cell? ⟨(mAt ms st i).b,0,none⟩=some (mAt ms st i).rv
 c1:W.cell? ⟨(mAt ms st i).b,1,none⟩=some (.map (some (mAt ms st i).mb))
 own:W.ownsRow 0 162 1 (mAt ms st i).rv (st.ents (st.thr i)).length ((st.ents (st.thr i)).map (enV (Qu ms)))
 mp:MapIs W (mAt ms st i).mb (zjx (st.locs (st.thr i))) (st.locs (st.thr i)).length
 ln:(st.locs (st.thr i)).length<=4
 mem:st.thr i∈st.threads
theorem z3p(h:RMach D lab W br sb bs tv ov st ms)(hok:st.Ok k)(i:Nat)(hi:i<st.threads.length):z5s W st ms tv i:=by
 have ht:st.thr i=st.threads[i]:=by unfold RS.thr;rw [List.getElem?_eq_getElem hi];rfl
 obtain ⟨g,cp,e1,_,_,hlt,e2,_,e3,_,e4,_⟩:=h.thread_at hok i hi
 have hm:mAt ms st i=ms[st.threads[i]]:=by unfold mAt;rw [ht,List.getElem?_eq_getElem hlt];rfl
 have hmem:st.threads[i]∈st.threads:=List.getElem_mem hi
 obtain ⟨l,c,q1,q2,q3⟩:=hok.thr _ hmem
 obtain ⟨y,hy,hyk⟩:=Yy q1
 have hx:=h.hsAt _ hlt
 have hyy:y=ms[st.threads[i]].h:=by rw [hx] at hy;simpa using hy.symm
 have hkd:=(h.hd _ hlt).kind
 rw [<-hyy,hyk] at hkd
 obtain ⟨k1,k2,k3⟩:=hkd
 have hl:st.locs (st.thr i)=l:=by unfold RS.locs;rw [ht,q1]
 exact {row:=⟨g,cp,e1,by rw [hm];exact e2⟩,c0:=by rw [hm];exact e3,c1:=by rw [hm];exact k1,own:=by rw [hm,ht];exact e4,mp:=by rw [hm,hl];exact k3,ln:=by rw [hl];exact q3,mem:=by rw [ht];exact hmem}
end
abbrev za1(st:RS)(i:Nat):Ck:=(st.ents (st.thr i)).foldl (λs e=>cEn st.hs (zmu st i 0 0) 3 e s) Ck.none'
theorem zsr(s:Ck):s.endC.g<=s.g+s.T.length+2:=by
 unfold Ck.endC
 split
 ·show s.g+1<=_;omega
 ·show (((s.add [Ex]).lands s.T).g+1)<=_
  rw [If]
  show s.g+1+s.T.length+1<=_
  omega
theorem zss(s:Ck):s.endC.L≠[]:=by
 unfold Ck.endC
 split
 ·show s.L++[_]≠[];simp
 ·show ((s.add [Ex]).lands s.T).L++[_]≠[];simp
theorem zmv{s:Ck}(h:s.Ok)(hG:s.g<=20000):s.text.size<=20000000000:=by
 have h1:=zbz (200+30*s.g) s.L h.z
 have h2:=h.l
 have h3:(200+30*s.g+1)*s.L.length<=(200+30*s.g+1)*20000:=Nat.mul_le_mul_left _ yai
 unfold Ck.text Zt
 rw [ByteArray.size_append]
 have e1:(ByteArray.mk #[10]).size=1:=rfl
 have e2:(ByteArray.mk (Lib.join (s.L.map (·.data.toList)) [10]).toArray).size=(Lib.join (s.L.map (·.data.toList)) [10]).length:=by simp [ByteArray.size]
 omega
open Go.ChangeShapes Go.WideShapes Go.ChangeAt Go.WideMaps Go.WideElems Go.RowKit
theorem z55:Tryz.prog.globalNamed "internal/strconv.uint64pow10" =some 3:=yak
theorem z3q{l:List (String×DataW Unit)}(hS:10<=W.heap.size)(hL:laidMetH Tryz.prog l W)
  (f:l.filter (λx=>x.1== "internal/strconv.uint64pow10")=[("internal/strconv.uint64pow10",Rows.laid_internal_strconv_uint64pow10)]):TabAt W:=by
 have h3:=hL.filter (λx=>x.1== "internal/strconv.uint64pow10")
 rw [f,MakeChecks.laidMetH_plain _ _ _ yak] at h3
 have h4:laidMet Tryz.prog (("internal/strconv.uint64pow10",Lib.tabData .u64 Lib.pow10Tab)::[]) W:=h3
 have h5:=Lib.tabIs_of_head (t:=284) (e:=274) (n:=20) z55 yak Tryz.underlying284 Tryz.underlying274 yak yak h4
 intro w hb
 have hlt:3<W.heap.size:=Nat.lt_of_lt_of_le yal hS
 have e:=hb.block 3 hlt
 unfold Lib.TabIs World.var? at h5⊢
 rw [z55] at h5⊢
 simp only [Option.bind_some] at h5⊢
 rw [e]
 exact h5
def Sw(l:List Bool)(f n:Nat):List Bool:=(List.range n).foldl (λl i=>l.set (f+i) true) l
theorem zft(l:List Bool)(f n:Nat):Sw l f (n+1)=(Sw l f n).set (f+n) true:=by
 simp [Sw,List.range_succ,List.foldl_append]
theorem za2(l:List Bool)(f:Nat): ∀n,(Sw l f n).length=l.length
 |0=>rfl
 |n+1=>by rw [zft,List.length_set,za2 l f n]
def MarksAt(w:World)(b o:Nat)(l:List Bool):Prop:=∀(i:Nat) v,l[i]?=some v->w.cell? ⟨b,o+i,none⟩=some (.bool v)
section
variable{w:World}{b o f n:Nat}{l:List Bool}
theorem MarksAt.set(h:MarksAt w b o l)(hf:f<l.length):MarksAt (w.setCell ⟨b,o+f,none⟩ (.bool true)) b o (l.set f true):=by
 intro i v hv
 by_cases e:i=f
 ·subst e
  rw [List.getElem?_set_self hf] at hv
  cases hv
  exact Qg (h i _ (List.getElem?_eq_getElem hf)) rfl
 ·rw [List.getElem?_set_ne (λe'=>e e'.symm)] at hv
  exact (Qb (.inr yai)).trans (h i v hv)
theorem zy3(h:MarksAt w b o l)(hl:l.length=6)(hfr: ∀j,w.frozen? ⟨b,j,none⟩=false)(hfn:f+n<=6):
  Cl 141 #[.pointer (some ⟨b,o,none⟩), .agg #[.int .i64 (f:Int), .int .i64 (n:Int)]] w λe w'=>e= .returned (.tuple #[])/\MarksAt w' b o (Sw l f n)/\Chg (λk j=>k=b/\o<=j/\j<o+6) w w':=by
 have lb:b<w.heap.size:=blt (h 0 l[0] (List.getElem?_eq_getElem yai))
 have H0:Hid (MarksAt (w.alloc (.cells #[.int .i64 (f:Int), .int .i64 (n:Int)] 199)) b o l):=hid λi v hv=>(World.cell?_alloc_past _ _ _ lb).trans (h i v hv)
 have HF:=hid hfr
 clear h hfr
 go_enter Tryz.func141,Tryz.ntmps141
 go_wp2
 go_loopw [7] (λv7 wr=>∃k:Nat,k<=n/\v7= .int .i64 k/\Hid (MarksAt wr b o (Sw l f k))/\Hid (Chg (λk j=>k=b/\o<=j/\j<o+6) (w.alloc (.cells #[.int .i64 (f:Int), .int .i64 (n:Int)] 199)) wr)) (λv7 _=>n- (intOf v7).toNat)
 case atStart=>exact ⟨0,Nat.zero_le _,rfl,H0,hid (Chg.refl _ _)⟩
 case round=>
  obtain ⟨k,hk,rfl,hB,hC⟩:=hrel
  by_cases hlt:k<n
  ·have hlt':(k:Int)<(n:Int):=by omega
   have hi0:(0:Int)<=(f:Int)+(k:Int):=yai
   have hi6:(f:Int)+(k:Int)<6:=yai
   have hwr:IntKind.i64.wrap ((f:Int)+(k:Int))=(f:Int)+(k:Int):=yar
   have htn:((f:Int)+(k:Int)).toNat=f+k:=yai
   have e0:wr.cell? ⟨w.heap.size,0,none⟩=some (.int .i64 (f:Int)):=(hC.out.cell _ _ yaj yai).trans (World.cell?_alloc_new _ _ _ 0)
   have hlen:=za2 l f k
   have ec:=hB.out (f+k) (Sw l f k)[f+k] (List.getElem?_eq_getElem yai)
   have ef:wr.frozen? ⟨b,o+(f+k),none⟩=false:=(hC.out.frozen _ _ yan).trans ((World.frozen?_alloc_past _ _ _ lb).trans (HF.out _))
   have HN:=hid (hB.out.set (f:=f+k) yai)
   rw [<-zft] at HN
   have HC2:=hid (hC.out.then (((Chg.refl (λkk j=>kk=b/\j=o+(f+k)) wr).setCell (b:=b) (o:=o+(f+k)) (λ_=>⟨rfl,rfl⟩) (.bool true))) (λj i _ e=>⟨e.1,by omega,by omega⟩))
   clear hB hC
   generalize (Sw l f k)[f+k]=v0 at*
   go_wp2_with fail
   go_region_law fail
   go_wp2
   go_roundw
   case rel=>exact ⟨k+1,by omega,by go_num,hid λi v hv=>HN.out i v hv,hid HC2.out.drew⟩
   case measure=>simp [intOf];omega
  ·have hlt': ¬(k:Int)<(n:Int):=by omega
   have hk6:k=n:=yai
   rw [hk6] at hB
   go_wp2
   go_end0
   exact ⟨rfl,hB.out,((Chg.refl _ w).alloc _).trans hC.out⟩
end
open Go.RowKit Go.Shelf
attribute [local go_sem] Oper.semAt_some
abbrev EnP(P:En->Prop):={e:En // P e}
section
variable{hs:List Hd}{ms:List HM}{W0:World}{P:En->Prop}
theorem zea(hP: ∀e,P e->enG hs 3 e)(n l n₀ N:Nat){rv:Value}(hA0:Ar hs ms W0)(hn₀:W0.heap.size<=n₀)(hrow:W0.ownsRow 0 162 1 rv es.length (es.map (enV (Qu ms))))(h14:es.length<=14)(hes:Hid (∀e∈es,P e))(J Jx:List (EnP P)->World->Prop)
  (hY:Hid (∀m pre (x:EnP P) W,J pre W->Below W0.heap.size W0 W->pre.length<N->YieldAt Fence.wide m Tryz.prog l #[enV (Qu ms) x.1] W λe W'=>(e= .returned (.bool true)/\J (pre++[x]) W'/\Below n₀ W W')\/(e= .returned (.bool false)/\Jx (pre++[x]) W')))
  (sub:En->List En)
  (RK:Hid (∀m pre W,J pre W->Below W0.heap.size W0 W->∀e∈es,pre.length+(sub e).length<=N->CallsIn Fence.wide m Tryz.prog 93 #[wiV ms e, .func (.yield l) #[] #[]] W λe' W'=>(e'= .returned (.bool true)/\(∃ys:List (EnP P),ys.map (·.1)=sub e/\J (pre++ys) W')/\Below n₀ W W')\/(e'= .returned (.bool false)/\ ∃q:List (EnP P),q.map (·.1)<+:sub e/\Jx (pre++q) W')))
  (pre:List (EnP P)) (W:World) (hJ:J pre W) (hW:Below W0.heap.size W0 W) (hN:pre.length+(es.flatMap λe=>e::sub e).length<=N):
  CallsIn Fence.wide n Tryz.prog 93 #[rv, .func (.yield l) #[] #[]] W λe W'=>(e= .returned (.bool true)/\(∃ys:List (EnP P),ys.map (·.1)=(es.flatMap λe=>e::sub e)/\J (pre++ys) W')/\Below n₀ W W')\/(e= .returned (.bool false)/\ ∃q:List (EnP P),q.map (·.1)<+:(es.flatMap λe=>e::sub e)/\Jx (pre++q) W'):=by
 obtain ⟨ra,rk,hrv⟩: ∃a k,rv= .slice a es.length k:=z8o
 subst hrv
 have HC:Hid (∀k (hk:k<es.length),∃g,ra=some ⟨g,0,none⟩/\es.length<=rk/\g<W0.heap.size/\W0.cell? ⟨g,k,none⟩=some (enV (Qu ms) es[k])):=z7r
 have HSN:Hid (∀k (hk:k<es.length),((es.take (k+1)).flatMap λe=>e::sub e)=((es.take k).flatMap λe=>e::sub e)++(es[k]::sub es[k])):=z8t
 have HPF:Hid (∀k,∃r,(es.flatMap λe=>e::sub e)=((es.take k).flatMap λe=>e::sub e)++r):=z9r
 have HA:=hid hA0
 clear hrow hA0
 refine callsIn_of_wp Tryz.func93 rfl trivial ?_ rfl
 simp only [Tryz.ntmps93,List.size_toArray,List.length_cons,List.length_nil,Nat.reduceAdd,Nat.reduceSub,Array.replicate_succ,Array.replicate_zero,List.push_toArray,List.append_toArray,List.nil_append,List.cons_append]
 have hw: ∀f,Fence.wide.fn f:=λ_=>trivial
 have hdd: ∀k:Nat,(Fence.wide.depth.isSome=true->1<=k):=λk h=>by cases h
 have HJ0:=hid hJ
 have HW0:=hid hW
 have HN:=hid hN
 clear hJ hW hN
 gi_wp2
 gi_loopw [9] (λi wr=>∃k:Nat,k<=es.length/\i= .int .i64 k/\Hid (∃ys:List (EnP P),ys.map (·.1)=((es.take k).flatMap λe=>e::sub e)/\J (pre++ys) wr)/\Hid (Below n₀ W wr))
  (λi _=>es.length- (intOf i).toNat)
 case atStart=>exact ⟨0,Nat.zero_le _,rfl,⟨[],by simp,by simpa using HJ0.out⟩,Below.refl _ _⟩
 case round=>
  obtain ⟨k,hk,rfl,hys,hB⟩:=hrel
  by_cases hlt:k<es.length
  ·have hlt':(k:Int)<(es.length:Int):=by omega
   obtain ⟨g,hra,hrk,hg,hcell⟩:=HC.out k hlt
   subst hra
   obtain ⟨ys,hy1,hJ1⟩:=hys.out
   have hWr:Below W0.heap.size W0 wr:=HW0.out.trans (hB.out.mono hn₀)
   have hcell':wr.cell? ⟨g,k,none⟩=some (enV (Qu ms) es[k]):=(hWr.cell (p:=⟨g,k,none⟩) hg).trans hcell
   have hmem:es[k]∈es:=List.getElem_mem hlt
   have hlen:ys.length=((es.take k).flatMap λe=>e::sub e).length:=by rw [<-hy1];simp
   obtain ⟨rest,hrest⟩:=HPF.out (k+1)
   have hsn:=HSN.out k hlt
   have hN1:pre.length+ys.length+1+(sub es[k]).length<=N:=z93
   obtain ⟨X,hX⟩: ∃X:EnP P,X.1=es[k]:=⟨⟨es[k],hes.out _ hmem⟩,rfl⟩
   obtain ⟨fn,tmps,assign,body,hy,hR⟩:=hY.out (n- 1) (pre++ys) X wr hJ1 hWr yan
   rw [hX] at hy
   have hR':=hR.mono (R':=λe W'=>(e= .returned (.bool true)/\Hid (J (pre++ys++[X]) W'/\Below n₀ wr W'))\/(e= .returned (.bool false)/\Hid (Jx (pre++ys++[X]) W'))) (λe W' h=>h.elim (λh=> .inl ⟨h.1,hid h.2⟩) (λh=> .inr ⟨h.1,hid h.2⟩))
   have KW:=hid (λw1 (h1:Below W0.heap.size W0 w1)=>(callsIn_wide (n:=n- 1)).2 (On (HA.out.below h1) (hP _ (hes.out _ hmem))))
   have KR:=hid (λW3 (h1:J (pre++ys++[X]) W3) (h2:Below W0.heap.size W0 W3)=>RK.out (n- 1) (pre++ys++[X]) W3 h1 h2 es[k] hmem yan)
   have HWr:=hid hWr
   have HS:Hid (∀zs:List (EnP P),zs.map (·.1)=sub es[k]->(ys++[X]++zs).map (·.1)=((es.take (k+1)).flatMap λe=>e::sub e)):=by
    intro zs hz
    rw [hsn,List.map_append,List.map_append,hy1,hz]
    simp [hX]
   have HP:Hid (∀q:List (EnP P),q.map (·.1)<+:sub es[k]->(ys++[X]++q).map (·.1)<+:(es.flatMap λe=>e::sub e)):=z9j
   clear hcell hR hWr hJ1 hsn hrest hN1 hlen hy1 hys HJ0 HN
   generalize enV (Qu ms) es[k]=v at*
   generalize wiV ms es[k]=wv at*
   generalize sub es[k]=sk at*
   gi_wp2_with (first
    |((try refine ⟨hdd _,?_⟩);refine hR'.mono ?_;clear hR';rintro e W3 (⟨rfl,hJ3⟩|⟨rfl,hJx3⟩))
    |((try refine ⟨hdd _,?_⟩);gi_at_call 118;refine (KW.out _ (HWr.out.trans (hJ3.out.2.mono hn₀))).mono ?_;clear KW;rintro e w' ⟨rfl,rfl⟩)
    |((try refine ⟨hdd _,?_⟩);gi_at_call 93;refine (KR.out _ hJ3.out.1 (HWr.out.trans (hJ3.out.2.mono hn₀))).mono ?_;clear KR;rintro e W4 (⟨rfl,hq⟩|⟨rfl,hq⟩)))
   ·exact z8s
   ·exact z9m
   ·exact z9v
  ·have hlt': ¬(k:Int)<(es.length:Int):=by omega
   have hke:k=es.length:=yai
   subst hke
   obtain ⟨ys,hy1,hJ1⟩:=hys.out
   rw [List.take_length] at hy1
   have HY:=hid hy1
   have HJ1:=hid hJ1
   clear hy1 hJ1 hys HJ0 HN
   gi_wp2
   go_ret
   exact .inl ⟨rfl,⟨ys,HY.out,HJ1.out⟩,hB.out⟩
def zkr(P:En->Prop)(ms:List HM)(W0:World)(n₀ N l:Nat)(J Jx:List (EnP P)->World->Prop):Prop:=
 ∀m pre (x:EnP P) W,J pre W->Below W0.heap.size W0 W->pre.length<N->YieldAt Fence.wide m Tryz.prog l #[enV (Qu ms) x.1] W λe W'=>(e= .returned (.bool true)/\J (pre++[x]) W'/\Below n₀ W W')\/(e= .returned (.bool false)/\Jx (pre++[x]) W')
theorem zh9(hP: ∀e,P e->enG hs 3 e)(n l n₀ N:Nat)(hA0:Ar hs ms W0)(hn₀:W0.heap.size<=n₀)(J Jx:List (EnP P)->World->Prop)(hY:Hid (zkr P ms W0 n₀ N l J Jx))(pre:List (EnP P))(W:World)(hJ:J pre W)(hW:Below W0.heap.size W0 W)(hN:pre.length<=N):
  CallsIn Fence.wide n Tryz.prog 93 #[.slice none 0 0, .func (.yield l) #[] #[]] W λe W'=>(e= .returned (.bool true)/\(∃ys:List (EnP P),ys.map (·.1)=[]/\J (pre++ys) W')/\Below n₀ W W')\/(e= .returned (.bool false)/\ ∃q:List (EnP P),q.map (·.1)<+:[]/\Jx (pre++q) W'):=
 zea hP n l n₀ N (es:=[]) hA0 hn₀ (zka W0) yaj (hid λe he=>by simp at he) J Jx hY (λ_=>[]) (hid λ_ _ _ _ _ e he=>by simp at he) pre W hJ hW (by simpa using hN)
theorem zmw(hP: ∀e,P e->enG hs 3 e)(hcl: ∀j x,P (.inr j)->hs[j]?=some x->∀e∈x.ents,P e)(l n₀ N:Nat)(hA0:Ar hs ms W0)(hn₀:W0.heap.size<=n₀)(J Jx:List (EnP P)->World->Prop)(hY:Hid (zkr P ms W0 n₀ N l J Jx)): ∀f,f<=3->∀(n:Nat) (rv:Value) (es:List En),W0.ownsRow 0 162 1 rv es.length (es.map (enV (Qu ms)))->es.length<=14->(∀e∈es,enG hs f e)->(∀e∈es,P e)->∀(pre:List (EnP P)) (W:World),J pre W->Below W0.heap.size W0 W->pre.length+(Jf hs f es).length<=N ->
  CallsIn Fence.wide n Tryz.prog 93 #[rv, .func (.yield l) #[] #[]] W λe W'=>(e= .returned (.bool true)/\(∃ys:List (EnP P),ys.map (·.1)=Jf hs f es/\J (pre++ys) W')/\Below n₀ W W')\/(e= .returned (.bool false)/\ ∃q:List (EnP P),q.map (·.1)<+:Jf hs f es/\Jx (pre++q) W')
 |0,_,n,rv,es,hrow,h14,hes,hpe,pre,W,hJ,hW,hN=>by
  have e0:(es.flatMap λe=>e::(λ_:En=>([]:List En)) e)=Jf hs 0 es:=by simp [Jf]
  rw [<-e0] at hN⊢
  refine zea hP n l n₀ N hA0 hn₀ hrow h14 (hid hpe) J Jx hY (λ_=>[]) (hid λm pre W hJ hW e he hl=>?_) pre W hJ hW hN
  obtain ⟨s,rfl,hh⟩:=hes e he
  exact zh9 hP m l n₀ N hA0 hn₀ J Jx hY pre W hJ hW (by simpa using hl)
 |f+1,hf,n,rv,es,hrow,h14,hes,hpe,pre,W,hJ,hW,hN=>by
  have e0:(es.flatMap λe=>e::(λe:En=>Jf hs f (Jb hs e)) e)=Jf hs (f+1) es:=rfl
  rw [<-e0] at hN⊢
  refine zea hP n l n₀ N hA0 hn₀ hrow h14 (hid hpe) J Jx hY (λe=>Jf hs f (Jb hs e)) (hid λm pre W hJ hW e he hl=>?_) pre W hJ hW hN
  rcases hes e he with ⟨s,rfl,hh⟩|⟨j,x,s,rfl,hj,hk,hh,ht,hl2,hsub⟩
  ·have e1:Jf hs f (Jb hs (.inl s))=[]:=zax f
   simp only [e1]
   exact zh9 hP m l n₀ N hA0 hn₀ J Jx hY pre W hJ hW yai
  ·obtain ⟨hl3,e1⟩:=hA0.at hj
   have hw:wiV ms (.inr j)=ms[j].rv:=by simp [wiV,List.getElem?_eq_getElem hl3]
   have e2:Jb hs (.inr j)=x.ents:=yby
   simp only [e2] at hl⊢
   rw [hw]
   have hr:=(hA0.hd j hl3).row
   rw [e1] at hr
   exact zmw hP hcl l n₀ N hA0 hn₀ J Jx hY f yai m _ _ hr hl2 hsub (hcl j x (hpe _ he) hj) pre W hJ hW hl
theorem zw1(hP: ∀e,P e->enG hs 3 e)(hcl: ∀j x,P (.inr j)->hs[j]?=some x->∀e∈x.ents,P e)(n l n₀ Bt:Nat)(hA0:Ar hs ms W0)(hn₀:W0.heap.size<=n₀)(hrow:W0.ownsRow 0 162 1 (.slice a p c) es.length (es.map (enV (Qu ms))))(h14:es.length<=14)(hes: ∀e∈es,P e)(J Jx:List (EnP P)->World->Prop)
  (hY:Hid (zkr P ms W0 n₀ (Jf hs 3 es).length l J Jx)) (W:World) (hW:Below W0.heap.size W0 W) (hBt:W.cell? ⟨Bt,0,none⟩=some (.slice a p c)) (h0:J [] W):
  CallsIn Fence.wide n Tryz.prog 92 #[.func (.yield l) #[] #[], .pointer (some ⟨Bt,0,none⟩)] W λe W'=>(∃v,e= .returned v)/\((∃ys:List (EnP P),ys.map (·.1)=Jf hs 3 es/\J ys W')\/(∃pre:List (EnP P),pre.map (·.1)<+:Jf hs 3 es/\Jx pre W')):=by
 have hdd: ∀k:Nat,(Fence.wide.depth.isSome=true->1<=k):=λk h=>by cases h
 have hw: ∀f,Fence.wide.fn f:=λ_=>trivial
 have hp:=hid (zmw hP hcl l n₀ (Jf hs 3 es).length hA0 hn₀ J Jx hY 3 yai (n- 1) (.slice a p c) es hrow h14 (λe he=>hP e (hes e he)) hes [] W h0 hW yaj)
 clear hrow hes hA0 h0
 refine callsIn_of_wp Tryz.func92 rfl trivial ?_ rfl
 simp only [Tryz.ntmps92,List.size_toArray,List.length_cons,List.length_nil,Nat.reduceAdd,Nat.reduceSub,Array.replicate_succ,Array.replicate_zero,List.push_toArray,List.append_toArray,List.nil_append,List.cons_append]
 gi_wp2_with ((try refine ⟨hdd _,?_⟩);gi_at_call 93;refine hp.out.mono ?_;clear hp;rintro e W1 (⟨rfl,hJ1⟩|⟨rfl,hx⟩))
 ·exact z9u
 ·exact yab
theorem zoy(hP: ∀e,P e->enG hs 3 e)(hcl: ∀j x,P (.inr j)->hs[j]?=some x->∀e∈x.ents,P e)(n Bt:Nat)(w W2:World)(hA:Ar hs ms w)(hrow:w.ownsRow 0 162 1 (.slice a p c) es.length (es.map (enV (Qu ms))))(h14:es.length<=14)(hes: ∀e∈es,P e)(hb:Below w.heap.size w W2)(hBt:W2.cell? ⟨Bt,0,none⟩=some (.slice a p c)):
  SeqStopsK Fence.wide n Tryz.prog 92 #[.pointer (some ⟨Bt,0,none⟩)] (λx:EnP P=>#[enV (Qu ms) x.1]) (Below w.heap.size) (λys=>ys.map (·.1)=Jf hs 3 es) (λpre=>pre.map (·.1)<+:Jf hs 3 es) (Jf hs 3 es).length W2:=λl J Jx W hW _ _ hY h0=>
 zw1 hP hcl n l w.heap.size Bt hA (Nat.le_refl _) hrow h14 hes J Jx (hid λm pre x W' hJ _ hl=>zh0 m (hY pre x W' hJ hl)) W (hb.trans (hW.mono hb.size)) ((hW.cell (p:=⟨Bt,0,none⟩) (blt hBt)).trans hBt) h0
end
end Go.Proofs.YtphcopbffecceaaGreatDoor
