import Derived.Test.YtiiepngikigmbaaGreatDoorP34
import Derived.Test.YtiiepngikigmbaaGreatDoorP37
import Derived.Deep.RegionHeld
set_option maxRecDepth 100000
set_option maxHeartbeats 4000000
namespace Go.Proofs.YtiiepngikigmbaaGreatDoor
open Go.RowKit
variable{B b c i p:Nat}{W W' X Y w:World}{es:List En}{a:Act}{s:St}{T e:TypeId}{bs:List Value}{l:List Bool}
abbrev z3i(sb lb i:Nat):Obj:= .cells #[.slice none 0 0, .map (some sb), .map (some lb), .int .i64 (i:Int), .int .i64 0, .pointer none, .slice none 0 0] 98
section
variable{W:World}{br sb n:Nat}{ta:Option Addr}{tk:Nat}{tb lb:Nat->Nat}{rv:Nat->Value}{tx:Nat->ByteArray}
theorem z3j(hn:n<=3)(c0:W.cell? ⟨br,0,none⟩=some (.map (some sb)))(c1:W.cell? ⟨br,1,none⟩=some (.slice ta n tk))
  (HT:Hid (∀i,i<n->∃g,ta=some ⟨g,0,none⟩/\W.cell? ⟨g,i,none⟩=some (ptr (tb i))/\W.cell? ⟨tb i,0,none⟩=some (rv i)/\W.cell? ⟨tb i,1,none⟩=some (.map (some (lb i)))))
  (J:Nat->World->Prop) (P1 P2 P3:Nat->Nat->World->Prop) (R:Value->World->Prop) (HTX:Hid (∀i c w,i<n->P3 i c w->(tx i).size<=1000000000000))
  (hlow:Hid (∀i wr,J i wr->Below W.heap.size W wr)) (h0:Hid (J 0 (W.alloc (.cells #[.pointer none, .slice none 0 0] 84))))
  (K1:Hid (∀i wr,i<n->J i wr->Cl 27 #[ptr wr.heap.size,rv i] (wr.drew.alloc (z3i sb (lb i) i)) λe w'=>e= .returned (.tuple #[])/\P1 i wr.heap.size w'))
  (K2:Hid (∀i c w,i<n->P1 i c w->Cl 28 #[ptr c] w λe w'=>e= .returned (.tuple #[])/\P2 i c w'))
  (K3:Hid (∀i c w,i<n->P2 i c w->Cl 30 #[ptr c] w λe w'=>e= .returned (.string (tx i))/\P3 i c w'))
  (K4:Hid (∀i c w,i<n->P3 i c w->Cl 29 #[ptr W.heap.size, .string (⟨#[116,104,114,101,97,100,10]⟩++tx i)] w λe w'=>(∃v,e= .returned v)/\J (i+1) w'))
  (K5:Hid (∀w,J n w->Cl 31 #[ptr W.heap.size] w λe w'=>∃v,e= .returned v/\R v w')):
  Cl 15 #[ptr br] W λe w'=>∃v,e= .returned v/\R v w':=by
 have l0:=blt c0
 have HC0:Hid (∀wr,Below W.heap.size W wr->wr.cell? ⟨br,0,none⟩=some (.map (some sb))):=hid λwr h=>(h.cell (p:=⟨br,0,none⟩) l0).trans c0
 have HK:Hid (∀wr,Below W.heap.size W wr->∀b o v,W.cell? ⟨b,o,none⟩=some v->wr.cell? ⟨b,o,none⟩=some v):=hid λwr h b o v hv=>(h.cell (p:=⟨b,o,none⟩) (blt hv)).trans hv
 go_enter Tryz.func15,Tryz.ntmps15
 go_wp2
 go_loopw [12] (λv12 wr=>∃i:Nat,i<=n/\v12= .int .i64 i/\Hid (J i wr)) (λv12 _=>n- (intOf v12).toNat)
 case atStart=>exact ⟨0,Nat.zero_le _,rfl,h0⟩
 case round=>
  obtain ⟨i,hi,rfl,hB⟩:=hrel
  by_cases hlt:i<n
  ·have hlt':(i:Int)<(n:Int):=by omega
   have hi0:(0:Int)<=(i:Int):=yl5
   obtain ⟨g,hta,t1,t2,t3⟩:=HT.out i hlt
   subst hta
   have hbl:=hlow.out i wr hB.out
   have d0:=HC0.out wr hbl
   have d1:=HK.out wr hbl _ _ _ t1
   have d3:=HK.out wr hbl _ _ _ t3
   have d2:=HK.out wr hbl _ _ _ t2
   have lt:tb i<wr.heap.size:=blt d2
   have D1:=hid (K1.out i wr hlt hB.out)
   have D2:=hid (λc w=>K2.out i c w hlt)
   have D3:=hid (λc w=>K3.out i c w hlt)
   have D4:=hid (λc w=>K4.out i c w hlt)
   have D5:=hid (λc w=>HTX.out i c w hlt)
   clear hbl t1 t2 t3 K1 K2 K3 K4 HT HC0 HK c0 c1
   generalize tb i=tbi at*
   generalize lb i=lbi at*
   generalize rv i=rvi at*
   generalize tx i=txi at*
   go_wp2_with fail
   go_region_law fail
   all_goals
    go_wp2_with fail
    refine D1.out.mono ?_
    rintro e w1 ⟨rfl,q⟩
    have H1:=hid q
    clear q
    go_wp2_with fail
    refine (D2.out _ _ H1.out).mono ?_
    rintro e w2 ⟨rfl,q⟩
    have H2:=hid q
    clear q
    go_wp2_with fail
    refine (D3.out _ _ H2.out).mono ?_
    rintro e w3 ⟨rfl,q⟩
    have hs: ¬9223372036854775807<7+txi.size:=by have:=D5.out _ _ q;omega
    have H3:=hid q
    clear q
    go_wp2_with fail
    refine (D4.out _ _ H3.out).mono ?_
    rintro e w4 ⟨⟨v,rfl⟩,q⟩
    have H4:=hid q
    clear q
    go_wp2
    go_roundw
    case rel=>exact ⟨i+1,by omega,by go_num,H4⟩
    case measure=>simp [intOf];omega
  ·have hlt': ¬(i:Int)<(n:Int):=by omega
   have hie:i=n:=yl5
   subst hie
   have D5:=hid (K5.out wr hB.out)
   go_wp2_with fail
   refine D5.out.mono ?_
   rintro e w1 ⟨v,rfl,q⟩
   have H1:=hid q
   clear q
   go_wp2
   go_ret
   exact ⟨v,rfl,H1.out⟩
end
section
variable{st:RS}{lv:Nat->Nat}{ib:Nat->Bool}{wt:Nat->Nat}{x:Cx}
theorem zy0(h:Fit st lv ib wt)(hx:x.sh=st.shared)(hc: ¬6<st.cells){u:ByteArray}(hu:u.size<=maxLen)(hs:st.isSh u=true):x.varOk u:=by
 unfold RS.isSh at hs
 have hex:(st.shared.find? λp=>decide (p.1=u)).isSome=true:=by
  rw [List.find?_isSome]
  obtain ⟨p,hp,hq⟩:=List.any_eq_true.1 hs
  exact ⟨p,hp,hq⟩
 obtain ⟨p,hp⟩:=Option.isSome_iff_exists.1 hex
 obtain ⟨q1,q2,q3⟩:=h.sh p (List.mem_of_find?_eq_some hp)
 refine ⟨hu,p.2.1.toNat,p.2.2.toNat,?_,by omega,by omega⟩
 unfold Cx.var
 rw [hx,hp]
 simp only [Option.map_some,Option.getD_some]
 refine Prod.ext ?_ ?_
 ·show p.2.1=_;omega
 ·show p.2.2=_;omega
theorem zw0(hz:zl9 s)(hn:zop s){v:PV}(hv:v∈Qj s):v.ok:=⟨hz.rd v hv,hn.rd v hv⟩
theorem zsn(h:Fit st lv ib wt)(hx:x.sh=st.shared)(hc: ¬6<st.cells){b:Bool}(hl:z0s st b s):x.leafOk b s:=by
 have hr:=λv (hv:v∈Qj s)=>zw0 hl.sz hl.nm hv
 have hto:=hl.sz.to
 have hof:=hl.of
 have hofz:=hl.sz.of
 have hop:=hl.nm.op
 have hnh:=hl.nh
 clear hl
 rcases s with ⟨to,a⟩|⟨to,o,a,c⟩|⟨to,f,a⟩|⟨f,a,c⟩|a|⟨⟩|a|n
 ·exact ⟨hto,hr a ymq⟩
 ·exact ⟨hto,hop,hr a ymq,hr c ymq⟩
 ·exact ⟨(hof f rfl).1,hto,zy0 h hx hc (hofz f rfl) (hof f rfl).2,hr a ymq⟩
 ·exact ⟨(hof f rfl).1,zy0 h hx hc (hofz f rfl) (hof f rfl).2,hr a ymq,hr c ymq⟩
 ·exact hr a ymq
 ·simp [Qf] at hnh
 ·simp [Qf] at hnh
 ·simp [Qf] at hnh
theorem z3n(h:Fit st lv ib wt)(he: ∀(j:Nat) (y:Hd),st.hs[j]?=some y->y.ents.length<=14)(hx:x.sh=st.shared)(hc: ¬6<st.cells): ∀(f i:Nat) (y:Hd),st.hs[i]?=some y->lv i+f=3->∀e∈y.ents,enW st.hs x f (ib i) e
 |0,i,y,hy,_, .inl s,hm=>zsn h hx hc (h.leaf i y hy s hm)
 |f+1,i,y,hy,_, .inl s,hm=>zsn h hx hc (h.leaf i y hy s hm)
 |0,i,y,hy,hf, .inr j,hm=>by
  obtain ⟨q1,s,q2,q3⟩:=h.nest i y hy j hm
  obtain ⟨z,hz,_⟩:=Yy q2
  have:=h.le j (List.getElem?_eq_some_iff.1 hz).1
  omega
 |f+1,i,y,hy,hf, .inr j,hm=>by
  obtain ⟨q1,s,q2,q3⟩:=h.nest i y hy j hm
  obtain ⟨z,hz,hzk⟩:=Yy q2
  have ih:=z3n h he hx hc f j z hz yl5
  have hzz:st.hs[j]?=some ⟨.st s,z.ents⟩:=by rw [hz,<-hzk]
  refine ⟨z.ents,he j z hz,?_⟩
  have hh:=q3.hh
  have hr:=λv (hv:v∈Qj s)=>zw0 q3.sz q3.nm hv
  have h1:=q3.at1
  have h0:=q3.at0
  have hlp:=q3.lp
  clear q3 q2
  rcases s with ⟨to,a⟩|⟨to,o,a,c⟩|⟨to,f,a⟩|⟨f,a,c⟩|a|⟨⟩|a|n
  ·simp [Qf] at hh
  ·simp [Qf] at hh
  ·simp [Qf] at hh
  ·simp [Qf] at hh
  ·simp [Qf] at hh
  ·obtain ⟨e1,e2⟩:=h1 rfl
   rw [e2] at ih
   exact .inl ⟨hzz,e1,ih⟩
  ·rw [h0 rfl] at ih
   exact .inr (.inl ⟨a,hzz,hr a ymq,ih⟩)
  ·rw [h0 rfl] at ih
   exact .inr (.inr ⟨n,hzz,hlp n rfl,ih⟩)
theorem z0w(h:Fit st lv ib wt): ∀(f:Nat) (e:En),wE st.hs f e<=wtE wt e
 |0, .inl _=>Nat.le_refl 1
 |0, .inr j=>by show 1<=1+wt j;omega
 |f+1, .inl _=>Nat.le_refl 1
 |f+1, .inr j=>by
  show 1+((Jb st.hs (.inr j)).map (wE st.hs f)).sum<=1+wt j
  cases hj:st.hs[j]? with
  |none=>simp [Jb,hj]
  |some y=>
   have h1:=h.w j y hj
   have h2:(y.ents.map (wE st.hs f)).sum<=(y.ents.map (wtE wt)).sum:=by
    have ih:=z0w h f
    generalize y.ents=es
    induction es with
    |nil=>simp
    |cons e r ih2=>
     have:=ih e
     simp only [List.map_cons,List.sum_cons]
     omega
   simp only [Jb,hj]
   omega
end
theorem zms{s:ByteArray}{st:RS}(hg:Jl s= .ok st)(hok:st.Ok 2000)(hm:zay st=false)(x:Cx)(hx:x.sh=st.shared)(t:Nat)(ht:t∈st.threads):
  (st.ents t).length<=14/\(∀e∈st.ents t,enW st.hs x 3 false e)/\((st.ents t).map (wE st.hs 3)).sum<=14:=by
 obtain ⟨lv,ib,wt,h⟩:=zd8 hg
 have hc: ¬6<st.cells:=by
  unfold zay at hm
  simp only [Bool.or_eq_false_iff,decide_eq_false_iff_not] at hm
  exact hm.1
 obtain ⟨l,c,q1,q2,q3⟩:=hok.thr t ht
 obtain ⟨y,hy,_⟩:=Yy q1
 have he:st.ents t=y.ents:=by unfold RS.ents;rw [hy]
 obtain ⟨l0,i0⟩:=h.thr t ht
 have hw:=h.w t y hy
 have hcc:=h.c t ht l c q1
 rw [he]
 refine ⟨hok.e14 t y hy,?_,?_⟩
 ·have:=z3n h hok.e14 hx hc 3 t y hy yl5
  rw [i0] at this
  exact this
 ·have h2:(y.ents.map (wE st.hs 3)).sum<=(y.ents.map (wtE wt)).sum:=by
   have ih:=z0w h 3
   generalize y.ents=es
   induction es with
   |nil=>simp
   |cons e r ih2=>
    have:=ih e
    simp only [List.map_cons,List.sum_cons]
    omega
  omega
theorem zd9{p:Value}(h:Lib.BuilderAtF T e B b p bs W)(hb:Below W.heap.size W W'):Lib.BuilderAtF T e B b p bs W':=by
 have hlt:=h.lt
 obtain ⟨hB,v,hv,hown,hne⟩:=h
 exact ⟨hB,v,(hb.block b hlt).trans hv,hown.kept (row:=none) ⟨hb.os,hb.tape,hb.output,hb.size,λk hk _=>hb.block k hk⟩ (Classical.em _),hne⟩
theorem zsq(h:Lib.IsBuilderF T e B b bs W)(hb:Below W.heap.size W W'):Lib.IsBuilderF T e B b bs W':=
 h.elim (λx=> .inl (zd9 x hb)) (λx=> .inr (zd9 x hb))
def TabAt(W:World):Prop:=∀w,Below W.heap.size W w->Lib.TabIs Tryz.prog w "internal/strconv.uint64pow10" .u64 Lib.pow10Tab
theorem TabAt.below(h:TabAt W)(hb:Below W.heap.size W W'):TabAt W':=λw hw=>h w (hb.trans (hw.mono hb.size))
def RS.locs(st:RS)(t:Nat):List ByteArray:=match st.hk t with
 |some (.inl (l,_))=>l
 |_=>[]
def RS.thr(st:RS)(i:Nat):Nat:=(st.threads[i]?).getD 0
def zmu(st:RS)(i sb lb:Nat):Cx:=⟨st.shared,st.locs (st.thr i),i,sb,lb⟩
theorem zkq(hs:List Hd)(x y:Cx)(f:Nat)(h: ∀e s,cEn hs x f e s=cEn hs y f e s): ∀(es:List En) (s:Ck),es.foldl (λs e=>cEn hs x f e s) s=es.foldl (λs e=>cEn hs y f e s) s
 |[],_=>rfl
 |e::r,s=>by
  simp only [List.foldl_cons]
  rw [h e s]
  exact zkq hs x y f h r _
theorem zy2(hs:List Hd)(sh:List (ByteArray×Int×Int))(loc:List ByteArray)(th sb lb sb' lb':Nat): ∀(f:Nat) (e:En) (s:Ck),cEn hs ⟨sh,loc,th,sb,lb⟩ f e s=cEn hs ⟨sh,loc,th,sb',lb'⟩ f e s
 |0, .inl _,_=>rfl
 |0, .inr _,_=>rfl
 |f+1, .inl _,_=>rfl
 |f+1, .inr j,s=>by
  have ih:=zkq hs ⟨sh,loc,th,sb,lb⟩ ⟨sh,loc,th,sb',lb'⟩ f (zy2 hs sh loc th sb lb sb' lb' f)
  simp only [cEn]
  cases hs[j]? with
  |none=>rfl
  |some y=>
   obtain ⟨k,es⟩:=y
   cases k with
   |inl p=>rfl
   |inr st=>
    simp only
    rw [show (λs=>es.foldl (λs e=>cEn hs ⟨sh,loc,th,sb,lb⟩ f e s) s)=λs=>es.foldl (λs e=>cEn hs ⟨sh,loc,th,sb',lb'⟩ f e s) s from funext λs=>ih es s]
    rfl
def Ek(st:RS)(i:Nat):ByteArray:=zfr st.hs (zmu st i 0 0) (st.ents (st.thr i))
def za0(st:RS):Nat->List UInt8
 |0=>[]
 |i+1=>za0 st i++(Ek st i).data.toList
def Yi(st:RS):ByteArray:=⟨(za0 st st.threads.length).toArray⟩
section
variable{D:Nat->Prop}{lab:Nat->Nat×Nat}{W:World}{br sb bs:Nat}{tv ov:Value}{st:RS}{ms:List HM}{k:Nat}
def mAt(ms:List HM)(st:RS)(i:Nat):HM:=(ms[st.thr i]?).getD ⟨0, .nilIface,0,⟨.st .atomic,[]⟩⟩
structure z5s(W:World)(st:RS)(ms:List HM)(tv:Value)(i:Nat):Prop where
 row: ∃g cp,tv= .slice (some ⟨g,0,none⟩) st.threads.length cp/\W.cell? ⟨g,i,none⟩=some (ptr (mAt ms st i).b)
 c0:W.cell? ⟨(mAt ms st i).b,0,none⟩=some (mAt ms st i).rv
 c1:W.cell? ⟨(mAt ms st i).b,1,none⟩=some (.map (some (mAt ms st i).mb))
 own:W.ownsRow 0 138 1 (mAt ms st i).rv (st.ents (st.thr i)).length ((st.ents (st.thr i)).map (enV (Qu ms)))
 mp:MapIs W (mAt ms st i).mb (zjx (st.locs (st.thr i))) (st.locs (st.thr i)).length
 ln:(st.locs (st.thr i)).length<=4
 mem:st.thr i∈st.threads
theorem z3p(h:RMach D lab W br sb bs tv ov st ms)(hok:st.Ok k)(i:Nat)(hi:i<st.threads.length):z5s W st ms tv i:=by
 have ht:st.thr i=st.threads[i]:=by unfold RS.thr;rw [List.getElem?_eq_getElem hi];rfl
 obtain ⟨g,cp,e1,_,_,hlt,e2,_,e3,_,e4,_⟩:=h.thread_at hok i hi
 have hm:mAt ms st i=ms[st.threads[i]]:=by unfold mAt;rw [ht,List.getElem?_eq_getElem hlt];rfl
 have hmem:st.threads[i]∈st.threads:=List.getElem_mem hi
 obtain ⟨l,c,q1,q2,q3⟩:=hok.thr _ hmem
 obtain ⟨y,hy,hyk⟩:=Yy q1
 have hx:=h.hsAt _ hlt
 have hyy:y=ms[st.threads[i]].h:=by rw [hx] at hy;simpa using hy.symm
 have hkd:=(h.hd _ hlt).kind
 rw [<-hyy,hyk] at hkd
 obtain ⟨k1,k2,k3⟩:=hkd
 have hl:st.locs (st.thr i)=l:=by unfold RS.locs;rw [ht,q1]
 exact {row:=⟨g,cp,e1,by rw [hm];exact e2⟩,c0:=by rw [hm];exact e3,c1:=by rw [hm];exact k1,own:=by rw [hm,ht];exact e4,mp:=by rw [hm,hl];exact k3,ln:=by rw [hl];exact q3,mem:=by rw [ht];exact hmem}
end
abbrev za1(st:RS)(i:Nat):Ck:=(st.ents (st.thr i)).foldl (λs e=>cEn st.hs (zmu st i 0 0) 3 e s) Ck.none'
theorem zsr(s:Ck):s.endC.g<=s.g+s.T.length+2:=by
 unfold Ck.endC
 split
 ·show s.g+1<=_;omega
 ·show (((s.add [Ex]).lands s.T).g+1)<=_
  rw [If]
  show s.g+1+s.T.length+1<=_
  omega
theorem zss(s:Ck):s.endC.L≠[]:=by
 unfold Ck.endC
 split
 ·show s.L++[_]≠[];simp
 ·show ((s.add [Ex]).lands s.T).L++[_]≠[];simp
theorem zmv{s:Ck}(h:s.Ok)(hG:s.g<=20000):s.text.size<=20000000000:=by
 have h1:=zbz (200+30*s.g) s.L h.z
 have h2:=h.l
 have h3:(200+30*s.g+1)*s.L.length<=(200+30*s.g+1)*20000:=Nat.mul_le_mul_left _ yl5
 unfold Ck.text Zt
 rw [ByteArray.size_append]
 have e1:(ByteArray.mk #[10]).size=1:=rfl
 have e2:(ByteArray.mk (Lib.join (s.L.map (·.data.toList)) [10]).toArray).size=(Lib.join (s.L.map (·.data.toList)) [10]).length:=by simp [ByteArray.size]
 omega
def Sw(l:List Bool)(f n:Nat):List Bool:=(List.range n).foldl (λl i=>l.set (f+i) true) l
theorem zft(l:List Bool)(f n:Nat):Sw l f (n+1)=(Sw l f n).set (f+n) true:=by
 simp [Sw,List.range_succ,List.foldl_append]
theorem za2(l:List Bool)(f:Nat): ∀n,(Sw l f n).length=l.length
 |0=>rfl
 |n+1=>by rw [zft,List.length_set,za2 l f n]
def MarksAt(w:World)(b o:Nat)(l:List Bool):Prop:=∀(i:Nat) v,l[i]?=some v->w.cell? ⟨b,o+i,none⟩=some (.bool v)
section
variable{w:World}{b o f n:Nat}{l:List Bool}
theorem MarksAt.set(h:MarksAt w b o l)(hf:f<l.length):MarksAt (w.setCell ⟨b,o+f,none⟩ (.bool true)) b o (l.set f true):=by
 intro i v hv
 by_cases e:i=f
 ·subst e
  rw [List.getElem?_set_self hf] at hv
  cases hv
  exact Qg (h i _ (List.getElem?_eq_getElem hf)) rfl
 ·rw [List.getElem?_set_ne (λe'=>e e'.symm)] at hv
  exact (Qb (.inr yl5)).trans (h i v hv)
theorem zy3(h:MarksAt w b o l)(hl:l.length=6)(hfr: ∀j,w.frozen? ⟨b,j,none⟩=false)(hfn:f+n<=6):
  Cl 144 #[.pointer (some ⟨b,o,none⟩), .agg #[.int .i64 (f:Int), .int .i64 (n:Int)]] w λe w'=>e= .returned (.tuple #[])/\MarksAt w' b o (Sw l f n)/\Chg (λk j=>k=b/\o<=j/\j<o+6) w w':=by
 have lb:b<w.heap.size:=blt (h 0 l[0] (List.getElem?_eq_getElem yl5))
 have H0:Hid (MarksAt (w.alloc (.cells #[.int .i64 (f:Int), .int .i64 (n:Int)] 184)) b o l):=hid λi v hv=>(World.cell?_alloc_past _ _ _ lb).trans (h i v hv)
 have HF:=hid hfr
 clear h hfr
 go_enter Tryz.func144,Tryz.ntmps144
 go_wp2
 go_loopw [7] (λv7 wr=>∃k:Nat,k<=n/\v7= .int .i64 k/\Hid (MarksAt wr b o (Sw l f k))/\Hid (Chg (λk j=>k=b/\o<=j/\j<o+6) (w.alloc (.cells #[.int .i64 (f:Int), .int .i64 (n:Int)] 184)) wr)) (λv7 _=>n- (intOf v7).toNat)
 case atStart=>exact ⟨0,Nat.zero_le _,rfl,H0,hid (Chg.refl _ _)⟩
 case round=>
  obtain ⟨k,hk,rfl,hB,hC⟩:=hrel
  by_cases hlt:k<n
  ·have hlt':(k:Int)<(n:Int):=by omega
   have hi0:(0:Int)<=(f:Int)+(k:Int):=yl5
   have hi6:(f:Int)+(k:Int)<6:=yl5
   have hwr:IntKind.i64.wrap ((f:Int)+(k:Int))=(f:Int)+(k:Int):=ymd
   have htn:((f:Int)+(k:Int)).toNat=f+k:=yl5
   have e0:wr.cell? ⟨w.heap.size,0,none⟩=some (.int .i64 (f:Int)):=(hC.out.cell _ _ yl6 yl5).trans (World.cell?_alloc_new _ _ _ 0)
   have hlen:=za2 l f k
   have ec:=hB.out (f+k) (Sw l f k)[f+k] (List.getElem?_eq_getElem yl5)
   have ef:wr.frozen? ⟨b,o+(f+k),none⟩=false:=(hC.out.frozen _ _ yma).trans ((World.frozen?_alloc_past _ _ _ lb).trans (HF.out _))
   have HN:=hid (hB.out.set (f:=f+k) yl5)
   rw [<-zft] at HN
   have HC2:=hid (hC.out.then (((Chg.refl (λkk j=>kk=b/\j=o+(f+k)) wr).setCell (b:=b) (o:=o+(f+k)) (λ_=>⟨rfl,rfl⟩) (.bool true))) (λj i _ e=>⟨e.1,by omega,by omega⟩))
   clear hB hC
   generalize (Sw l f k)[f+k]=v0 at*
   go_wp2_with fail
   go_region_law fail
   go_wp2
   go_roundw
   case rel=>exact ⟨k+1,by omega,by go_num,hid λi v hv=>HN.out i v hv,hid HC2.out.drew⟩
   case measure=>simp [intOf];omega
  ·have hlt': ¬(k:Int)<(n:Int):=by omega
   have hk6:k=n:=yl5
   rw [hk6] at hB
   go_wp2
   go_end0
   exact ⟨rfl,hB.out,((Chg.refl _ w).alloc _).trans hC.out⟩
end
open Go.RowKit Go.Shelf
attribute [local go_sem] Oper.semAt_some
abbrev EnP(P:En->Prop):={e:En // P e}
section
variable{hs:List Hd}{ms:List HM}{W0:World}{P:En->Prop}
theorem zea(hP: ∀e,P e->enG hs 3 e)(n l n₀ N:Nat){rv:Value}(hA0:Ar hs ms W0)(hn₀:W0.heap.size<=n₀)(hrow:W0.ownsRow 0 138 1 rv es.length (es.map (enV (Qu ms))))(h14:es.length<=14)(hes:Hid (∀e∈es,P e))(J Jx:List (EnP P)->World->Prop)
  (hY:Hid (∀m pre (x:EnP P) W,J pre W->Below W0.heap.size W0 W->pre.length<N->YieldAt Fence.wide m Tryz.prog l #[enV (Qu ms) x.1] W λe W'=>(e= .returned (.bool true)/\J (pre++[x]) W'/\Below n₀ W W')\/(e= .returned (.bool false)/\Jx (pre++[x]) W')))
  (sub:En->List En)
  (RK:Hid (∀m pre W,J pre W->Below W0.heap.size W0 W->∀e∈es,pre.length+(sub e).length<=N->CallsIn Fence.wide m Tryz.prog 89 #[wiV ms e, .func (.yield l) #[] #[]] W λe' W'=>(e'= .returned (.bool true)/\(∃ys:List (EnP P),ys.map (·.1)=sub e/\J (pre++ys) W')/\Below n₀ W W')\/(e'= .returned (.bool false)/\ ∃q:List (EnP P),q.map (·.1)<+:sub e/\Jx (pre++q) W')))
  (pre:List (EnP P)) (W:World) (hJ:J pre W) (hW:Below W0.heap.size W0 W) (hN:pre.length+(es.flatMap λe=>e::sub e).length<=N):
  CallsIn Fence.wide n Tryz.prog 89 #[rv, .func (.yield l) #[] #[]] W λe W'=>(e= .returned (.bool true)/\(∃ys:List (EnP P),ys.map (·.1)=(es.flatMap λe=>e::sub e)/\J (pre++ys) W')/\Below n₀ W W')\/(e= .returned (.bool false)/\ ∃q:List (EnP P),q.map (·.1)<+:(es.flatMap λe=>e::sub e)/\Jx (pre++q) W'):=by
 obtain ⟨ra,rk,hrv⟩: ∃a k,rv= .slice a es.length k:=ykh
 subst hrv
 have HC:Hid (∀k (hk:k<es.length),∃g,ra=some ⟨g,0,none⟩/\es.length<=rk/\g<W0.heap.size/\W0.cell? ⟨g,k,none⟩=some (enV (Qu ms) es[k])):=yjx
 have HSN:Hid (∀k (hk:k<es.length),((es.take (k+1)).flatMap λe=>e::sub e)=((es.take k).flatMap λe=>e::sub e)++(es[k]::sub es[k])):=ykl
 have HPF:Hid (∀k,∃r,(es.flatMap λe=>e::sub e)=((es.take k).flatMap λe=>e::sub e)++r):=ylj
 have HA:=hid hA0
 clear hrow hA0
 refine callsIn_of_wp Tryz.func89 rfl trivial ?_ rfl
 simp only [Tryz.ntmps89,List.size_toArray,List.length_cons,List.length_nil,Nat.reduceAdd,Nat.reduceSub,Array.replicate_succ,Array.replicate_zero,List.push_toArray,List.append_toArray,List.nil_append,List.cons_append]
 have hw: ∀f,Fence.wide.fn f:=λ_=>trivial
 have hdd: ∀k:Nat,(Fence.wide.depth.isSome=true->1<=k):=λk h=>by cases h
 have HJ0:=hid hJ
 have HW0:=hid hW
 have HN:=hid hN
 clear hJ hW hN
 gi_wp2
 gi_loopw [9] (λi wr=>∃k:Nat,k<=es.length/\i= .int .i64 k/\Hid (∃ys:List (EnP P),ys.map (·.1)=((es.take k).flatMap λe=>e::sub e)/\J (pre++ys) wr)/\Hid (Below n₀ W wr))
  (λi _=>es.length- (intOf i).toNat)
 case atStart=>exact ⟨0,Nat.zero_le _,rfl,⟨[],by simp,by simpa using HJ0.out⟩,Below.refl _ _⟩
 case round=>
  obtain ⟨k,hk,rfl,hys,hB⟩:=hrel
  by_cases hlt:k<es.length
  ·have hlt':(k:Int)<(es.length:Int):=by omega
   obtain ⟨g,hra,hrk,hg,hcell⟩:=HC.out k hlt
   subst hra
   obtain ⟨ys,hy1,hJ1⟩:=hys.out
   have hWr:Below W0.heap.size W0 wr:=HW0.out.trans (hB.out.mono hn₀)
   have hcell':wr.cell? ⟨g,k,none⟩=some (enV (Qu ms) es[k]):=(hWr.cell (p:=⟨g,k,none⟩) hg).trans hcell
   have hmem:es[k]∈es:=List.getElem_mem hlt
   have hlen:ys.length=((es.take k).flatMap λe=>e::sub e).length:=by rw [<-hy1];simp
   obtain ⟨rest,hrest⟩:=HPF.out (k+1)
   have hsn:=HSN.out k hlt
   have hN1:pre.length+ys.length+1+(sub es[k]).length<=N:=ylv
   obtain ⟨X,hX⟩: ∃X:EnP P,X.1=es[k]:=⟨⟨es[k],hes.out _ hmem⟩,rfl⟩
   obtain ⟨fn,tmps,assign,body,hy,hR⟩:=hY.out (n- 1) (pre++ys) X wr hJ1 hWr yma
   rw [hX] at hy
   have hR':=hR.mono (R':=λe W'=>(e= .returned (.bool true)/\Hid (J (pre++ys++[X]) W'/\Below n₀ wr W'))\/(e= .returned (.bool false)/\Hid (Jx (pre++ys++[X]) W'))) (λe W' h=>h.elim (λh=> .inl ⟨h.1,hid h.2⟩) (λh=> .inr ⟨h.1,hid h.2⟩))
   have KW:=hid (λw1 (h1:Below W0.heap.size W0 w1)=>(callsIn_wide (n:=n- 1)).2 (On (HA.out.below h1) (hP _ (hes.out _ hmem))))
   have KR:=hid (λW3 (h1:J (pre++ys++[X]) W3) (h2:Below W0.heap.size W0 W3)=>RK.out (n- 1) (pre++ys++[X]) W3 h1 h2 es[k] hmem yma)
   have HWr:=hid hWr
   have HS:Hid (∀zs:List (EnP P),zs.map (·.1)=sub es[k]->(ys++[X]++zs).map (·.1)=((es.take (k+1)).flatMap λe=>e::sub e)):=by
    intro zs hz
    rw [hsn,List.map_append,List.map_append,hy1,hz]
    simp [hX]
   have HP:Hid (∀q:List (EnP P),q.map (·.1)<+:sub es[k]->(ys++[X]++q).map (·.1)<+:(es.flatMap λe=>e::sub e)):=yla
   clear hcell hR hWr hJ1 hsn hrest hN1 hlen hy1 hys HJ0 HN
   generalize enV (Qu ms) es[k]=v at*
   generalize wiV ms es[k]=wv at*
   generalize sub es[k]=sk at*
   gi_wp2_with (first
    |((try refine ⟨hdd _,?_⟩);refine hR'.mono ?_;clear hR';rintro e W3 (⟨rfl,hJ3⟩|⟨rfl,hJx3⟩))
    |((try refine ⟨hdd _,?_⟩);gi_at_call 120;refine (KW.out _ (HWr.out.trans (hJ3.out.2.mono hn₀))).mono ?_;clear KW;rintro e w' ⟨rfl,rfl⟩)
    |((try refine ⟨hdd _,?_⟩);gi_at_call 89;refine (KR.out _ hJ3.out.1 (HWr.out.trans (hJ3.out.2.mono hn₀))).mono ?_;clear KR;rintro e W4 (⟨rfl,hq⟩|⟨rfl,hq⟩)))
   ·exact ykk
   ·exact ylc
   ·exact ylm
  ·have hlt': ¬(k:Int)<(es.length:Int):=by omega
   have hke:k=es.length:=yl5
   subst hke
   obtain ⟨ys,hy1,hJ1⟩:=hys.out
   rw [List.take_length] at hy1
   have HY:=hid hy1
   have HJ1:=hid hJ1
   clear hy1 hJ1 hys HJ0 HN
   gi_wp2
   go_ret
   exact .inl ⟨rfl,⟨ys,HY.out,HJ1.out⟩,hB.out⟩
def zkr(P:En->Prop)(ms:List HM)(W0:World)(n₀ N l:Nat)(J Jx:List (EnP P)->World->Prop):Prop:=
 ∀m pre (x:EnP P) W,J pre W->Below W0.heap.size W0 W->pre.length<N->YieldAt Fence.wide m Tryz.prog l #[enV (Qu ms) x.1] W λe W'=>(e= .returned (.bool true)/\J (pre++[x]) W'/\Below n₀ W W')\/(e= .returned (.bool false)/\Jx (pre++[x]) W')
theorem zh9(hP: ∀e,P e->enG hs 3 e)(n l n₀ N:Nat)(hA0:Ar hs ms W0)(hn₀:W0.heap.size<=n₀)(J Jx:List (EnP P)->World->Prop)(hY:Hid (zkr P ms W0 n₀ N l J Jx))(pre:List (EnP P))(W:World)(hJ:J pre W)(hW:Below W0.heap.size W0 W)(hN:pre.length<=N):
  CallsIn Fence.wide n Tryz.prog 89 #[.slice none 0 0, .func (.yield l) #[] #[]] W λe W'=>(e= .returned (.bool true)/\(∃ys:List (EnP P),ys.map (·.1)=[]/\J (pre++ys) W')/\Below n₀ W W')\/(e= .returned (.bool false)/\ ∃q:List (EnP P),q.map (·.1)<+:[]/\Jx (pre++q) W'):=
 zea hP n l n₀ N (es:=[]) hA0 hn₀ (zka W0) yl6 (hid λe he=>by simp at he) J Jx hY (λ_=>[]) (hid λ_ _ _ _ _ e he=>by simp at he) pre W hJ hW (by simpa using hN)
theorem zmw(hP: ∀e,P e->enG hs 3 e)(hcl: ∀j x,P (.inr j)->hs[j]?=some x->∀e∈x.ents,P e)(l n₀ N:Nat)(hA0:Ar hs ms W0)(hn₀:W0.heap.size<=n₀)(J Jx:List (EnP P)->World->Prop)(hY:Hid (zkr P ms W0 n₀ N l J Jx)): ∀f,f<=3->∀(n:Nat) (rv:Value) (es:List En),W0.ownsRow 0 138 1 rv es.length (es.map (enV (Qu ms)))->es.length<=14->(∀e∈es,enG hs f e)->(∀e∈es,P e)->∀(pre:List (EnP P)) (W:World),J pre W->Below W0.heap.size W0 W->pre.length+(Jf hs f es).length<=N ->
  CallsIn Fence.wide n Tryz.prog 89 #[rv, .func (.yield l) #[] #[]] W λe W'=>(e= .returned (.bool true)/\(∃ys:List (EnP P),ys.map (·.1)=Jf hs f es/\J (pre++ys) W')/\Below n₀ W W')\/(e= .returned (.bool false)/\ ∃q:List (EnP P),q.map (·.1)<+:Jf hs f es/\Jx (pre++q) W')
 |0,_,n,rv,es,hrow,h14,hes,hpe,pre,W,hJ,hW,hN=>by
  have e0:(es.flatMap λe=>e::(λ_:En=>([]:List En)) e)=Jf hs 0 es:=by simp [Jf]
  rw [<-e0] at hN⊢
  refine zea hP n l n₀ N hA0 hn₀ hrow h14 (hid hpe) J Jx hY (λ_=>[]) (hid λm pre W hJ hW e he hl=>?_) pre W hJ hW hN
  obtain ⟨s,rfl,hh⟩:=hes e he
  exact zh9 hP m l n₀ N hA0 hn₀ J Jx hY pre W hJ hW (by simpa using hl)
 |f+1,hf,n,rv,es,hrow,h14,hes,hpe,pre,W,hJ,hW,hN=>by
  have e0:(es.flatMap λe=>e::(λe:En=>Jf hs f (Jb hs e)) e)=Jf hs (f+1) es:=rfl
  rw [<-e0] at hN⊢
  refine zea hP n l n₀ N hA0 hn₀ hrow h14 (hid hpe) J Jx hY (λe=>Jf hs f (Jb hs e)) (hid λm pre W hJ hW e he hl=>?_) pre W hJ hW hN
  rcases hes e he with ⟨s,rfl,hh⟩|⟨j,x,s,rfl,hj,hk,hh,ht,hl2,hsub⟩
  ·have e1:Jf hs f (Jb hs (.inl s))=[]:=zax f
   simp only [e1]
   exact zh9 hP m l n₀ N hA0 hn₀ J Jx hY pre W hJ hW yl5
  ·obtain ⟨hl3,e1⟩:=hA0.at hj
   have hw:wiV ms (.inr j)=ms[j].rv:=by simp [wiV,List.getElem?_eq_getElem hl3]
   have e2:Jb hs (.inr j)=x.ents:=ym2
   simp only [e2] at hl⊢
   rw [hw]
   have hr:=(hA0.hd j hl3).row
   rw [e1] at hr
   exact zmw hP hcl l n₀ N hA0 hn₀ J Jx hY f yl5 m _ _ hr hl2 hsub (hcl j x (hpe _ he) hj) pre W hJ hW hl
theorem zw1(hP: ∀e,P e->enG hs 3 e)(hcl: ∀j x,P (.inr j)->hs[j]?=some x->∀e∈x.ents,P e)(n l n₀ Bt:Nat){a:Option Addr}(hA0:Ar hs ms W0)(hn₀:W0.heap.size<=n₀)(hrow:W0.ownsRow 0 138 1 (.slice a p c) es.length (es.map (enV (Qu ms))))(h14:es.length<=14)(hes: ∀e∈es,P e)(J Jx:List (EnP P)->World->Prop)
  (hY:Hid (zkr P ms W0 n₀ (Jf hs 3 es).length l J Jx)) (W:World) (hW:Below W0.heap.size W0 W) (hBt:W.cell? ⟨Bt,0,none⟩=some (.slice a p c)) (h0:J [] W):
  CallsIn Fence.wide n Tryz.prog 88 #[.func (.yield l) #[] #[], .pointer (some ⟨Bt,0,none⟩)] W λe W'=>(∃v,e= .returned v)/\((∃ys:List (EnP P),ys.map (·.1)=Jf hs 3 es/\J ys W')\/(∃pre:List (EnP P),pre.map (·.1)<+:Jf hs 3 es/\Jx pre W')):=by
 have hdd: ∀k:Nat,(Fence.wide.depth.isSome=true->1<=k):=λk h=>by cases h
 have hw: ∀f,Fence.wide.fn f:=λ_=>trivial
 have hp:=hid (zmw hP hcl l n₀ (Jf hs 3 es).length hA0 hn₀ J Jx hY 3 yl5 (n- 1) (.slice a p c) es hrow h14 (λe he=>hP e (hes e he)) hes [] W h0 hW yl6)
 clear hrow hes hA0 h0
 refine callsIn_of_wp Tryz.func88 rfl trivial ?_ rfl
 simp only [Tryz.ntmps88,List.size_toArray,List.length_cons,List.length_nil,Nat.reduceAdd,Nat.reduceSub,Array.replicate_succ,Array.replicate_zero,List.push_toArray,List.append_toArray,List.nil_append,List.cons_append]
 gi_wp2_with ((try refine ⟨hdd _,?_⟩);gi_at_call 89;refine hp.out.mono ?_;clear hp;rintro e W1 (⟨rfl,hJ1⟩|⟨rfl,hx⟩))
 ·exact yll
 ·exact yl1
theorem zoy(hP: ∀e,P e->enG hs 3 e)(hcl: ∀j x,P (.inr j)->hs[j]?=some x->∀e∈x.ents,P e)(n Bt:Nat){a:Option Addr}(w W2:World)(hA:Ar hs ms w)(hrow:w.ownsRow 0 138 1 (.slice a p c) es.length (es.map (enV (Qu ms))))(h14:es.length<=14)(hes: ∀e∈es,P e)(hb:Below w.heap.size w W2)(hBt:W2.cell? ⟨Bt,0,none⟩=some (.slice a p c)):
  SeqStopsK Fence.wide n Tryz.prog 88 #[.pointer (some ⟨Bt,0,none⟩)] (λx:EnP P=>#[enV (Qu ms) x.1]) (Below w.heap.size) (λys=>ys.map (·.1)=Jf hs 3 es) (λpre=>pre.map (·.1)<+:Jf hs 3 es) (Jf hs 3 es).length W2:=λl J Jx W hW _ _ hY h0=>
 zw1 hP hcl n l w.heap.size Bt hA (Nat.le_refl _) hrow h14 hes J Jx (hid λm pre x W' hJ _ hl=>zh0 m (hY pre x W' hJ hl)) W (hb.trans (hW.mono hb.size)) ((hW.cell (p:=⟨Bt,0,none⟩) (blt hBt)).trans hBt) h0
end
open Go.RowKit Go.Shelf
theorem zia(e:Y.heap[b]?=X.heap[b]?)(o:Nat):Y.cell? ⟨b,o,none⟩=X.cell? ⟨b,o,none⟩:=by
 unfold World.cell?
 simp only [e]
section
variable{X Y:World}{b:Nat}{k:Bk}
theorem NewBk.keep(h:NewBk X b k)(hc: ∀o,Y.cell? ⟨b,o,none⟩=X.cell? ⟨b,o,none⟩)(hf: ∀o,Y.frozen? ⟨b,o,none⟩=X.frozen? ⟨b,o,none⟩)(hs:Y.shape? b=X.shape? b):NewBk Y b k where
 sh:=hs.trans h.sh
 cs:=⟨λi v hv=>(hc _).trans (h.cs.g i v hv),λi v hv=>(hc _).trans (h.cs.p i v hv),λi v hv=>(hc _).trans (h.cs.ch i v hv),(hc _).trans h.cs.gv,(hc _).trans h.cs.ag,h.cs.n1,h.cs.n2,h.cs.n3⟩
 un:=(hc _).trans h.un
 free:=λj=>(hf j).trans (h.free j)
 u:=h.u
theorem NewBk.heap(h:NewBk X b k)(e:Y.heap[b]?=X.heap[b]?):NewBk Y b k:=
 h.keep (zia e) (λo=>by unfold World.frozen?;simp only [e]) (by unfold World.shape?;simp only [e])
theorem NewBk.lt(h:NewBk X b k):b<X.heap.size:=Qd h.sh
theorem NewBk.below(h:NewBk X b k)(hb:Below X.heap.size X Y):NewBk Y b k:=h.heap (hb.block b h.lt)
theorem NewBk.chg(h:NewBk X b k)(hi:i<4):NewBk (X.setCell ⟨b,12+i,none⟩ (.bool true)) b {k with chgs:=k.chgs.set i true} where
 sh:=(Ui _ _ _ _).trans h.sh
 cs:={
  g:=λj v hv=>by
   have hj:j<k.gets.length:=(List.getElem?_eq_some_iff.1 hv).1
   have:=h.cs.n1
   exact (Qb (.inr yl5)).trans (h.cs.g j v hv)
  p:=λj v hv=>by
   have hj:j<k.puts.length:=(List.getElem?_eq_some_iff.1 hv).1
   have:=h.cs.n2
   exact (Qb (.inr yl5)).trans (h.cs.p j v hv)
  ch:=λj v hv=>by
   have n3:=h.cs.n3
   by_cases e:j=i
   ·subst e
    have hv':(k.chgs.set j true)[j]?=some v:=hv
    rw [List.getElem?_set_self yl5] at hv'
    cases hv'
    exact Qg (h.cs.ch j _ (List.getElem?_eq_getElem yl5)) rfl
   ·have hv':(k.chgs.set i true)[j]?=some v:=hv
    rw [List.getElem?_set_ne (λq=>e q.symm)] at hv'
    exact (Qb (.inr yl5)).trans (h.cs.ch j v hv')
  gv:=(Qb (.inr yl5)).trans h.cs.gv
  ag:=(Qb (.inr yl5)).trans h.cs.ag
  n1:=h.cs.n1,n2:=h.cs.n2,n3:=by show (k.chgs.set i true).length=4;rw [List.length_set];exact h.cs.n3}
 un:=(Qb (.inr yl5)).trans h.un
 free:=λj=>(World.frozen?_setCell _ _ _ _).trans (h.free j)
 u:=h.u
theorem NewBk.give(h:NewBk X b k):NewBk (X.setCell ⟨b,16,none⟩ (.bool true)) b {k with gives:=true} where
 sh:=(Ui _ _ _ _).trans h.sh
 cs:={
  g:=λj v hv=>by
   have hj:j<k.gets.length:=(List.getElem?_eq_some_iff.1 hv).1
   have:=h.cs.n1
   exact (Qb (.inr yl5)).trans (h.cs.g j v hv)
  p:=λj v hv=>by
   have hj:j<k.puts.length:=(List.getElem?_eq_some_iff.1 hv).1
   have:=h.cs.n2
   exact (Qb (.inr yl5)).trans (h.cs.p j v hv)
  ch:=λj v hv=>by
   have hj:j<k.chgs.length:=(List.getElem?_eq_some_iff.1 hv).1
   have:=h.cs.n3
   exact (Qb (.inr yl5)).trans (h.cs.ch j v hv)
  gv:=Qg h.cs.gv rfl
  ag:=(Qb (.inr yl5)).trans h.cs.ag
  n1:=h.cs.n1,n2:=h.cs.n2,n3:=h.cs.n3}
 un:=(Qb (.inr yl5)).trans h.un
 free:=λj=>(World.frozen?_setCell _ _ _ _).trans (h.free j)
 u:=h.u
theorem NewBk.mg(h:NewBk X b k)(hl:l.length=6)(hm:MarksAt Y b 0 l)(hc:Chg (λk j=>k=b/\0<=j/\j<0+6) X Y):NewBk Y b {k with gets:=l}:=by
 have lb:=h.lt
 have kc: ∀o,6<=o->Y.cell? ⟨b,o,none⟩=X.cell? ⟨b,o,none⟩:=λo ho=>hc.cell b o lb (λe=>by omega)
 exact {
  sh:=(hc.shape b lb).trans h.sh
  cs:=⟨λi v hv=>by have q:=hm i v hv;rw [Nat.zero_add] at q;exact q,λi v hv=>(kc _ yl5).trans (h.cs.p i v hv),λi v hv=>(kc _ yl5).trans (h.cs.ch i v hv),(kc _ yl5).trans h.cs.gv,(kc _ yl5).trans h.cs.ag,hl,h.cs.n2,h.cs.n3⟩
  un:=(kc _ yl5).trans h.un
  free:=λj=>(hc.frozen b j lb).trans (h.free j)
  u:=h.u}
theorem NewBk.mp(h:NewBk X b k)(hl:l.length=6)(hm:MarksAt Y b 6 l)(hc:Chg (λk j=>k=b/\6<=j/\j<6+6) X Y):NewBk Y b {k with puts:=l}:=by
 have lb:=h.lt
 have kc: ∀o,¬(6<=o/\o<12)->Y.cell? ⟨b,o,none⟩=X.cell? ⟨b,o,none⟩:=λo ho=>hc.cell b o lb (λe=>by omega)
 exact {
  sh:=(hc.shape b lb).trans h.sh
  cs:=⟨λi v hv=>by
    have hj:i<k.gets.length:=(List.getElem?_eq_some_iff.1 hv).1
    have:=h.cs.n1
    exact (kc _ yl5).trans (h.cs.g i v hv),hm,λi v hv=>(kc _ yl5).trans (h.cs.ch i v hv),(kc _ yl5).trans h.cs.gv,(kc _ yl5).trans h.cs.ag,h.cs.n1,hl,h.cs.n3⟩
  un:=(kc _ yl5).trans h.un
  free:=λj=>(hc.frozen b j lb).trans (h.free j)
  u:=h.u}
theorem NewBk.marksG(h:NewBk X b k):MarksAt X b 0 k.gets:=λi v hv=>by rw [Nat.zero_add];exact h.cs.g i v hv
theorem NewBk.marksP(h:NewBk X b k):MarksAt X b 6 k.puts:=λi v hv=>h.cs.p i v hv
end
theorem zmx(l:List Bool)(f n:Nat):zvh l ((f:Int),(n:Int))=Sw l f n:=rfl
theorem zst{M:Nat->Nat->Prop}(hc:Chg M X Y)(hM: ∀k i,M k i->k<B):KeepsFrom B X Y:=
 ⟨hc.size,λk o hB hk _=>(hc.block k (Array.getElem?_eq_some_iff.1 hk).1 (λi e=>by have:=hM k i e;omega)).trans hk⟩
section
variable{W w:World}{x:Cx}{K:List (Nat×Nat×Value)}{c:Nat}{s:Ck}{hs:List Hd}{ms:List HM}
theorem locI_lt(x:Cx)(h:x.loc.length<=4)(u:ByteArray):x.locI u<4:=by
 unfold Cx.locI
 cases hf:x.loc.findIdx? λy=>decide (y=u) with
 |none=>simp
 |some k=>
  have:=(List.findIdx?_eq_some_iff_findIdx_eq.1 hf).1
  simp
  omega
theorem zib{x:Cx}{b:Bool}{st:St}(h:x.leafOk b st):Qf st=false:=by
 rcases st with ⟨to,a⟩|⟨to,o,a,c⟩|⟨to,f,a⟩|⟨f,a,c⟩|a|⟨⟩|a|n
 ·rfl
 ·rfl
 ·rfl
 ·rfl
 ·rfl
 ·exact h.elim
 ·exact h.elim
 ·exact h.elim
theorem zw2(hs:List Hd)(x:Cx): ∀(f:Nat) (b:Bool) (e:En),enW hs x f b e->enG hs f e
 |0,b, .inl st,h=>⟨st,rfl,zib h⟩
 |0,_, .inr _,h=>h.elim
 |f+1,b, .inl st,h=> .inl ⟨st,rfl,zib h⟩
 |f+1,b, .inr j,h=>by
  obtain ⟨es,h14,h⟩:=h
  rcases h with ⟨hj,_,he⟩|⟨a,hj,_,he⟩|⟨n,hj,hn,he⟩
  ·exact .inr ⟨j,_,_,rfl,hj,rfl,rfl,⟨by decide,by decide⟩,h14,λe he'=>zw2 hs x f true e (he e he')⟩
  ·exact .inr ⟨j,_,_,rfl,hj,rfl,rfl,⟨(by decide:(1:Int)<=1),(by decide:(1:Int)<=4)⟩,h14,λe he'=>zw2 hs x f b e (he e he')⟩
  ·exact .inr ⟨j,_,_,rfl,hj,rfl,rfl,hn,h14,λe he'=>zw2 hs x f b e (he e he')⟩
def zy4(hs:List Hd)(x:Cx)(e:En):Prop:=enG hs 3 e/\ ∃g,enW hs x g true e
theorem zw3{j:Nat}{y:Hd}(h:zy4 hs x (.inr j))(hj:hs[j]?=some y): ∀e∈y.ents,zy4 hs x e:=by
 obtain ⟨h1,g,h2⟩:=h
 intro e he
 constructor
 ·rcases h1 with ⟨s,h,_⟩|⟨j',y',s,h,hj',_,_,_,_,hsub⟩
  ·cases h
  ·cases h
   rw [hj] at hj'
   cases hj'
   exact Gt 2 e (hsub e he)
 ·cases g with
  |zero=>exact h2.elim
  |succ g=>
   obtain ⟨es',_,h0⟩:=h2
   rcases h0 with ⟨_,hf,_⟩|⟨a,hj',_,he'⟩|⟨n,hj',_,he'⟩
   ·cases hf
   ·rw [hj] at hj'
    cases hj'
    exact ⟨g,he' e he⟩
   ·rw [hj] at hj'
    cases hj'
    exact ⟨g,he' e he⟩
end
section
variable{P:Program}{ops:Array Oper}{Q:Exit->Act->World->Prop}{l n:Nat}
theorem zoz{o:Oper}{next:Act->World->Prop}{r:Result Next}(h:o.upon P a next Q r):o.uponIn (Fence.wide.inRound l) n P a next Q r:=by
 cases r with
 |ok nx w'=>
  cases nx with
  |value v=>exact h
  |skip=>exact h
  |defer d=>exact h
  |enter f args=>exact ⟨(λe=>by cases e),CallsIn.inRound l ((callsIn_wide (n:=n- 1)).2 h)⟩
  |row row args=>exact ⟨(λe=>by cases e),λc cs _=>let ⟨v,w'',q,s⟩:=h c cs;⟨v,w'',q,stepsIn_wide.2 s⟩⟩
  |_=>exact h.elim
 |halt x w'=>
  cases x with
  |panic v=>exact h
  |_=>exact h.elim
theorem zo0(hd: ∀o∈ops.toList,∀c,o.op≠ .defer c)(hq: ¬LetsOut Q){K:Act->World->Prop}(h:wpOp P ops Q i K a w):wpOpIn (Fence.wide.inRound l) n P ops Q i K a w:=by
 unfold wpOp at h
 unfold wpOpIn
 cases ho:ops[i]? with
 |none=>rw [ho] at h;exact h
 |some o=>
  rw [ho] at h
  simp only at h⊢
  have hm:o∈ops.toList:=by
   have:=Array.mem_of_getElem? ho
   simpa using this
  split at h
  ·rename_i hw
   rw [if_pos hw]
   rcases h with h|⟨_,h⟩
   ·refine ⟨λ_ _=>trivial,?_⟩
    rw [show (Fence.wide.inRound l).round=some l from rfl,Oper.semAt_some l _ _ (hd o hm)]
    exact zoz h
   ·exact absurd h hq
  ·rename_i hw
   rw [if_neg hw]
   exact ⟨λ_ _=>trivial,h⟩
theorem zeb(hd: ∀o∈ops.toList,∀c,o.op≠ .defer c)(hq: ¬LetsOut Q){md:Region.Mode}: ∀(fuel:Nat) (listed:Array Bool) (a:Act) (w:World),wpAny P md ops Q fuel listed a w->wpAnyIn (Fence.wide.inRound l) n P md ops Q fuel listed a w
 |0,_,_,_,h=>h
 |fuel+1,_,_,_,h=>⟨h.1,λi hi=>wpOpIn_mono (λa' w' h'=>zeb hd hq fuel _ a' w' h') (zo0 hd hq (h.2 i hi))⟩
theorem Xv{S:World->Prop}{id:Nat}(hm:P.follows .mixedOrders=true)(hd: ∀o∈ops.toList,∀c,o.op≠ .defer c)(hq: ¬LetsOut Q)(hS:S w.drew)
  (h:S w.drew->wpAnyH P .any ops Q S ops.size (Array.replicate ops.size false) a w.drew):(Code.region id ops true).wpIn (Fence.wide.inRound l) n P Q a w:=
 wpIn_region_any hm (zeb hd hq _ _ _ _ (wpAny_of_held _ _ _ _ (h hS)))
end
end Go.Proofs.YtiiepngikigmbaaGreatDoor
