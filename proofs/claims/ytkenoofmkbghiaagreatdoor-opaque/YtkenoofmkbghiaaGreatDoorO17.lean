import Derived.Test.YtkenoofmkbghiaaGreatDoorO16
import Derived.Lib.LaidTab
import Derived.Lib.ItoaNum
import Derived.Lib.Join
import Derived.Lib.ItoaLen
import Derived.Test.YtkenoofmkbghiaaGreatDoorShelf2
set_option maxRecDepth 100000
set_option maxHeartbeats 2000000
namespace Go.Proofs.YtkenoofmkbghiaaGreatDoor
open Go.RowKit
variable{b ba bl cp g n o:Nat}{f v:Value}{u:ByteArray}{K':List (Nat×Nat×Value)}{w3:World}{F:List Value}{N:List Nat}
structure Bk where
 gets:List Bool
 puts:List Bool
 chgs:List Bool
 gives:Bool
 again:Nat
 undo:List Nat
structure Ck where
 L:List ByteArray
 T:List Nat
 loops:Nat
 blk:Option Bk
 g:Nat
structure Ck.Ok(s:Ck):Prop where
 l:s.L.length<=s.g
 z: ∀l∈s.L,l.size<=200+30*s.g
 t:s.T.length<=s.g
 tb: ∀n∈s.T,n<s.L.length
 u: ∀k,s.blk=some k->k.undo.length<=s.g/\ ∀n∈k.undo,n<s.L.length
structure Cx where
 sh:List (ByteArray×Int×Int)
 loc:List ByteArray
 th:Nat
 sb:Nat
 lb:Nat
structure Cm where
 lab:Nat->Nat
 lv:Value
 tv:Value
 TV:List Value
 b:Nat
 uv:Value
 UV:List Value
def IsLeap(lab:Nat->Nat)(w:World)(c:Nat)(f:Value)(n:Nat):Prop:=∃bl ba,f= .func (.func 140) #[] #[ptr bl,ptr ba]/\(bl<w.heap.size/\lab bl=0/\w.cell? ⟨bl,0,none⟩=some (ptr c))/\(ba<w.heap.size/\lab ba=0/\w.cell? ⟨ba,0,none⟩=some (.int .i64 n))
def Leaps(lab:Nat->Nat)(w:World)(c:Nat)(F:List Value)(N:List Nat):Prop:=F.length=N.length/\ ∀(i:Nat) f n,F[i]?=some f->N[i]?=some n->IsLeap lab w c f n
structure BkAt(m:Cm)(w:World)(c:Nat)(k:Bk):Prop where
 sh:w.shape? m.b=some (286,19)
 g: ∀(i:Nat) v,k.gets[i]?=some v->w.cell? ⟨m.b,i,none⟩=some (.bool v)
 p: ∀(i:Nat) v,k.puts[i]?=some v->w.cell? ⟨m.b,6+i,none⟩=some (.bool v)
 ch: ∀(i:Nat) v,k.chgs[i]?=some v->w.cell? ⟨m.b,12+i,none⟩=some (.bool v)
 gv:w.cell? ⟨m.b,16,none⟩=some (.bool k.gives)
 ag:w.cell? ⟨m.b,17,none⟩=some (.int .i64 k.again)
 un:w.cell? ⟨m.b,18,none⟩=some m.uv
 free: ∀j,w.frozen? ⟨m.b,j,none⟩=false
 urow:w.ownsRow 0 1 1 m.uv k.undo.length m.UV
 ul:Leaps m.lab w c m.UV k.undo
 lbk:m.lab m.b=4
 luv: ∀g,m.uv.ownBlock=some g->m.lab g=5
 n1:k.gets.length=6
 n2:k.puts.length=6
 n3:k.chgs.length=4
def zjz(m:Cm)(s:Ck):Value:=match s.blk with|some _=>ptr m.b|none=> .pointer none
structure zj0(W:World)(x:Cx):Prop where
 mS:MapIs W x.sb (shF x.sh) x.sh.length
 mL:MapIs W x.lb (zjx x.loc) x.loc.length
 tab: ∀w,Below W.heap.size W w->Lib.TabIs Tryz.prog w "internal/strconv.uint64pow10" .u64 Lib.pow10Tab
 th:x.th<=3
 ln:x.loc.length<=4
structure Cd(W:World)(x:Cx)(K:List (Nat×Nat×Value))(m:Cm)(w:World)(c:Nat)(s:Ck):Prop where
 base:zj0 W x
 ok:s.Ok
 low:Below W.heap.size W w
 sh:w.shape? c=some (118,7)
 c0:w.cell? ⟨c,0,none⟩=some m.lv
 c1:w.cell? ⟨c,1,none⟩=some (.map (some x.sb))
 c2:w.cell? ⟨c,2,none⟩=some (.map (some x.lb))
 c3:w.cell? ⟨c,3,none⟩=some (.int .i64 x.th)
 c4:w.cell? ⟨c,4,none⟩=some (.int .i64 s.loops)
 c5:w.cell? ⟨c,5,none⟩=some (zjz m s)
 c6:w.cell? ⟨c,6,none⟩=some m.tv
 free: ∀j,w.frozen? ⟨c,j,none⟩=false
 lrow:w.ownsRow 0 9 1 m.lv s.L.length (s.L.map .string)
 trow:w.ownsRow 0 1 1 m.tv s.T.length m.TV
 tl:Leaps m.lab w c m.TV s.T
 bk: ∀k,s.blk=some k->BkAt m w c k
 kp: ∀p∈K,p.1<w.heap.size/\m.lab p.1=0/\w.cell? ⟨p.1,p.2.1,none⟩=some p.2.2
 lz: ∀k,w.heap.size<=k->m.lab k=0
 lo: ∀k,k<W.heap.size->m.lab k=0
 lc:m.lab c=1
 llv: ∀g,m.lv.ownBlock=some g->m.lab g=2
 ltv: ∀g,m.tv.ownBlock=some g->m.lab g=3
section
variable{W w w':World}{x:Cx}{K:List (Nat×Nat×Value)}{m m':Cm}{c:Nat}{s s':Ck}{M:Nat->Nat->Prop}{lab lab':Nat->Nat}{f:Value}{n:Nat}
theorem IsLeap.keep(h:IsLeap lab w c f n)(hc:Chg M w w')(hM: ∀k j,k<w.heap.size->M k j->lab k≠0)(hl: ∀k,k<w.heap.size->lab k=0->lab' k=0):IsLeap lab' w' c f n:=by
 obtain ⟨bl,ba,e,⟨h1,h2,h3⟩,h4,h5,h6⟩:=h
 exact ⟨bl,ba,e,⟨Nat.lt_of_lt_of_le h1 hc.size,hl _ h1 h2,(hc.cell _ _ h1 λe=>hM _ _ h1 e h2).trans h3⟩,Nat.lt_of_lt_of_le h4 hc.size,hl _ h4 h5,(hc.cell _ _ h4 λe=>hM _ _ h4 e h5).trans h6⟩
theorem Leaps.keep(h:Leaps lab w c F N)(hc:Chg M w w')(hM: ∀k j,k<w.heap.size->M k j->lab k≠0)(hl: ∀k,k<w.heap.size->lab k=0->lab' k=0):Leaps lab' w' c F N:=
 ⟨h.1,λi f n hf hn=>(h.2 i f n hf hn).keep hc hM hl⟩
theorem Leaps.push(h:Leaps lab w c F N)(hf:IsLeap lab w c f n):Leaps lab w c (F++[f]) (N++[n]):=by
 refine ⟨by simp [h.1],λi f' n' hf' hn'=>?_⟩
 by_cases hi:i<F.length
 ·rw [List.getElem?_append_left hi] at hf'
  rw [List.getElem?_append_left (h.1▸hi)] at hn'
  exact h.2 i f' n' hf' hn'
 ·rw [List.getElem?_append_right yum] at hf'
  rw [List.getElem?_append_right (by have:=h.1;omega)] at hn'
  rw [<-h.1] at hn'
  generalize i- F.length=j at hf' hn'
  cases j with
  |zero=>
   simp only [List.getElem?_cons_zero,Option.some.injEq] at hf' hn'
   rw [<-hf',<-hn'];exact hf
  |succ j=>simp at hf'
theorem BkAt.keep{k:Bk}(h:BkAt m w c k)(hc:Chg M w w')(hM: ∀k j,k<w.heap.size->M k j->m.lab k≠0)(h1: ∀j,¬M m.b j)(h2: ∀g,m.uv.ownBlock=some g->∀j,¬M g j)(hl: ∀k,k<w.heap.size->m'.lab k=m.lab k)(e1:m'.b=m.b)(e2:m'.uv=m.uv)(e3:m'.UV=m.UV):BkAt m' w' c k:=by
 have hb:=Qd h.sh
 have cc: ∀j,w'.cell? ⟨m.b,j,none⟩=w.cell? ⟨m.b,j,none⟩:=λj=>hc.cell _ _ hb (h1 j)
 have hl0: ∀k,k<w.heap.size->m.lab k=0->m'.lab k=0:=λk hk e=>(hl k hk).trans e
 refine ⟨?_,?_,?_,?_,?_,?_,?_,?_,?_,?_,?_,?_,h.n1,h.n2,h.n3⟩<;>(try rw [e1])<;>(try rw [e2])<;>(try rw [e3])
 ·exact (hc.shape _ hb).trans h.sh
 ·intro i v hv;exact (cc _).trans (h.g i v hv)
 ·intro i v hv;exact (cc _).trans (h.p i v hv)
 ·intro i v hv;exact (cc _).trans (h.ch i v hv)
 ·exact (cc _).trans h.gv
 ·exact (cc _).trans h.ag
 ·exact (cc _).trans h.un
 ·intro j;exact (hc.frozen _ _ hb).trans (h.free j)
 ·exact Qc h.urow hc h2
 ·exact h.ul.keep hc hM hl0
 ·exact (hl _ hb).trans h.lbk
 ·intro g hg;exact (hl _ (h.urow.lt g hg).2).trans (h.luv g hg)
theorem Cd.belowW(h:Cd W x K m w c s)(hc:Chg M w w')(hM: ∀k j,k<w.heap.size->M k j->m.lab k≠0):Below W.heap.size W w':=
 h.low.trans ((hc.mono (M':=λk _=>W.heap.size<=k) (λk j hk e=>by
  by_cases hl:k<W.heap.size
  ·exact (hM k j hk e (h.lo k hl)).elim
  ·exact Nat.le_of_not_lt hl)).below h.low.size (λ_ _ e=>e))
theorem Cd.turn(h:Cd W x K m w c s)(ok:s'.Ok)(hc:Chg M w w')(hM: ∀k j,k<w.heap.size->M k j->m.lab k≠0/\(k=c->j≠1/\j≠2/\j≠3))(hl: ∀k,k<w.heap.size->m'.lab k=m.lab k)(hz: ∀k,w'.heap.size<=k->m'.lab k=0)
  (c0:w'.cell? ⟨c,0,none⟩=some m'.lv) (c4:w'.cell? ⟨c,4,none⟩=some (.int .i64 s'.loops)) (c5:w'.cell? ⟨c,5,none⟩=some (zjz m' s')) (c6:w'.cell? ⟨c,6,none⟩=some m'.tv)
  (lrow:w'.ownsRow 0 9 1 m'.lv s'.L.length (s'.L.map .string)) (trow:w'.ownsRow 0 1 1 m'.tv s'.T.length m'.TV) (tl:Leaps m'.lab w' c m'.TV s'.T) (bk: ∀k,s'.blk=some k->BkAt m' w' c k)
  (llv: ∀g,m'.lv.ownBlock=some g->m'.lab g=2) (ltv: ∀g,m'.tv.ownBlock=some g->m'.lab g=3):Cd W x K m' w' c s':=by
 have lb:=Qd h.sh
 have kc: ∀j,j=1\/j=2\/j=3->w'.cell? ⟨c,j,none⟩=w.cell? ⟨c,j,none⟩:=λj hj=>hc.cell _ _ lb λe=>by
  have:=(hM c j lb e).2 rfl
  omega
 exact {
  base:=h.base,ok:=ok,low:=h.belowW hc (λk j hk e=>(hM k j hk e).1)
  sh:=(hc.shape _ lb).trans h.sh
  c0:=c0,c1:=(kc 1 yum).trans h.c1,c2:=(kc 2 yum).trans h.c2,c3:=(kc 3 yum).trans h.c3,c4:=c4,c5:=c5,c6:=c6
  free:=λj=>(hc.frozen _ _ lb).trans (h.free j)
  lrow:=lrow,trow:=trow,tl:=tl,bk:=bk
  kp:=λp hp=>by
   obtain ⟨h1,h2,h3⟩:=h.kp p hp
   exact ⟨Nat.lt_of_lt_of_le h1 hc.size,(hl _ h1).trans h2,(hc.cell _ _ h1 λe=>(hM _ _ h1 e).1 h2).trans h3⟩
  lz:=hz
  lo:=λk hk=>(hl k (Nat.lt_of_lt_of_le hk h.low.size)).trans (h.lo k hk)
  lc:=(hl _ lb).trans h.lc
  llv:=llv,ltv:=ltv}
theorem Cd.below(h:Cd W x K m w c s)(hb:Below w.heap.size w w'):Cd W x K m w' c s:=by
 have hc:Chg (λ_ _=>False) w w':=Chg.of_below hb
 have lb:=Qd h.sh
 exact h.turn h.ok hc (λ_ _ _ e=>e.elim) (λ_ _=>rfl) (λk hk=>h.lz k (Nat.le_trans hb.size hk)) ((hc.cell _ _ lb id).trans h.c0) ((hc.cell _ _ lb id).trans h.c4) ((hc.cell _ _ lb id).trans h.c5) ((hc.cell _ _ lb id).trans h.c6)
  (Qc h.lrow hc (λ_ _ _ e=>e)) (Qc h.trow hc (λ_ _ _ e=>e)) (h.tl.keep hc (λ_ _ _ e=>e.elim) (λ_ _ e=>e)) (λk hk=>(h.bk k hk).keep hc (λ_ _ _ e=>e.elim) (λ_ e=>e) (λ_ _ _ e=>e) (λ_ _=>rfl) rfl rfl rfl) h.llv h.ltv
theorem Cd.more(h:Cd W x K m w c s)(h1:b<w.heap.size)(h2:m.lab b=0)(h3:w.cell? ⟨b,o,none⟩=some v):Cd W x ((b,o,v)::K) m w c s:=
 {h with kp:=λp hp=>(List.mem_cons.1 hp).elim (λe=>e▸⟨h1,h2,h3⟩) (h.kp p)}
theorem Cd.less(h:Cd W x K m w c s)(hK: ∀p∈K',p∈K):Cd W x K' m w c s:=
 {h with kp:=λp hp=>h.kp p (hK p hp)}
theorem Cd.lt(h:Cd W x K m w c s):c<w.heap.size:=Qd h.sh
end
def Cw(W:World)(x:Cx)(K:List (Nat×Nat×Value))(w:World)(c:Nat)(s:Ck):Prop:=∃m,Cd W x K m w c s
section
variable{W w w':World}{x:Cx}{K:List (Nat×Nat×Value)}{c:Nat}{s s':Ck}
theorem Cw.below(h:Cw W x K w c s)(hb:Below w.heap.size w w'):Cw W x K w' c s:=let ⟨m,h⟩:=h;⟨m,h.below hb⟩
theorem Cw.less(h:Cw W x K w c s)(hK: ∀p∈K',p∈K):Cw W x K' w c s:=let ⟨m,h⟩:=h;⟨m,h.less hK⟩
theorem Cw.pop(h:Cw W x K w c s){p:Nat×Nat×Value}(e:K=p::K'):Cw W x K' w c s:=h.less λ_ hq=>e▸List.mem_cons_of_mem p hq
theorem Cw.lt(h:Cw W x K w c s):c<w.heap.size:=let ⟨_,h⟩:=h;h.lt
theorem Cw.size(h:Cw W x K w c s):W.heap.size<=w.heap.size:=let ⟨_,h⟩:=h;h.low.size
theorem Cw.kept(h:Cw W x K w c s)(hp:(b,o,v)∈K):w.cell? ⟨b,o,none⟩=some v:=let ⟨_,h⟩:=h;(h.kp _ hp).2.2
theorem Cw.tab(h:Cw W x K w c s):Lib.TabIs Tryz.prog w "internal/strconv.uint64pow10" .u64 Lib.pow10Tab:=let ⟨_,h⟩:=h;h.base.tab w h.low
theorem Cw.fresh(h:Cw W x K w c s)(hb:Below w.heap.size w w')(h1:w.heap.size<=b)(h2:b<w'.heap.size)(h3:w'.cell? ⟨b,o,none⟩=some v):Cw W x ((b,o,v)::K) w' c s:=by
 obtain ⟨m,h⟩:=h
 exact ⟨m,(h.below hb).more h2 (h.lz b h1) h3⟩
end
def Zt(sep:UInt8)(ws:List ByteArray):ByteArray:=⟨(Lib.join (ws.map (·.data.toList)) [sep]).toArray⟩
def dec(n:Int):ByteArray:=⟨(Lib.itoa n).toArray⟩
theorem zaf(n:Int)(h0:-9223372036854775808<=n)(h1:n<=9223372036854775807):(dec n).size<=21:=by
 have:=Lib.itoa_length_le n h0 h1
 simpa [dec,ByteArray.size] using this
abbrev yR4:ByteArray:=⟨#[114,52]⟩
abbrev yR5:ByteArray:=⟨#[114,53]⟩
abbrev yR6:ByteArray:=⟨#[114,54]⟩
abbrev yR7:ByteArray:=⟨#[114,55]⟩
abbrev y0:ByteArray:=⟨#[48]⟩
abbrev y1:ByteArray:=⟨#[49]⟩
abbrev yM1:ByteArray:=⟨#[45,49]⟩
abbrev zdp:ByteArray:=⟨#[109,111,118]⟩
abbrev Qw:ByteArray:=⟨#[108,111,97,100]⟩
abbrev Qh:ByteArray:=⟨#[115,116,111,114,101]⟩
abbrev yjq:ByteArray:=⟨#[97,100,100]⟩
abbrev zyo:ByteArray:=⟨#[115,117,98]⟩
abbrev yLt:ByteArray:=⟨#[108,116]⟩
abbrev yEq:ByteArray:=⟨#[101,113]⟩
abbrev yJz:ByteArray:=⟨#[106,122]⟩
abbrev zaa:ByteArray:=⟨#[106,109,112]⟩
abbrev zp6:ByteArray:=⟨#[111,117,116]⟩
abbrev Xf:ByteArray:=⟨#[120,97,100,100]⟩
abbrev zvf:ByteArray:=⟨#[99,97,115]⟩
abbrev Yn:ByteArray:=⟨#[102,101,110,99,101]⟩
abbrev Ex:ByteArray:=⟨#[104,97,108,116]⟩
abbrev zj1:ByteArray:=⟨#[116,114,97,112]⟩
abbrev ySp:ByteArray:=⟨#[32]⟩
def Ck.add(s:Ck)(ws:List ByteArray):Ck:={s with L:=s.L++[Zt 32 ws],g:=s.g+1}
def Ck.land(s:Ck)(n:Nat):Ck:={s with L:=s.L.set n ((s.L[n]?).getD ⟨#[]⟩++(ySp++dec s.L.length)),g:=s.g+1}
def Ck.lands(s:Ck)(ns:List Nat):Ck:=ns.foldl Ck.land s
def Ck.back(s:Ck)(n:Nat):Ck:=s.add [zaa,dec n]
def Ck.trapIf(s:Ck):Ck:={s.add [yJz,yR4] with T:=s.T++[s.L.length]}
def Ck.bk(s:Ck):Bk:=s.blk.getD ⟨[],[],[],false,0,[]⟩
def Ck.undoIf(s:Ck):Ck:={s.add [yJz,yR4] with blk:=some {s.bk with undo:=s.bk.undo++[s.L.length]}}
def Zy(n:Int):ByteArray:=⟨#[114]⟩++dec n
theorem zvg(n:Int)(h0:-9223372036854775808<=n)(h1:n<=9223372036854775807):(Zy n).size<=22:=by
 have:=zaf n h0 h1
 simp only [Zy,ByteArray.size_append]
 have:(ByteArray.mk #[114]).size=1:=rfl
 omega
def Cx.own(x:Cx)(k:Int):ByteArray:=dec (13+(x.th:Int)*39+k)
def ze5(k:Int):ByteArray:=dec (6+k)
def Cx.lock(x:Cx):ByteArray:=dec (9223372036854775807- (x.th:Int))
def Cx.locI(x:Cx)(u:ByteArray):Nat:=(x.loc.findIdx? λy=>decide (y=u)).getD 0
def Cx.local(x:Cx)(u:ByteArray):ByteArray:=Zy (x.locI u)
def Cx.val(x:Cx)(a:PV):ByteArray:=if a.name=⟨#[]⟩ then dec a.num else x.local a.name
def Cx.var(x:Cx)(u:ByteArray):Int×Int:=((x.sh.find? λp=>decide (p.1=u)).map (·.2)).getD (0,0)
def Qn(f:Nat->Ck->Ck):List Bool->Nat->Ck->Ck
 |[],_,s=>s
 |b::r,i,s=>Qn f r (i+1) (if b=true then f i s else s)
def Zu(at':ByteArray)(first:Int)(s:Ck):Ck:=(s.add [Qw,yR4,at',ze5 first]).add [yLt,yR4,yR4,yR6]
def Cx.begin(x:Cx)(s:Ck):Ck:=
 let k:=s.bk
 let s1:=Qn (λi s=>s.add [Qh,y0,x.own (32+i),Zy i]) k.chgs 0 s
 let s2:Ck:={s1 with blk:=some {k with again:=s1.L.length}}
 let s3:=Qn (λi s=>s.add [Qw,Zy i,y0,x.own (32+i)]) k.chgs 0 s2
 let s4:=(s3.add [Qw,yR6,y0,dec 12]).add [yjq,yR6,yR6,y1]
 let s5:=Qn (λi s=>s.add [Qh,y0,x.own (6+i),y0]) k.puts 0 s4
 let s6:=Qn (λi s=>s.add [Qh,y0,x.own (12+i),y0]) k.gets 0 s5
 s6.add [zdp,yR7,y0]
def Cx.readC(x:Cx)(to at':ByteArray)(first:Int)(s:Ck):Ck:=
 let again:=dec s.bk.again
 let s1:=((Zu at' first s).add [yJz,yR4,again]).add [Qw,yR5,at',dec first]
 (((Zu at' first s1).add [yJz,yR4,again]).add [Qh,at',x.own (12+first),y1]).add [zdp,to,yR5]
def Cx.check(x:Cx)(of:ByteArray)(a:PV)(s:Ck):Ck:=
 let n:=(x.var of).2
 if a.name=⟨#[]⟩/\0<=a.num/\a.num<n then s
 else (((s.add [yLt,yR4,yM1,x.val a]).trapIf).add [yLt,yR4,x.val a,dec n]).trapIf
def Cx.get(x:Cx)(to of:ByteArray)(a:PV)(s:Ck):Ck:=
 let first:=(x.var of).1
 let s1:=x.check of a s
 if (s.bk.puts[first.toNat]?).getD false=false then x.readC (x.local to) (x.val a) first s1
 else
  let s2:=s1.add [Qw,yR4,x.val a,x.own (6+first)]
  let s3:=s2.add [yJz,yR4]
  let s4:=s3.add [Qw,x.local to,x.val a,x.own first]
  let s5:=s4.add [zaa]
  (x.readC (x.local to) (x.val a) first (s5.land s2.L.length)).land s4.L.length
def Cx.put(x:Cx)(of:ByteArray)(a v:PV)(s:Ck):Ck:=
 let first:=(x.var of).1
 (((x.check of a s).add [Qh,x.val a,x.own first,x.val v]).add [Qh,x.val a,x.own (6+first),y1]).add [Qh,x.val a,x.own (12+first),y0]
def Cx.outC(x:Cx)(a:PV)(s:Ck):Ck:=match s.blk with
 |none=>s.add [zp6,x.val a]
 |some _=>(s.add [Qh,yR7,x.own 24,x.val a]).add [yjq,yR7,yR7,y1]
def Cx.lockC(x:Cx)(i:Int)(s:Ck):Ck:=
 let s1:=s.add [Qw,yR4,y0,x.own (6+i)]
 let s2:=(((s1.add [yJz,yR4]).add [Qw,yR5,y0,ze5 i]).add [yLt,yR4,yR5,yR6]).undoIf
 (((s2.add [Qh,y0,x.own (18+i),yR5]).add [zvf,yR4,y0,ze5 i,yR5,x.lock]).undoIf).land s1.L.length
def Cx.lookC(x:Cx)(i:Int)(s:Ck):Ck:=
 let s1:=s.add [Qw,yR4,y0,x.own (12+i)]
 ((Zu y0 i (s1.add [yJz,yR4])).undoIf).land s1.L.length
def Cx.storeC(x:Cx)(i:Int)(s:Ck):Ck:=
 let s1:=s.add [Qw,yR4,y0,x.own (6+i)]
 ((((s1.add [yJz,yR4]).add [Qw,yR4,y0,x.own i]).add [Qh,y0,dec i,yR4]).add [Qh,y0,ze5 i,yR5]).land s1.L.length
def Cx.unlockC(x:Cx)(i:Int)(s:Ck):Ck:=
 let s1:=(s.add [Qw,yR4,y0,ze5 i]).add [yEq,yR4,yR4,x.lock]
 (((s1.add [yJz,yR4]).add [Qw,yR4,y0,x.own (18+i)]).add [Qh,y0,ze5 i,yR4]).land s1.L.length
def Cx.undoC(x:Cx)(s:Ck):Ck:=
 let k:=s.bk
 (Qn (λi=>x.unlockC i) k.puts 0 (s.lands k.undo)).back k.again
def Cx.commit(x:Cx)(s:Ck):Ck:=
 let k:=s.bk
 let s1:=Qn (λi=>x.lockC i) k.puts 0 s
 let s2:=(s1.add [Xf,yR5,y0,dec 12,y1]).add [yjq,yR5,yR5,y1]
 let s3:=Qn (λi=>x.lookC i) k.gets 0 s2
 let s4:=(Qn (λi=>x.storeC i) k.puts 0 s3).add [Yn]
 (x.undoC (s4.add [zaa])).land s4.L.length
def Cx.give(x:Cx)(s:Ck):Ck:=
 let s1:=s.add [zdp,yR4,y0]
 let s2:=s1.add [yLt,yR5,yR4,yR7]
 (((((s2.add [yJz,yR5]).add [Qw,yR5,yR4,x.own 24]).add [zp6,yR5]).add [yjq,yR4,yR4,y1]).back s1.L.length).land s2.L.length
def zvh(l:List Bool)(v:Int×Int):List Bool:=(List.range v.2.toNat).foldl (λl i=>l.set (v.1.toNat+i) true) l
def Cx.seen(x:Cx)(k:Bk):En->Bk
 | .inl (.inl (to,_))=>{k with chgs:=k.chgs.set (x.locI to) true}
 | .inl (.inr (.inl (to,_)))=>{k with chgs:=k.chgs.set (x.locI to) true}
 | .inl (.inr (.inr (.inl (to,of,_))))=>{k with chgs:=k.chgs.set (x.locI to) true,gets:=zvh k.gets (x.var of)}
 | .inl (.inr (.inr (.inr (.inl (of,_)))))=>{k with puts:=zvh k.puts (x.var of)}
 | .inl (.inr (.inr (.inr (.inr (.inl _)))))=>{k with gives:=true}
 |_=>k
def bk0:Bk:=⟨List.replicate 6 false,List.replicate 6 false,List.replicate 4 false,false,0,[]⟩
theorem zbs(w:World)(k:Nat)(os:Array Obj):Below w.heap.size w (Go.Sort.grow (w.drewN k) os):=
 ⟨rfl,rfl,rfl,by simp [Go.Sort.grow,World.drewN],λj hj=>by simp [Go.Sort.grow,World.drewN,Array.getElem?_append_left hj]⟩
section
variable{W w w':World}{x:Cx}{K:List (Nat×Nat×Value)}{c:Nat}{s:Ck}
theorem zag(h:Cw W x K w c s)(n:Int)(h0:-9223372036854775808<=n)(h1:n<=9223372036854775807):
  Cl 72 #[.int .i64 n] w λe w'=>e= .returned (.string (dec n))/\Cw W x K w' c s:=by
 refine (Tryz.strconv_Itoa n h0 h1 w h.tab).mono ?_
 rintro e w' ⟨rfl,k,os,rfl⟩
 exact ⟨rfl,h.below (zbs w k os)⟩
theorem zah(h:Cw W x K w c s)(n:Int)(h0:-9223372036854775808<=n)(h1:n<=9223372036854775807):
  Cl 131 #[.int .i64 n, .int .i64 10] w λe w'=>e= .returned (.string (dec n))/\Cw W x K w' c s:=by
 refine (Tryz.strconv_FormatInt_10 n h0 h1 w h.tab).mono ?_
 rintro e w' ⟨rfl,k,os,rfl⟩
 exact ⟨rfl,h.below (zbs w k os)⟩
theorem Cw.c3(h:Cw W x K w c s):w.cell? ⟨c,3,none⟩=some (.int .i64 x.th):=let ⟨_,h⟩:=h;h.c3
theorem Cw.c4(h:Cw W x K w c s):w.cell? ⟨c,4,none⟩=some (.int .i64 s.loops):=let ⟨_,h⟩:=h;h.c4
theorem Cw.c1(h:Cw W x K w c s):w.cell? ⟨c,1,none⟩=some (.map (some x.sb)):=let ⟨_,h⟩:=h;h.c1
theorem Cw.c2(h:Cw W x K w c s):w.cell? ⟨c,2,none⟩=some (.map (some x.lb)):=let ⟨_,h⟩:=h;h.c2
theorem Cw.base(h:Cw W x K w c s):zj0 W x:=let ⟨_,h⟩:=h;h.base
theorem Cw.low(h:Cw W x K w c s):Below W.heap.size W w:=let ⟨_,h⟩:=h;h.low
theorem Cw.mL(h:Cw W x K w c s):MapIs w x.lb (zjx x.loc) x.loc.length:=h.base.mL.of_block (h.low.block _ h.base.mL.lt)
theorem Cw.mS(h:Cw W x K w c s):MapIs w x.sb (shF x.sh) x.sh.length:=h.base.mS.of_block (h.low.block _ h.base.mS.lt)
theorem Cw.th(h:Cw W x K w c s):x.th<=3:=h.base.th
theorem zbt(h:Cw W x K w c s)(n:Int)(h0:0<=n)(h1:n<=100):
  Cl 130 #[.int .i64 n] w λe w'=>e= .returned (.string (Zy n))/\Cw W x K w' c s:=by
 have H:=hid h
 clear h
 have hsz: ¬9223372036854775807<1+(dec n).size:=by have:=zaf n yum yum;omega
 go_enter Tryz.func130,Tryz.ntmps130
 go_wp2_with fail
 refine (zag H.out n yum yum).mono ?_
 rintro e w1 ⟨rfl,h1⟩
 have H1:=hid h1
 clear h1 H
 go_wp2
 go_ret
 exact ⟨rfl,H1.out⟩
theorem yjr(h:Cw W x K w c s)(n:Int)(h0:0<=n)(h1:n<=100):
  Cl 134 #[ptr c, .int .i64 n] w λe w'=>e= .returned (.string (x.own n))/\Cw W x K w' c s:=by
 have hc:=h.c3
 have ht:=h.th
 have H:=hid h
 clear h
 have w1:wrap64 ((x.th:Int)*39)=(x.th:Int)*39:=yut
 have w2:wrap64 (13+(x.th:Int)*39)=13+(x.th:Int)*39:=yut
 have w3:wrap64 (13+(x.th:Int)*39+n)=13+(x.th:Int)*39+n:=yut
 go_enter Tryz.func134,Tryz.ntmps134
 go_wp2_with fail
 refine (zag H.out (13+(x.th:Int)*39+n) yum yum).mono ?_
 rintro e w1 ⟨rfl,h1⟩
 have H1:=hid h1
 clear h1 H hc
 go_wp2
 go_ret
 exact ⟨rfl,H1.out⟩
theorem Fk(h:Cw W x K w c s)(n:Int)(h0:0<=n)(h1:n<=100):
  Cl 174 #[.int .i64 n] w λe w'=>e= .returned (.string (ze5 n))/\Cw W x K w' c s:=by
 have H:=hid h
 clear h
 have w1:wrap64 (6+n)=6+n:=yut
 go_enter Tryz.func174,Tryz.ntmps174
 go_wp2_with fail
 refine (zag H.out (6+n) yum yum).mono ?_
 rintro e w1 ⟨rfl,h1⟩
 have H1:=hid h1
 clear h1 H
 go_wp2
 go_ret
 exact ⟨rfl,H1.out⟩
theorem zl3(h:Cw W x K w c s)(n:Int)(h0:0<=n)(h1:n<=100):
  Cl 152 #[.int .i64 n] w λe w'=>e= .returned (.string (dec n))/\Cw W x K w' c s:=by
 have H:=hid h
 clear h
 have w1:wrap64 (0+n)=n:=yut
 go_enter Tryz.func152,Tryz.ntmps152
 go_wp2_with fail
 refine (zag H.out n yum yum).mono ?_
 rintro e w1 ⟨rfl,h1⟩
 have H1:=hid h1
 clear h1 H
 go_wp2
 go_ret
 exact ⟨rfl,H1.out⟩
theorem zqw(h:Cw W x K w c s):
  Cl 157 #[] w λe w'=>e= .returned (.string (dec 12))/\Cw W x K w' c s:=by
 have H:=hid h
 clear h
 go_enter Tryz.func157,Tryz.ntmps157
 go_wp2_with fail
 refine (zag H.out 12 yum yum).mono ?_
 rintro e w1 ⟨rfl,h1⟩
 have H1:=hid h1
 clear h1 H
 go_wp2
 go_ret
 exact ⟨rfl,H1.out⟩
theorem zl4(h:Cw W x K w c s):
  Cl 176 #[ptr c] w λe w'=>e= .returned (.string x.lock)/\Cw W x K w' c s:=by
 have hc:=h.c3
 have ht:=h.th
 have H:=hid h
 clear h
 have w1:wrap64 (9223372036854775807- (x.th:Int))=9223372036854775807- (x.th:Int):=yut
 go_enter Tryz.func176,Tryz.ntmps176
 go_wp2_with fail
 refine (zah H.out (9223372036854775807- (x.th:Int)) yum yum).mono ?_
 rintro e w1 ⟨rfl,h1⟩
 have H1:=hid h1
 clear h1 H hc
 go_wp2
 go_ret
 exact ⟨rfl,H1.out⟩
end
section
variable{W w w':World}{x:Cx}{K:List (Nat×Nat×Value)}{c:Nat}{s:Ck}
theorem zvj(l:List ByteArray)(u:ByteArray):(zjx l u).getD (.int .i64 0)= .int .i64 (((l.findIdx? λy=>decide (y=u)).getD 0:Nat):Int):=by
 unfold zjx
 cases l.findIdx? λy=>decide (y=u)<;>rfl
theorem zzz(l:List (ByteArray×Int×Int))(u:ByteArray):(shF l u).getD (.agg #[.int .i64 0, .int .i64 0])= .agg #[.int .i64 ((((l.find? λp=>decide (p.1=u)).map (·.2)).getD (0,0)).1), .int .i64 ((((l.find? λp=>decide (p.1=u)).map (·.2)).getD (0,0)).2)]:=by
 unfold shF
 cases l.find? λp=>decide (p.1=u)<;>rfl
theorem zqz(hx:zj0 W x)(u:ByteArray):x.locI u<=4:=by
 unfold Cx.locI
 cases h:x.loc.findIdx? λy=>decide (y=u) with
 |none=>simp
 |some k=>
  have:=(List.findIdx?_eq_some_iff_findIdx_eq.1 h).1
  have:=hx.ln
  simp only [Option.getD_some]
  omega
theorem Cw.lookL(h:Cw W x K w c s)(hu:u.size<=maxLen):(Instr.lookup 109 (.map (some x.lb)) (.string u) false).run Tryz.prog w= .ok (.int .i64 (x.locI u)) w:=by
 have:=h.mL.look1 (t:=109) Tryz.underlying109 (zqy w) hu
 rw [zvj] at this
 exact this
theorem Cw.lookS(h:Cw W x K w c s)(hu:u.size<=maxLen):(Instr.lookup 88 (.map (some x.sb)) (.string u) false).run Tryz.prog w= .ok (.agg #[.int .i64 (x.var u).1, .int .i64 (x.var u).2]) w:=by
 have:=h.mS.look1 (t:=88) Tryz.underlying88 (zqx w) hu
 rw [zzz] at this
 exact this
theorem zdr(h:Cw W x K w c s)(hu:u.size<=maxLen):
  Cl 101 #[ptr c, .string u] w λe w'=>e= .returned (.string (x.local u))/\Cw W x K w' c s:=by
 have hc:=h.c2
 have hl:=h.lookL hu
 have hk:=zqz h.base u
 have H:=hid h
 clear h
 go_enter Tryz.func101,Tryz.ntmps101
 go_wp2_with fail
 refine (zbt H.out (x.locI u) yum yum).mono ?_
 rintro e w1 ⟨rfl,h1⟩
 have H1:=hid h1
 clear h1 H hc hl
 go_wp2
 go_ret
 exact ⟨rfl,H1.out⟩
def PV.ok(a:PV):Prop:=a.name.size<=maxLen/\-9223372036854775808<=a.num/\a.num<=9223372036854775807
theorem Cw.drew(h:Cw W x K w c s):Cw W x K w.drew c s:=h.below ⟨rfl,rfl,rfl,Nat.le_refl _,λ_ _=>rfl⟩
theorem Cw.alloc(h:Cw W x K w c s)(o:Obj):Cw W x K (w.alloc o) c s:=h.below ((Below.refl _ w).alloc (Nat.le_refl _) o)
theorem Yq(h:Cw W x K w c s){a:PV}(ha:a.ok):
  Cl 102 #[ptr c, .agg #[.string a.name, .int .i64 a.num]] w λe w'=>e= .returned (.string (x.val a))/\Cw W x K w' c s:=by
 obtain ⟨h1,h2,h3⟩:=ha
 have H:=hid h
 clear h
 by_cases hn:a.name=⟨#[]⟩
 ·have e:x.val a=dec a.num:=if_pos hn
  rw [e]
  obtain ⟨nm,num⟩:=a
  simp only at hn h1 h2 h3 e⊢
  subst hn
  clear e
  go_enter Tryz.func102,Tryz.ntmps102
  go_wp2_with fail
  refine (zah (H.out.alloc _) num h2 h3).mono ?_
  rintro e w1 ⟨rfl,h1⟩
  have H1:=hid h1
  clear h1 H
  go_wp2
  go_ret
  exact ⟨rfl,H1.out⟩
 ·have e:x.val a=x.local a.name:=if_neg hn
  rw [e]
  obtain ⟨nm,num⟩:=a
  simp only at hn h1 h2 h3 e⊢
  clear e
  have hb:nm.toList.isEmpty=false:=by
   refine Ey ?_
   rcases nm with ⟨⟨l⟩⟩
   cases l with
   |nil=>exact (hn rfl).elim
   |cons a l=>simp [ByteArray.size]
  go_enter Tryz.func102,Tryz.ntmps102
  go_wp2_with fail
  refine (zdr (H.out.alloc _) h1).mono ?_
  rintro e w1 ⟨rfl,h1⟩
  have H1:=hid h1
  clear h1 H
  go_wp2
  go_ret
  exact ⟨rfl,H1.out⟩
end
section
variable{W w w':World}{x:Cx}{K:List (Nat×Nat×Value)}{m:Cm}{c:Nat}{s:Ck}
theorem Ck.Ok.line(h:s.Ok)(l:ByteArray)(hz:l.size<=200):Ck.Ok {s with L:=s.L++[l],g:=s.g+1}:=by
 refine ⟨by simp;exact h.l,λu hu=>?_,Nat.le_succ_of_le h.t,λn hn=>?_,λk hk=>⟨Nat.le_succ_of_le (h.u k hk).1,λn hn=>?_⟩⟩
 ·show u.size<=200+30*(s.g+1)
  rcases List.mem_append.1 hu with hu|hu
  ·have:=h.z u hu;omega
  ·rw [List.mem_singleton.1 hu];omega
 ·have:=h.tb n hn
  show n<(s.L++[l]).length
  simp;omega
 ·have:=(h.u k hk).2 n hn
  show n<(s.L++[l]).length
  simp;omega
def Cv(W:World)(x:Cx)(K:List (Nat×Nat×Value))(m:Cm)(w:World)(c:Nat)(s:Ck):Prop:=∃lab lv,Cd W x K {m with lab:=lab,lv:=lv} w c s
theorem Cv.cw(h:Cv W x K m w c s):Cw W x K w c s:=let ⟨_,_,h⟩:=h;⟨_,h⟩
theorem Cd.pushLine(h:Cd W x K m w c s)(l:ByteArray)
  (ho:w3.ownsRow 0 9 1 (.slice (some ⟨g,0,none⟩) (s.L.length+1) cp) (s.L.length+1) (s.L.map .string++[.string l]))
  (hc:Chg (λk _=>m.lv.ownBlock=some k) w w3) (hg:m.lv.ownBlock=some g\/g=w.heap.size) (hz:l.size<=200):
  Cv W x K m (w3.setCell ⟨c,0,none⟩ (.slice (some ⟨g,0,none⟩) (s.L.length+1) cp)) c {s with L:=s.L++[l],g:=s.g+1}:=by
 have lb:=h.lt
 have nc: ¬m.lv.ownBlock=some c:=λe=>by have:=h.llv _ e;rw [h.lc] at this;omega
 have hgc:g≠c:=yue
 have hgs:g<w3.heap.size:=(ho.lt g rfl).2
 have hset:Chg (λk j=>k=c/\j=0) w3 (w3.setCell ⟨c,0,none⟩ (.slice (some ⟨g,0,none⟩) (s.L.length+1) cp)):=(Chg.refl _ w3).setCell (λ_=>⟨rfl,rfl⟩) _
 have hall:Chg (λk j=>m.lv.ownBlock=some k\/(k=c/\j=0)) w (w3.setCell ⟨c,0,none⟩ (.slice (some ⟨g,0,none⟩) (s.L.length+1) cp)):=(hc.mono (λ_ _ _ e=> .inl e)).trans (hset.mono (λ_ _ _ e=> .inr e))
 have hold: ∀k,k<w.heap.size->(if k=g then 2 else m.lab k)=m.lab k:=by
  intro k hk
  by_cases e:k=g
  ·rw [if_pos e]
   rcases hg with hg|hg
   ·rw [e];exact (h.llv g hg).symm
   ·omega
  ·rw [if_neg e]
 have nk: ∀k l,m.lab k=l->l≠2->l≠1->∀j,¬(m.lv.ownBlock=some k\/(k=c/\j=0)):=λk l hk h1 h2 j e=>by
  rcases e with e|e
  ·exact h1 (hk.symm.trans (h.llv k e))
  ·exact h2 (hk.symm.trans (e.1▸h.lc))
 have kc: ∀j,j≠0->¬(m.lv.ownBlock=some c\/(c=c/\j=0)):=λj hj e=>e.elim nc (λe=>hj e.2)
 have hM: ∀k j,k<w.heap.size->(m.lv.ownBlock=some k\/(k=c/\j=0))->m.lab k≠0:=by
  rintro k j _ (e|⟨rfl,_⟩)
  ·rw [h.llv k e];omega
  ·rw [h.lc];omega
 refine ⟨λk=>if k=g then 2 else m.lab k, .slice (some ⟨g,0,none⟩) (s.L.length+1) cp,h.turn (h.ok.line l hz) hall ?_ hold ?_ (Qg ((hc.cell _ _ lb nc).trans h.c0) rfl) ((hall.cell _ _ lb (kc 4 yum)).trans h.c4) ((hall.cell _ _ lb (kc 5 yum)).trans h.c5) ((hall.cell _ _ lb (kc 6 yum)).trans h.c6) ?_ (Qc h.trow hall (λq hq=>nk _ _ (h.ltv q hq) yum yum)) (h.tl.keep hall hM λk hk e=>(hold k hk).trans e) ?_ ?_ ?_⟩
 ·exact yt2
 ·intro k hk
  have:w3.heap.size<=k:=yva
  show (if k=g then 2 else m.lab k)=0
  rw [if_neg yum]
  exact h.lz k (Nat.le_trans hc.size this)
 ·exact ysx
 ·exact yte
 ·intro q hq
  simp [Value.ownBlock] at hq
  subst hq
  exact if_pos rfl
 ·intro q hq
  exact (hold q (h.trow.lt q hq).2).trans (h.ltv q hq)
theorem zz0:(Tryz.prog.info? 9).map (λi=>(i.zero,i.size,i.bytes))=some (some (.string ⟨#[]⟩),1,16):=yuo
theorem zgg: ∀(ws:List ByteArray),(∀u∈ws,u.size<=30)->(Lib.join (ws.map (·.data.toList)) [32]).length<=31*ws.length
 |[],_=>by simp [Lib.join_nil]
 |[a],h=>by
  have:=h a yun
  simp only [List.map_cons,List.map_nil,Lib.join_one,List.length_cons,List.length_nil]
  have h1:a.data.size<=30:=this
  rw [Array.length_toList]
  omega
 |a::b::r,h=>by
  have ih:=zgg (b::r) (λu hu=>h u (List.mem_cons_of_mem _ hu))
  have:=h a yun
  have e:Lib.join ((a::b::r).map (·.data.toList)) [32]=a.data.toList++[32]++Lib.join ((b::r).map (·.data.toList)) [32]:=by
   simp [Lib.join,List.intercalate]
  rw [e]
  simp only [ByteArray.size] at this
  simp only [List.length_append,List.length_cons,List.length_nil,Array.length_toList] at ih⊢
  omega
theorem z2l(hm:Cd W x K m w c s)(ws:List ByteArray){bk:Nat}(hbk:bk<w.heap.size)(hcells: ∀(j:Nat) u,ws[j]?=some u->w.cell? ⟨bk,0+j,none⟩=some (.string u))(hn:ws.length<=6)(hws: ∀u∈ws,u.size<=30)(hG:s.g<100000000):
  Cl 71 #[ptr c, .slice (some ⟨bk,0,none⟩) ws.length ws.length] w λe w'=>e= .returned (.tuple #[])/\Cv W x K m w' c (s.add ws):=by
 obtain ⟨i0,hi0,hz0,hz1,hz2⟩:=info_parts zz0
 have hc:=hm.c0
 have hL:s.L.length<100000000:=Nat.lt_of_le_of_lt hm.ok.l hG
 have hjz:(Zt 32 ws).size<=200:=by
  have:=zgg ws hws
  have e:(Zt 32 ws).size=(Lib.join (ws.map (·.data.toList)) [32]).length:=by simp [Zt,ByteArray.size]
  omega
 have hl1:s.L.length+1<=maxLen:=yus
 have hl2:(s.L.length+1)*16<=140737488355328:=yum
 have KJ:Hid (∀w0,Below w.heap.size w w0->Cl 74 #[.slice (some ⟨bk,0,none⟩) ws.length ws.length, .string ⟨#[32]⟩] w0 λe w'=>e= .returned (.string (Zt 32 ws))/\Below w0.heap.size w0 w'):=hid λw0 hb=>
  Tryz.strings_Join bk 0 ws.length ws ⟨#[32]⟩ w0 (λj u hu=>(hb.cell (p:=⟨bk,0+j,none⟩) hbk).trans (hcells j u hu)) (Nat.lt_of_lt_of_le hbk hb.size) yum (Nat.le_refl _) (by have:=zgg ws hws;show (Lib.join (ws.map (·.data.toList)) [32]).length<=_;omega)
 have nc: ¬m.lv.ownBlock=some c:=λe=>by have:=hm.llv _ e;rw [hm.lc] at this;omega
 have NC:Hid (∀(w1 w3:World) (o:Obj),Cd W x K m w1 c s->Chg (λk _=>m.lv.ownBlock=some k) (w1.alloc o) w3->w3.cell? ⟨c,0,none⟩=some m.lv):=hid λw1 w3 o h1 hch=>(hch.cell _ _ (by have:=h1.lt;simp;omega) nc).trans ((World.cell?_alloc_past _ _ _ h1.lt).trans h1.c0)
 have NF:Hid (∀(w1 w3:World) (o:Obj),Cd W x K m w1 c s->Chg (λk _=>m.lv.ownBlock=some k) (w1.alloc o) w3->w3.frozen? ⟨c,0,none⟩=false):=hid λw1 w3 o h1 hch=>(hch.frozen _ _ (by have:=h1.lt;simp;omega)).trans ((World.frozen?_alloc_past _ _ _ h1.lt).trans (h1.free 0))
 have H:=hid hm
 clear hm nc hcells hws hbk
 generalize hwn:ws.length=nw at*
 go_enter Tryz.func71,Tryz.ntmps71
 go_wp2_with fail
 go_region_law (first
  |(go_simp;go_at_call 74;refine (KJ.out _ ?_).mono ?_;(case refine_1=>exact Qi _ w);rintro e w1 ⟨rfl,b1⟩;have H1:=hid (H.out.below (w':=w1) ((Qi _ w).trans b1));have hc1:=H1.out.c0;have lb1:=H1.out.lt;clear b1 hc)
  |(refine Je rfl (.tmp 8) (.tmp 11) 112 rfl 9 i0 (.string ⟨#[]⟩) 1 16 yup Tryz.underlying112 hi0 hz0 hz1 hz2 rfl m.lv s.L.length (s.L.map .string) rfl (H1.out.lrow.alloc _) ⟨w1.heap.size,0,none⟩ [.string (Zt 32 ws)] rfl rfl (cell_one_new _ _ _) (by simp [Value.oneCell']) hl1 hl2 ?_;intro g cp w3 ho hch hg;have hcb:=NC.out w1 w3 _ H1.out hch;have hfb:=NF.out w1 w3 _ H1.out hch;have HR:=hid ((H1.out.below ((Below.refl _ w1).alloc (Nat.le_refl _) _)).pushLine (Zt 32 ws) ho hch hg hjz);clear ho hch hg hc1))
 all_goals
  go_wp2
  go_end0
  exact ⟨rfl,HR.out⟩
theorem z42(h:Cw W x K w c s)(ws:List ByteArray){bk:Nat}(hbk:bk<w.heap.size)(hcells: ∀(j:Nat) u,ws[j]?=some u->w.cell? ⟨bk,0+j,none⟩=some (.string u))(hn:ws.length<=6)(hws: ∀u∈ws,u.size<=30)(hG:s.g<100000000):
  Cl 71 #[ptr c, .slice (some ⟨bk,0,none⟩) ws.length ws.length] w λe w'=>e= .returned (.tuple #[])/\Cw W x K w' c (s.add ws):=by
 obtain ⟨m,h⟩:=h
 exact (z2l h ws hbk hcells hn hws hG).mono λe w' ⟨he,h'⟩=>⟨he,h'.cw⟩
end
section
variable{W w w':World}{x:Cx}{K:List (Nat×Nat×Value)}{m:Cm}{c:Nat}{s:Ck}
theorem zc2{e:TypeId}{xs:List Value}(h:w.ownsRow 0 e 1 v n xs): ∃a k,v= .slice a n k:=by
 rcases h.2 with ⟨rfl,rfl⟩|⟨g,cap,cur,rfl,_⟩
 ·exact ⟨_,_,rfl⟩
 ·exact ⟨_,_,rfl⟩
theorem Cw.lines(h:Cw W x K w c s): ∃a k,w.cell? ⟨c,0,none⟩=some (.slice a s.L.length k):=by
 obtain ⟨m,h⟩:=h
 obtain ⟨a,k,e⟩:=zc2 h.lrow
 exact ⟨a,k,by rw [h.c0,e]⟩
theorem Cw.ok(h:Cw W x K w c s):s.Ok:=let ⟨_,h⟩:=h;h.ok
theorem zbu(h:Cw W x K w c s):
  Cl 139 #[ptr c] w λe w'=>e= .returned (.int .i64 s.L.length)/\w'=w:=by
 obtain ⟨a,k,hc⟩:=h.lines
 clear h
 go_enter Tryz.func139,Tryz.ntmps139
 go_wp2
 go_ret
 exact ⟨rfl,rfl⟩
abbrev zcx(bl ba:Nat):Value:= .func (.func 140) #[] #[ptr bl,ptr ba]
theorem Cd.fresh2(h:Cd W x K m w c s)(hb:Below w.heap.size w w'){b1 o1 b2 o2:Nat}{v1 v2:Value}(h1:w.heap.size<=b1)(h2:b1<w'.heap.size)(h3:w'.cell? ⟨b1,o1,none⟩=some v1)(h4:w.heap.size<=b2)(h5:b2<w'.heap.size)(h6:w'.cell? ⟨b2,o2,none⟩=some v2):Cd W x ((b1,o1,v1)::(b2,o2,v2)::K) m w' c s:=
 ((h.below hb).more h5 (h.lz b2 h4) h6).more h2 (h.lz b1 h1) h3
theorem zyp(h:Cd W x K m w c s)(ws:List ByteArray){bk:Nat}(hbk:bk<w.heap.size)(hcells: ∀(j:Nat) u,ws[j]?=some u->w.cell? ⟨bk,0+j,none⟩=some (.string u))(hn:ws.length<=6)(hws: ∀u∈ws,u.size<=30)(hG:s.g<100000000):
  Cl 108 #[ptr c, .slice (some ⟨bk,0,none⟩) ws.length ws.length] w λe w'=>∃bl ba,e= .returned (zcx bl ba)/\Cv W x ((bl,0,ptr c)::(ba,0, .int .i64 s.L.length)::K) m w' c (s.add ws):=by
 have H:=hid h
 have HC:=hid hcells
 have HW:=hid hws
 have lb:=h.lt
 clear h hcells hws
 go_enter Tryz.func108,Tryz.ntmps108
 go_wp2_with fail
 refine (zbu (Cw.alloc ⟨m,H.out⟩ _)).mono ?_
 rintro e w1 ⟨rfl,rfl⟩
 go_wp2_with fail
 have hb2:Below w.heap.size w ((w.alloc (.cells #[ptr c] 168)).alloc (.cells #[.int .i64 (s.L.length:Int)] 3)):=((Below.refl _ w).alloc (Nat.le_refl _) _).alloc yun _
 have H2:=hid (H.out.fresh2 hb2 (b1:=w.heap.size) (o1:=0) (v1:=ptr c) (b2:=w.heap.size+1) (o2:=0) (v2:= .int .i64 s.L.length) (Nat.le_refl _) yur ((World.cell?_alloc_past _ _ _ yun).trans (World.cell?_alloc_new _ _ _ 0)) yun yun yun)
 refine (z2l H2.out ws (bk:=bk) (Nat.lt_of_lt_of_le hbk hb2.size) (λj u hu=>(hb2.cell (p:=⟨bk,0+j,none⟩) hbk).trans (HC.out j u hu)) hn HW.out hG).mono ?_
 rintro e w3 ⟨rfl,h3⟩
 have H3:=hid h3
 clear h3 H2 hb2 H HC HW
 have hmf: ∀(fn:Fn) (first cap:Array Value) (w:World),(Instr.makeFunc fn first cap).run Tryz.prog w= .ok (.func fn first cap) w:=λ_ _ _ _=>rfl
 go_wp2
 go_ret
 exact ⟨_,_,rfl,H3.out⟩
theorem z2m(h:Cw W x K w c s)(ws:List ByteArray){bk:Nat}(hbk:bk<w.heap.size)(hcells: ∀(j:Nat) u,ws[j]?=some u->w.cell? ⟨bk,0+j,none⟩=some (.string u))(hn:ws.length<=6)(hws: ∀u∈ws,u.size<=30)(hG:s.g<100000000):
  Cl 108 #[ptr c, .slice (some ⟨bk,0,none⟩) ws.length ws.length] w λe w'=>∃bl ba,e= .returned (zcx bl ba)/\Cw W x ((bl,0,ptr c)::(ba,0, .int .i64 s.L.length)::K) w' c (s.add ws):=by
 obtain ⟨m,h⟩:=h
 exact (zyp h ws hbk hcells hn hws hG).mono λe w' ⟨bl,ba,he,h'⟩=>⟨bl,ba,he,h'.cw⟩
theorem Cd.line(h:Cd W x K m w c s)(hn:n<s.L.length): ∃g k,m.lv= .slice (some ⟨g,0,none⟩) s.L.length k/\w.cell? ⟨g,n,none⟩=some (.string s.L[n])/\w.frozen? ⟨g,n,none⟩=false/\m.lab g=2:=by
 rcases h.lrow.2 with ⟨_,e⟩|⟨g,cap,cur,e,h1,h2,h3,h4,h5,h6⟩
 ·omega
 ·have hc:=h.lrow.cells (g:=g) yvc
  have e1:=hc n (.string s.L[n]) (by simp [List.getElem?_eq_getElem hn])
  have e2:(⟨g,0,none⟩:Addr).add n=⟨g,n,none⟩:=by cases n<;>simp [Addr.add]
  rw [e2] at e1
  refine ⟨g,cap,e,e1,?_,h.llv g yvc⟩
  simp [World.frozen?,h2]
theorem Ck.Ok.landed(h:s.Ok)(n:Nat)(l:ByteArray)(hz:l.size<=200+30*(s.g+1)):Ck.Ok {s with L:=s.L.set n l,g:=s.g+1}:=by
 refine ⟨by simp;exact Nat.le_succ_of_le h.l,λu hu=>?_,Nat.le_succ_of_le h.t,λn hn=>by simpa using h.tb n hn,λk hk=>⟨Nat.le_succ_of_le (h.u k hk).1,λn hn=>by simpa using (h.u k hk).2 n hn⟩⟩
 show u.size<=200+30*(s.g+1)
 rcases List.mem_or_eq_of_mem_set hu with hu|hu
 ·have:=h.z u hu;omega
 ·rw [hu];exact hz
theorem Cd.landed(h:Cd W x K m w c s){k:Nat}(hlv:m.lv= .slice (some ⟨g,0,none⟩) s.L.length k)(l:ByteArray)(hz:l.size<=200+30*(s.g+1)):
  Cd W x K m (w.setCell ⟨g,n,none⟩ (.string l)) c {s with L:=s.L.set n l,g:=s.g+1}:=by
 have lb:=h.lt
 have hlg:m.lab g=2:=h.llv g (by rw [hlv];rfl)
 have hset:Chg (λk j=>k=g/\j=n) w (w.setCell ⟨g,n,none⟩ (.string l)):=(Chg.refl _ w).setCell (λ_=>⟨rfl,rfl⟩) _
 have nk: ∀k l,m.lab k=l->l≠2->∀j,¬(k=g/\j=n):=λk l hk h1 j e=>h1 (by rw [<-hk,e.1];exact hlg)
 have hM: ∀k j,k<w.heap.size->(k=g/\j=n)->m.lab k≠0:=by
  rintro k j _ ⟨rfl,_⟩
  rw [hlg];omega
 have kc: ∀j,¬(c=g/\j=n):=nk c 1 h.lc yum
 refine h.turn (h.ok.landed n l hz) hset (λk j hk e=>⟨hM k j hk e,λec=>?_⟩) (λ_ _=>rfl) (λk hk=>h.lz k yva) ((hset.cell _ _ lb (kc 0)).trans h.c0) ((hset.cell _ _ lb (kc 4)).trans h.c4) ((hset.cell _ _ lb (kc 5)).trans h.c5) ((hset.cell _ _ lb (kc 6)).trans h.c6) ?_ (Qc h.trow hset (λq hq=>nk _ _ (h.ltv q hq) yum)) (h.tl.keep hset hM λ_ _ e=>e) (λk hk=>?_) h.llv h.ltv
 ·exact (kc j (ec▸e)).elim
 ·have hr:=h.lrow
  rw [hlv] at hr
  have:=Ut hr n (.string l)
  rw [hlv]
  simpa [List.map_set] using this
 ·have hb:=h.bk k hk
  exact hb.keep hset hM (nk _ _ hb.lbk yum) (λq hq=>nk _ _ (hb.luv q hq) yum) (λ_ _=>rfl) rfl rfl rfl
theorem zq0(hm:Cd W x K m w c s)(h1:bl<w.heap.size/\m.lab bl=0/\w.cell? ⟨bl,0,none⟩=some (ptr c))(h2:ba<w.heap.size/\m.lab ba=0/\w.cell? ⟨ba,0,none⟩=some (.int .i64 n))(hn:n<s.L.length)(hG:s.g<100000000):
  Cl 140 #[ptr bl,ptr ba] w λe w'=>e= .returned (.tuple #[])/\Cd W x K m w' c (s.land n):=by
 have hL:=Nat.lt_of_le_of_lt hm.ok.l hG
 obtain ⟨l1,h1,k1⟩:=h1
 obtain ⟨l2,h2,k2⟩:=h2
 obtain ⟨g,k,hlv,he,hf,hlg⟩:=hm.line hn
 have hc:=hm.c0
 rw [hlv] at hc
 have hz:=hm.ok.z _ (List.getElem_mem hn)
 have hds:=zaf s.L.length yum yum
 generalize hl:s.L[n]=l at*
 have hi1:(0:Int)<=(n:Int):=yum
 have hi2:(n:Int)<(s.L.length:Int):=yum
 have hs1: ¬9223372036854775807<1+(dec s.L.length).size:=yum
 have hs2: ¬9223372036854775807<l.size+(1+(dec s.L.length).size):=yum
 have KI:Hid (∀w0,Below w.heap.size w w0->Cl 72 #[.int .i64 s.L.length] w0 λe w'=>e= .returned (.string (dec s.L.length))/\Below w0.heap.size w0 w'):=hid λw0 hb=>by
  refine (Tryz.strconv_Itoa s.L.length yum yum w0 (hm.base.tab w0 (hm.low.trans (hb.mono hm.low.size)))).mono ?_
  rintro e w' ⟨rfl,k,os,rfl⟩
  exact ⟨rfl,zbs w0 k os⟩
 have hlz:(l++(ySp++dec s.L.length)).size<=200+30*(s.g+1):=by
  simp only [ByteArray.size_append]
  have:(ySp).size=1:=rfl
  omega
 have hld:s.land n={s with L:=s.L.set n (l++(ySp++dec s.L.length)),g:=s.g+1}:=by
  simp only [Ck.land,List.getElem?_eq_getElem hn,hl,Option.getD_some]
 have H:=hid hm
 have lc:c<w.heap.size:=blt hc
 have n1:bl≠g:=λe=>by rw [e,hlg] at h1;omega
 have n2:ba≠g:=λe=>by rw [e,hlg] at h2;omega
 have n3:c≠g:=λe=>by have:=H.out.lc;rw [e,hlg] at this;omega
 have lg:g<w.heap.size:=blt he
 clear hm
 go_enter Tryz.func140,Tryz.ntmps140
 go_wp2_with fail
 refine wp_region_held_drew (S:=(λw'=>w'.cell? ⟨bl,0,none⟩=some (ptr c)/\w'.cell? ⟨ba,0,none⟩=some (.int .i64 n)/\w'.cell? ⟨c,0,none⟩=some (.slice (some ⟨g,0,none⟩) s.L.length k))) yuo ?_ (λhHeld=>?_)
 ·(try dsimp only);go_keep
 refine Qa 0 (h:=Qa 1 (h:=Qa 2 (h:=Qa 3 (h:=Qa 4 (h:=Qa 5 (h:=Qa 7 (h:=?_)))))))
 refine z6u [6,8] (.cons rfl (λKQ hKQ=>?_) (.cons rfl (λKQ hKQ=>?_) .nil))
 go_simp
 refine hKQ.out _ _ ?_ (λhHeld=>?_)
 ·exact yr0
 clear hKQ KQ
 refine z6u [8] (.cons rfl (λKQ hKQ=>?_) .nil)
 (go_simp;go_at_call 139;refine (zbu ⟨m,H.out.below (Qi _ w)⟩).mono ?_;rintro e w1 ⟨rfl,rfl⟩)
 refine hKQ.out _ _ ?_ (λhHeld=>?_)
 ·exact yr0
 clear hKQ KQ
 refine z6u [9] (.cons rfl (λKQ hKQ=>?_) .nil)
 (go_simp;go_at_call 72;refine (KI.out _ (Qi _ w)).mono ?_;rintro e w1 ⟨rfl,b1⟩;have b0:=(Qi w.heap.size w).trans b1;have q1:=(b0.cell (p:=⟨bl,0,none⟩) l1).trans k1;have q2:=(b0.cell (p:=⟨ba,0,none⟩) l2).trans k2;have q3:=(b0.cell (p:=⟨c,0,none⟩) lc).trans hc;have q4:=(b0.cell (p:=⟨g,n,none⟩) lg).trans he;have q5:=(b0.frozen (p:=⟨g,n,none⟩) lg).trans hf;have B0:=hid b0;clear b0 b1)
 refine hKQ.out _ _ ?_ (λhHeld=>?_)
 ·exact yr0
 clear hKQ KQ
 refine z6u [10] (.cons rfl (λKQ hKQ=>?_) .nil)
 go_simp
 rotate_left
 (go_simp;go_at_call 139;refine (zbu ⟨m,H.out.below (Qi _ w)⟩).mono ?_;rintro e w1 ⟨rfl,rfl⟩)
 refine hKQ.out _ _ ?_ (λhHeld=>?_)
 ·exact yr0
 clear hKQ KQ
 refine z6u [6,9] (.cons rfl (λKQ hKQ=>?_) (.cons rfl (λKQ hKQ=>?_) .nil))
 go_simp
 refine hKQ.out _ _ ?_ (λhHeld=>?_)
 ·exact yr0
 clear hKQ KQ
 refine z6u [9] (.cons rfl (λKQ hKQ=>?_) .nil)
 (go_simp;go_at_call 72;refine (KI.out _ (Qi _ w)).mono ?_;rintro e w1 ⟨rfl,b1⟩;have b0:=(Qi w.heap.size w).trans b1;have q1:=(b0.cell (p:=⟨bl,0,none⟩) l1).trans k1;have q2:=(b0.cell (p:=⟨ba,0,none⟩) l2).trans k2;have q3:=(b0.cell (p:=⟨c,0,none⟩) lc).trans hc;have q4:=(b0.cell (p:=⟨g,n,none⟩) lg).trans he;have q5:=(b0.frozen (p:=⟨g,n,none⟩) lg).trans hf;have B0:=hid b0;clear b0 b1)
 refine hKQ.out _ _ ?_ (λhHeld=>?_)
 ·exact yr0
 clear hKQ KQ
 refine z6u [10] (.cons rfl (λKQ hKQ=>?_) .nil)
 go_simp
 rotate_left
 (go_simp;go_at_call 72;refine (KI.out _ (Qi _ w)).mono ?_;rintro e w1 ⟨rfl,b1⟩;have b0:=(Qi w.heap.size w).trans b1;have q1:=(b0.cell (p:=⟨bl,0,none⟩) l1).trans k1;have q2:=(b0.cell (p:=⟨ba,0,none⟩) l2).trans k2;have q3:=(b0.cell (p:=⟨c,0,none⟩) lc).trans hc;have q4:=(b0.cell (p:=⟨g,n,none⟩) lg).trans he;have q5:=(b0.frozen (p:=⟨g,n,none⟩) lg).trans hf;have B0:=hid b0;clear b0 b1)
 refine hKQ.out _ _ ?_ (λhHeld=>?_)
 ·exact yr0
 clear hKQ KQ
 refine z6u [6,10] (.cons rfl (λKQ hKQ=>?_) (.cons rfl (λKQ hKQ=>?_) .nil))
 go_simp
 refine hKQ.out _ _ ?_ (λhHeld=>?_)
 ·exact yr0
 clear hKQ KQ
 refine z6u [10] (.cons rfl (λKQ hKQ=>?_) .nil)
 go_simp
 rotate_left
 go_simp
 refine hKQ.out _ _ ?_ (λhHeld=>?_)
 ·exact yr0
 clear hKQ KQ
 refine z6u [6] (.cons rfl (λKQ hKQ=>?_) .nil)
 go_simp
 rotate_left
 all_goals
  refine hKQ.out _ _ ?_ (λhHeld=>?_)
  ·exact yr0
  clear hKQ KQ
  refine Qa 11 (h:=Qa 12 (h:=?_))
  refine z6u [13] (.cons rfl (λKQ hKQ=>?_) .nil)
  go_simp
  refine hKQ.out _ _ ?_ (λhHeld=>?_)
  ·exact yr0
  clear hKQ KQ
  refine wpAnyH_done yuo ?_ _
  go_end0
  exact ⟨rfl,by rw [hld];exact (H.out.below B0.out).landed (n:=n) hlv (l++(ySp++dec s.L.length)) hlz⟩
theorem Se(h:Cw W x K w c s)(h1:(bl,0,ptr c)∈K)(h2:(ba,0, .int .i64 n)∈K)(hn:n<s.L.length)(hG:s.g<100000000):
  Cl 140 #[ptr bl,ptr ba] w λe w'=>e= .returned (.tuple #[])/\Cw W x K w' c (s.land n):=by
 obtain ⟨m,hm⟩:=h
 exact (zq0 hm (hm.kp _ h1) (hm.kp _ h2) hn hG).mono λe w' ⟨he,h'⟩=>⟨he,m,h'⟩
end
def Shorts:List ByteArray->Prop
 |[]=>True
 |u::us=>u.size<=30/\Shorts us
theorem Shorts.all: ∀{ws:List ByteArray},Shorts ws->∀u∈ws,u.size<=30
 |[],_,u,hu=>by simp at hu
 |a::r,h,u,hu=>by
  rcases List.mem_cons.1 hu with rfl|hu
  ·exact h.1
  ·exact h.2.all u hu
section
variable{W w w':World}{x:Cx}{K:List (Nat×Nat×Value)}{m:Cm}{c:Nat}{s:Ck}
theorem zgh(w:World)(ws:List ByteArray)(t:TypeId): ∀(j:Nat) u,ws[j]?=some u->(w.alloc (.cells (ws.map .string).toArray t)).cell? ⟨w.heap.size,0+j,none⟩=some (.string u):=by
 intro j u hu
 rw [Nat.zero_add,World.cell?_alloc_new]
 simp [hu]
theorem Qp(h:Cw W x K w c s)(ws:List ByteArray)(hn:ws.length<=6)(hws:Shorts ws)(hG:s.g<100000000):
  Cl 71 #[ptr c, .slice (some ⟨w.heap.size,0,none⟩) ws.length ws.length] (w.alloc (.cells (ws.map .string).toArray 9)) λe w'=>e= .returned (.tuple #[])/\Cw W x K w' c (s.add ws):=
 z42 (h.alloc _) ws yun (zgh w ws _) hn hws.all hG
theorem Xo(h:Cw W x K w c s)(ws:List ByteArray)(hn:ws.length<=6)(hws:Shorts ws)(hG:s.g<100000000):
  Cl 108 #[ptr c, .slice (some ⟨w.heap.size,0,none⟩) ws.length ws.length] (w.alloc (.cells (ws.map .string).toArray 9)) λe w'=>∃bl ba,e= .returned (zcx bl ba)/\Cw W x ((bl,0,ptr c)::(ba,0, .int .i64 s.L.length)::K) w' c (s.add ws):=
 z2m (h.alloc _) ws yun (zgh w ws _) hn hws.all hG
theorem zai(h:Cd W x K m w c s)(ws:List ByteArray)(hn:ws.length<=6)(hws:Shorts ws)(hG:s.g<100000000):
  Cl 108 #[ptr c, .slice (some ⟨w.heap.size,0,none⟩) ws.length ws.length] (w.alloc (.cells (ws.map .string).toArray 9)) λe w'=>∃bl ba,e= .returned (zcx bl ba)/\Cv W x ((bl,0,ptr c)::(ba,0, .int .i64 s.L.length)::K) m w' c (s.add ws):=
 zyp (h.below ((Below.refl _ w).alloc (Nat.le_refl _) _)) ws yun (zgh w ws _) hn hws.all hG
theorem Sp(n:Int)(h0:-9223372036854775808<=n)(h1:n<=9223372036854775807):(dec n).size<=30:=Nat.le_trans (zaf n h0 h1) yum
theorem zz1(n:Int)(h0:0<=n)(h1:n<=100):(Zy n).size<=30:=Nat.le_trans (zvg n yum yum) yum
theorem zn8(n:Int)(h0:0<=n)(h1:n<=100):(ze5 n).size<=30:=Sp _ yum yum
theorem Ea(h:x.th<=3)(n:Int)(h0:0<=n)(h1:n<=100):(x.own n).size<=30:=Sp _ yum yum
theorem zyq(h:x.th<=3):(x.lock).size<=30:=Sp _ yum yum
theorem zdt(h:zj0 W x)(u:ByteArray):(x.local u).size<=30:=by
 have:=zqz h u
 exact zz1 _ yum yum
theorem zaj(h:zj0 W x){a:PV}(ha:a.ok):(x.val a).size<=30:=by
 unfold Cx.val
 split
 ·exact Sp _ ha.2.1 ha.2.2
 ·exact zdt h _
theorem zq1(h:Cw W x K w c s)(hn:n<100000000)(hG:s.g<100000000):
  Cl 141 #[ptr c, .int .i64 n] w λe w'=>e= .returned (.tuple #[])/\Cw W x K w' c (s.back n):=by
 have H:=hid h
 clear h
 go_enter Tryz.func141,Tryz.ntmps141
 go_wp2_with fail
 refine (zag H.out n yum yum).mono ?_
 rintro e w1 ⟨rfl,h1⟩
 have H1:=hid h1
 clear h1 H
 go_wp2_with fail
 refine (Qp H1.out [zaa,dec n] yun ⟨by decide,Sp _ yum yum,trivial⟩ hG).mono ?_
 rintro e w2 ⟨rfl,h2⟩
 have H2:=hid h2
 clear h2 H1
 go_wp2
 go_end0
 exact ⟨rfl,H2.out⟩
theorem zdu(h:Cw W x K w c s)(hu:u.size<=30){n:Int}(h0:0<=n)(h1:n<=100)(hG:s.g+2<100000000):
  Cl 151 #[ptr c, .string u, .int .i64 n] w λe w'=>e= .returned (.tuple #[])/\Cw W x K w' c (Zu u n s):=by
 have H:=hid h
 clear h
 go_enter Tryz.func151,Tryz.ntmps151
 go_wp2_with fail
 go_region_law (first
  |(go_simp;go_at_call 174;refine (Fk H.out.drew n h0 h1).mono ?_;rintro e w1 ⟨rfl,q⟩;have H1:=hid q;clear q)
  |(go_simp;go_at_call 71;refine (Qp H1.out [Qw,yR4,u,ze5 n] yun ⟨by decide,by decide,hu,zn8 n h0 h1,trivial⟩ yum).mono ?_;rintro e w2 ⟨rfl,q⟩;have H2:=hid q;clear q))
 go_wp2_with fail
 refine (Qp H2.out [yLt,yR4,yR4,yR6] yun ⟨by decide,by decide,by decide,by decide,trivial⟩ yu3).mono ?_
 rintro e w3 ⟨rfl,q⟩
 have H3:=hid q
 clear q
 go_wp2
 go_end0
 exact ⟨rfl,H3.out⟩
end
section
variable{W w w':World}{x:Cx}{K:List (Nat×Nat×Value)}{m:Cm}{c:Nat}{s:Ck}
theorem Cd.isLeap(h:Cd W x K m w c s)(h1:(bl,0,ptr c)∈K)(h2:(ba,0, .int .i64 n)∈K):IsLeap m.lab w c (zcx bl ba) n:=
 ⟨bl,ba,rfl,h.kp _ h1,h.kp _ h2⟩
theorem Cd.pushTrap(h:Cd W x K m w c s)(hf:IsLeap m.lab w c f n)(hn:n<s.L.length)(hT:s.T.length+1<=s.g)
  (ho:w3.ownsRow 0 1 1 (.slice (some ⟨g,0,none⟩) (s.T.length+1) cp) (s.T.length+1) (m.TV++[f]))
  (hc:Chg (λk _=>m.tv.ownBlock=some k) w w3) (hg:m.tv.ownBlock=some g\/g=w.heap.size):
  Cw W x K (w3.setCell ⟨c,6,none⟩ (.slice (some ⟨g,0,none⟩) (s.T.length+1) cp)) c {s with T:=s.T++[n]}:=by
 have lb:=h.lt
 have nc: ¬m.tv.ownBlock=some c:=λe=>by have:=h.ltv _ e;rw [h.lc] at this;omega
 have hgc:g≠c:=yue
 have hgs:g<w3.heap.size:=(ho.lt g rfl).2
 have hset:Chg (λk j=>k=c/\j=6) w3 (w3.setCell ⟨c,6,none⟩ (.slice (some ⟨g,0,none⟩) (s.T.length+1) cp)):=(Chg.refl _ w3).setCell (λ_=>⟨rfl,rfl⟩) _
 have hall:Chg (λk j=>m.tv.ownBlock=some k\/(k=c/\j=6)) w (w3.setCell ⟨c,6,none⟩ (.slice (some ⟨g,0,none⟩) (s.T.length+1) cp)):=(hc.mono (λ_ _ _ e=> .inl e)).trans (hset.mono (λ_ _ _ e=> .inr e))
 have hold: ∀k,k<w.heap.size->(if k=g then 3 else m.lab k)=m.lab k:=by
  intro k hk
  by_cases e:k=g
  ·rw [if_pos e]
   rcases hg with hg|hg
   ·rw [e];exact (h.ltv g hg).symm
   ·omega
  ·rw [if_neg e]
 have nk: ∀k l,m.lab k=l->l≠3->l≠1->∀j,¬(m.tv.ownBlock=some k\/(k=c/\j=6)):=λk l hk h1 h2 j e=>by
  rcases e with e|e
  ·exact h1 (hk.symm.trans (h.ltv k e))
  ·exact h2 (hk.symm.trans (e.1▸h.lc))
 have kc: ∀j,j≠6->¬(m.tv.ownBlock=some c\/(c=c/\j=6)):=λj hj e=>e.elim nc (λe=>hj e.2)
 have hM: ∀k j,k<w.heap.size->(m.tv.ownBlock=some k\/(k=c/\j=6))->m.lab k≠0:=by
  rintro k j _ (e|⟨rfl,_⟩)
  ·rw [h.ltv k e];omega
  ·rw [h.lc];omega
 refine ⟨{m with lab:=λk=>if k=g then 3 else m.lab k,tv:= .slice (some ⟨g,0,none⟩) (s.T.length+1) cp,TV:=m.TV++[f]},h.turn ?_ hall ?_ hold ?_ ((hall.cell _ _ lb (kc 0 yum)).trans h.c0) ((hall.cell _ _ lb (kc 4 yum)).trans h.c4) ((hall.cell _ _ lb (kc 5 yum)).trans h.c5) (Qg ((hc.cell _ _ lb nc).trans h.c6) rfl) (Qc h.lrow hall (λq hq=>nk _ _ (h.llv q hq) yum yum)) ?_ ((h.tl.push hf).keep hall hM λk hk e=>(hold k hk).trans e) ?_ ?_ ?_⟩
 ·refine ⟨h.ok.l,h.ok.z,by simpa using hT,λn' hn'=>?_,h.ok.u⟩
  rcases List.mem_append.1 hn' with q|q
  ·exact h.ok.tb n' q
  ·rw [List.mem_singleton.1 q];exact hn
 ·exact yt2
 ·intro k hk
  have:w3.heap.size<=k:=yva
  show (if k=g then 3 else m.lab k)=0
  rw [if_neg yum]
  exact h.lz k (Nat.le_trans hc.size this)
 ·exact ysx
 ·exact yte
 ·intro q hq
  exact (hold q (h.lrow.lt q hq).2).trans (h.llv q hq)
 ·intro q hq
  simp [Value.ownBlock] at hq
  subst hq
  exact if_pos rfl
theorem Cd.pushUndo(h:Cd W x K m w c s){k:Bk}(hk:s.blk=some k)(hf:IsLeap m.lab w c f n)(hn:n<s.L.length)(hU:k.undo.length+1<=s.g)
  (ho:w3.ownsRow 0 1 1 (.slice (some ⟨g,0,none⟩) (k.undo.length+1) cp) (k.undo.length+1) (m.UV++[f]))
  (hc:Chg (λk _=>m.uv.ownBlock=some k) w w3) (hg:m.uv.ownBlock=some g\/g=w.heap.size):
  Cw W x K (w3.setCell ⟨m.b,18,none⟩ (.slice (some ⟨g,0,none⟩) (k.undo.length+1) cp)) c {s with blk:=some {k with undo:=k.undo++[n]}}:=by
 have lb:=h.lt
 have hb:=h.bk k hk
 have lbb:=Qd hb.sh
 have nc: ¬m.uv.ownBlock=some m.b:=λe=>by have:=hb.luv _ e;rw [hb.lbk] at this;omega
 have hgc:g≠m.b:=yue
 have hgs:g<w3.heap.size:=(ho.lt g rfl).2
 have hset:Chg (λk j=>k=m.b/\j=18) w3 (w3.setCell ⟨m.b,18,none⟩ (.slice (some ⟨g,0,none⟩) (k.undo.length+1) cp)):=(Chg.refl _ w3).setCell (λ_=>⟨rfl,rfl⟩) _
 have hall:Chg (λk j=>m.uv.ownBlock=some k\/(k=m.b/\j=18)) w (w3.setCell ⟨m.b,18,none⟩ (.slice (some ⟨g,0,none⟩) (k.undo.length+1) cp)):=(hc.mono (λ_ _ _ e=> .inl e)).trans (hset.mono (λ_ _ _ e=> .inr e))
 have hold: ∀k,k<w.heap.size->(if k=g then 5 else m.lab k)=m.lab k:=by
  intro k hk
  by_cases e:k=g
  ·rw [if_pos e]
   rcases hg with hg|hg
   ·rw [e];exact (hb.luv g hg).symm
   ·omega
  ·rw [if_neg e]
 have nk: ∀k l,m.lab k=l->l≠5->l≠4->∀j,¬(m.uv.ownBlock=some k\/(k=m.b/\j=18)):=λk l hk h1 h2 j e=>by
  rcases e with e|e
  ·exact h1 (hk.symm.trans (hb.luv k e))
  ·exact h2 (hk.symm.trans (e.1▸hb.lbk))
 have kb: ∀j,j≠18->(w3.setCell ⟨m.b,18,none⟩ (.slice (some ⟨g,0,none⟩) (k.undo.length+1) cp)).cell? ⟨m.b,j,none⟩=w.cell? ⟨m.b,j,none⟩:=λj hj=>hall.cell _ _ lbb (λe=>e.elim nc (λe=>hj e.2))
 have hM: ∀k j,k<w.heap.size->(m.uv.ownBlock=some k\/(k=m.b/\j=18))->m.lab k≠0:=by
  rintro k j _ (e|⟨rfl,_⟩)
  ·rw [hb.luv k e];omega
  ·rw [hb.lbk];omega
 have kc:=nk c 1 h.lc yum yum
 refine ⟨{m with lab:=λk=>if k=g then 5 else m.lab k,uv:= .slice (some ⟨g,0,none⟩) (k.undo.length+1) cp,UV:=m.UV++[f]},h.turn ?_ hall ?_ hold ?_ ((hall.cell _ _ lb (kc 0)).trans h.c0) ((hall.cell _ _ lb (kc 4)).trans h.c4) ?_ ((hall.cell _ _ lb (kc 6)).trans h.c6) (Qc h.lrow hall (λq hq=>nk _ _ (h.llv q hq) yum yum)) (Qc h.trow hall (λq hq=>nk _ _ (h.ltv q hq) yum yum)) (h.tl.keep hall hM λk hk e=>(hold k hk).trans e) ?_ ?_ ?_⟩
 ·refine ⟨h.ok.l,h.ok.z,h.ok.t,h.ok.tb,λk' hk'=>?_⟩
  cases hk'
  refine ⟨by simpa using hU,λn' hn'=>?_⟩
  rcases List.mem_append.1 hn' with q|q
  ·exact (h.ok.u k hk).2 n' q
  ·rw [List.mem_singleton.1 q];exact hn
 ·intro k j hk e
  exact ⟨hM k j hk e,λec=>(kc j (ec▸e)).elim⟩
 ·intro k hk
  have:w3.heap.size<=k:=yva
  show (if k=g then 5 else m.lab k)=0
  rw [if_neg yum]
  exact h.lz k (Nat.le_trans hc.size this)
 ·have:=(hall.cell _ _ lb (kc 5)).trans h.c5
  rw [this]
  simp only [zjz,hk]
 ·intro k' hk'
  cases hk'
  exact {
   sh:=(hall.shape _ lbb).trans hb.sh
   g:=λi v hv=>by
    have:i<6:=ywb
    exact (kb i yum).trans (hb.g i v hv)
   p:=λi v hv=>by
    have:i<6:=ywc
    exact (kb (6+i) yum).trans (hb.p i v hv)
   ch:=λi v hv=>by
    have:i<4:=ywd
    exact (kb (12+i) yum).trans (hb.ch i v hv)
   gv:=(kb 16 yum).trans hb.gv
   ag:=(kb 17 yum).trans hb.ag
   un:=Qg ((hc.cell _ _ lbb nc).trans hb.un) rfl
   free:=λj=>(hall.frozen _ _ lbb).trans (hb.free j)
   urow:=ysx
   ul:=(hb.ul.push hf).keep hall hM λk hk e=>(hold k hk).trans e
   lbk:=(hold _ lbb).trans hb.lbk
   luv:=λq hq=>by
    simp [Value.ownBlock] at hq
    subst hq
    exact if_pos rfl
   n1:=hb.n1,n2:=hb.n2,n3:=hb.n3}
 ·intro q hq
  exact (hold q (h.lrow.lt q hq).2).trans (h.llv q hq)
 ·intro q hq
  exact (hold q (h.trow.lt q hq).2).trans (h.ltv q hq)
theorem zyr:(Tryz.prog.info? 1).map (λi=>(i.zero,i.size,i.bytes))=some (some .nilFunc,1,8):=yuo
end
section
variable{W w w':World}{x:Cx}{K:List (Nat×Nat×Value)}{m:Cm}{c:Nat}{s:Ck}
theorem Cd.drew(h:Cd W x K m w c s):Cd W x K m w.drew c s:=h.below (Qi _ w)
theorem Cd.alloc(h:Cd W x K m w c s)(o:Obj):Cd W x K m (w.alloc o) c s:=h.below ((Below.refl _ w).alloc (Nat.le_refl _) o)
theorem Oi(h:Cw W x K w c s)(hG:s.g<10000000):
  Cl 150 #[ptr c] w λe w'=>e= .returned (.tuple #[])/\Cw W x K w' c s.trapIf:=by
 obtain ⟨i0,hi0,hz0,hz1,hz2⟩:=info_parts zyr
 obtain ⟨m,hm⟩:=h
 have hc:=hm.c6
 have lb:=hm.lt
 have hT:=hm.ok.t
 have hLg:=hm.ok.l
 have hl1:s.T.length+1<=maxLen:=yus
 have hl2:(s.T.length+1)*8<=140737488355328:=yum
 have nc: ¬m.tv.ownBlock=some c:=λe=>by have:=hm.ltv _ e;rw [hm.lc] at this;omega
 have NC:Hid (∀(w1 w3:World) (o:Obj),w1.cell? ⟨c,6,none⟩=some m.tv->c<w1.heap.size->Chg (λk _=>m.tv.ownBlock=some k) (w1.alloc o) w3->w3.cell? ⟨c,6,none⟩=some m.tv):=hid λw1 w3 o h1 h2 hch=>(hch.cell _ _ yur nc).trans ((World.cell?_alloc_past _ _ _ h2).trans h1)
 have NF:Hid (∀(w1 w3:World) (o:Obj),w1.frozen? ⟨c,6,none⟩=false->c<w1.heap.size->Chg (λk _=>m.tv.ownBlock=some k) (w1.alloc o) w3->w3.frozen? ⟨c,6,none⟩=false):=hid λw1 w3 o h1 h2 hch=>(hch.frozen _ _ yur).trans ((World.frozen?_alloc_past _ _ _ h2).trans h1)
 have H:=hid hm
 clear hm nc
 go_enter Tryz.func150,Tryz.ntmps150
 go_wp2_with fail
 go_region_law (first
  |(go_simp;go_at_call 108;refine (zai H.out.drew [yJz,yR4] yun ⟨by decide,by decide,trivial⟩ yum).mono ?_;rintro e w1 ⟨bl,ba,rfl,lab1,lv1,h1⟩;have hc1:w1.cell? ⟨c,6,none⟩=some m.tv:=h1.c6;have hf1:=h1.free 6;have lb1:=h1.lt;have H1:=hid h1;clear h1 hc)
  |(refine Je rfl (.tmp 6) (.tmp 12) 116 rfl 1 i0 .nilFunc 1 8 yup Tryz.underlying116 hi0 hz0 hz1 hz2 rfl m.tv s.T.length m.TV rfl (H1.out.trow.alloc _) ⟨w1.heap.size,0,none⟩ [zcx bl ba] rfl rfl (cell_one_new _ _ _) (by simp [Value.oneCell',zcx]) hl1 hl2 ?_;intro g cp w3 ho hch hg;have hcb:=NC.out w1 w3 _ hc1 lb1 hch;have hfb:=NF.out w1 w3 _ hf1 lb1 hch;have HR:=hid (((H1.out.alloc _).pushTrap ((H1.out.alloc _).isLeap (bl:=bl) (ba:=ba) (n:=s.L.length) yun yun) yu0 (by simp only [Ck.add];omega) ho hch hg).less (K':=K) (λp hp=>List.mem_cons_of_mem _ (List.mem_cons_of_mem _ hp)));clear ho hch hg hc1 hf1))
 all_goals
  go_wp2
  go_end0
  exact ⟨rfl,HR.out⟩
theorem Sq{k:Bk}(hk:s.blk=some k):s.bk=k:=by simp [Ck.bk,hk]
theorem zgi(h:Cw W x K w c s){k:Bk}(hk:s.blk=some k)(hG:s.g<10000000):
  Cl 175 #[ptr c] w λe w'=>e= .returned (.tuple #[])/\Cw W x K w' c s.undoIf:=by
 obtain ⟨i0,hi0,hz0,hz1,hz2⟩:=info_parts zyr
 obtain ⟨m,hm⟩:=h
 have hb:=hm.bk k hk
 have hc5:w.cell? ⟨c,5,none⟩=some (ptr m.b):=by rw [hm.c5];simp only [zjz,hk]
 have hu:=hb.un
 have lb:=hm.lt
 have hU:=(hm.ok.u k hk).1
 have hLg:=hm.ok.l
 have hl1:k.undo.length+1<=maxLen:=yus
 have hl2:(k.undo.length+1)*8<=140737488355328:=yum
 have nc: ¬m.uv.ownBlock=some m.b:=λe=>by have:=hb.luv _ e;rw [hb.lbk] at this;omega
 have NC:Hid (∀(w1 w3:World) (o:Obj),w1.cell? ⟨m.b,18,none⟩=some m.uv->Chg (λk _=>m.uv.ownBlock=some k) (w1.alloc o) w3->w3.cell? ⟨m.b,18,none⟩=some m.uv):=hid λw1 w3 o h1 hch=>by
  have h2:=blt h1
  exact (hch.cell _ _ (by simp at h2⊢;omega) nc).trans ((World.cell?_alloc_past _ _ _ h2).trans h1)
 have NF:Hid (∀(w1 w3:World) (o:Obj),w1.frozen? ⟨m.b,18,none⟩=false->m.b<w1.heap.size->Chg (λk _=>m.uv.ownBlock=some k) (w1.alloc o) w3->w3.frozen? ⟨m.b,18,none⟩=false):=hid λw1 w3 o h1 h2 hch=>(hch.frozen _ _ yur).trans ((World.frozen?_alloc_past _ _ _ h2).trans h1)
 have nc5: ¬m.uv.ownBlock=some c:=λe=>by have:=hb.luv _ e;rw [hm.lc] at this;omega
 have ncb:c≠m.b:=λe=>by have:=hb.lbk;rw [<-e,hm.lc] at this;omega
 have N5:Hid (∀(w1 w3:World) (o:Obj),w1.cell? ⟨c,5,none⟩=some (ptr m.b)->Chg (λk _=>m.uv.ownBlock=some k) (w1.alloc o) w3->w3.cell? ⟨c,5,none⟩=some (ptr m.b)):=hid λw1 w3 o h1 hch=>by
  have h2:=blt h1
  exact (hch.cell _ _ (by simp at h2⊢;omega) nc5).trans ((World.cell?_alloc_past _ _ _ h2).trans h1)
 have hR:s.undoIf={s.add [yJz,yR4] with blk:=some {k with undo:=k.undo++[s.L.length]}}:=by simp only [Ck.undoIf,Sq hk]
 rw [hR]
 have lbb:=Qd hb.sh
 have H:=hid hm
 clear hm nc hb hR nc5
 generalize hmb:m.b=b at*
 have HD5:Hid (∀{w1:World} (lab1:Nat->Nat) (lv1:Value),w1.cell? ⟨c,5,none⟩=some (zjz {m with lab:=lab1,lv:=lv1} (s.add [yJz,yR4]))->w1.cell? ⟨c,5,none⟩=some (ptr b)):=hid λ_ _ e=>by
  rw [e];simp only [zjz,Ck.add,hk,hmb]
 go_enter Tryz.func175,Tryz.ntmps175
 go_wp2_with fail
 refine wp_region_held_drew (S:=(λw'=>w'.cell? ⟨c,5,none⟩=some (ptr b))) yuo ?_ (λhHeld=>?_)
 ·(try dsimp only);go_keep
 refine Qa 0 (h:=Qa 1 (h:=Qa 2 (h:=Qa 3 (h:=Qa 4 (h:=Qa 5 (h:=Qa 6 (h:=Qa 7 (h:=Qa 8 (h:=Qa 9 (h:=Qa 11 (h:=Qa 12 (h:=Qa 13 (h:=?_)))))))))))))
 refine z6u [10,14] (.cons rfl (λKQ hKQ=>?_) (.cons rfl (λKQ hKQ=>?_) .nil))
 go_simp
 refine hKQ.out _ _ ?_ (λhHeld=>?_)
 ·exact yr4
 clear hKQ KQ
 refine z6u [14] (.cons rfl (λKQ hKQ=>?_) .nil)
 go_simp
 refine hKQ.out _ _ ?_ (λhHeld=>?_)
 ·exact yr4
 clear hKQ KQ
 refine z6u [15] (.cons rfl (λKQ hKQ=>?_) .nil)
 (go_simp;go_at_call 108;refine (zai H.out.drew [yJz,yR4] yun ⟨by decide,by decide,trivial⟩ yum).mono ?_;rintro e w1 ⟨bl,ba,rfl,lab1,lv1,h1⟩;have h1b:=h1.bk k hk;have hd1:w1.cell? ⟨c,5,none⟩=some (ptr b):=HD5.out _ _ h1.c5;have hu1:w1.cell? ⟨b,18,none⟩=some m.uv:=hmb▸h1b.un;have hf1:w1.frozen? ⟨b,18,none⟩=false:=hmb▸h1b.free 18;have lb1:=h1.lt;have lbb1:b<w1.heap.size:=blt hu1;have HR1:=hid h1b.urow;have H1:=hid h1;clear h1 h1b hc5 hu)
 refine hKQ.out _ _ ?_ (λhHeld=>?_)
 ·exact yr4
 clear hKQ KQ
 refine z6u [16] (.cons rfl (λKQ hKQ=>?_) .nil)
 go_simp
 rotate_left
 go_simp
 refine hKQ.out _ _ ?_ (λhHeld=>?_)
 ·exact yr4
 clear hKQ KQ
 refine z6u [10,15] (.cons rfl (λKQ hKQ=>?_) (.cons rfl (λKQ hKQ=>?_) .nil))
 go_simp
 refine hKQ.out _ _ ?_ (λhHeld=>?_)
 ·exact yr4
 clear hKQ KQ
 refine z6u [15] (.cons rfl (λKQ hKQ=>?_) .nil)
 (go_simp;go_at_call 108;refine (zai H.out.drew [yJz,yR4] yun ⟨by decide,by decide,trivial⟩ yum).mono ?_;rintro e w1 ⟨bl,ba,rfl,lab1,lv1,h1⟩;have h1b:=h1.bk k hk;have hd1:w1.cell? ⟨c,5,none⟩=some (ptr b):=HD5.out _ _ h1.c5;have hu1:w1.cell? ⟨b,18,none⟩=some m.uv:=hmb▸h1b.un;have hf1:w1.frozen? ⟨b,18,none⟩=false:=hmb▸h1b.free 18;have lb1:=h1.lt;have lbb1:b<w1.heap.size:=blt hu1;have HR1:=hid h1b.urow;have H1:=hid h1;clear h1 h1b hc5 hu)
 refine hKQ.out _ _ ?_ (λhHeld=>?_)
 ·exact yr4
 clear hKQ KQ
 refine z6u [16] (.cons rfl (λKQ hKQ=>?_) .nil)
 go_simp
 rotate_left
 (go_simp;go_at_call 108;refine (zai H.out.drew [yJz,yR4] yun ⟨by decide,by decide,trivial⟩ yum).mono ?_;rintro e w1 ⟨bl,ba,rfl,lab1,lv1,h1⟩;have h1b:=h1.bk k hk;have hd1:w1.cell? ⟨c,5,none⟩=some (ptr b):=HD5.out _ _ h1.c5;have hu1:w1.cell? ⟨b,18,none⟩=some m.uv:=hmb▸h1b.un;have hf1:w1.frozen? ⟨b,18,none⟩=false:=hmb▸h1b.free 18;have lb1:=h1.lt;have lbb1:b<w1.heap.size:=blt hu1;have HR1:=hid h1b.urow;have H1:=hid h1;clear h1 h1b hc5 hu)
 refine hKQ.out _ _ ?_ (λhHeld=>?_)
 ·exact yr4
 clear hKQ KQ
 refine z6u [10,16] (.cons rfl (λKQ hKQ=>?_) (.cons rfl (λKQ hKQ=>?_) .nil))
 go_simp
 refine hKQ.out _ _ ?_ (λhHeld=>?_)
 ·exact yr4
 clear hKQ KQ
 refine z6u [16] (.cons rfl (λKQ hKQ=>?_) .nil)
 go_simp
 rotate_left
 go_simp
 refine hKQ.out _ _ ?_ (λhHeld=>?_)
 ·exact yr4
 clear hKQ KQ
 refine z6u [10] (.cons rfl (λKQ hKQ=>?_) .nil)
 go_simp
 rotate_left
 all_goals
  refine hKQ.out _ _ ?_ (λhHeld=>?_)
  ·exact yr4
  clear hKQ KQ
  refine z6u [17] (.cons rfl (λKQ hKQ=>?_) .nil)
  (refine Je rfl (.tmp 12) (.tmp 18) 116 rfl 1 i0 .nilFunc 1 8 yup Tryz.underlying116 hi0 hz0 hz1 hz2 rfl m.uv k.undo.length m.UV rfl (HR1.out.alloc _) ⟨w1.heap.size,0,none⟩ [zcx bl ba] rfl rfl (cell_one_new _ _ _) (by simp [Value.oneCell']) hl1 hl2 ?_;intro g cp w3 ho hch hg;have hcb:=NC.out w1 w3 _ hu1 hch;have hfb:=NF.out w1 w3 _ hf1 lbb1 hch;have hd3:=N5.out w1 w3 _ hd1 hch;have HR:=hid (((H1.out.alloc _).pushUndo (k:=k) hk ((H1.out.alloc _).isLeap (bl:=bl) (ba:=ba) (n:=s.L.length) yun yun) yu0 (by simp only [Ck.add];omega) ho hch hg).less (K':=K) (λp hp=>List.mem_cons_of_mem _ (List.mem_cons_of_mem _ hp)));clear ho hch hg hu1 hf1 hd1)
  refine hKQ.out _ _ ?_ (λhHeld=>?_)
  ·exact yr4
  clear hKQ KQ
  refine Qa 18 (h:=Qa 19 (h:=?_))
  refine z6u [20] (.cons rfl (λKQ hKQ=>?_) .nil)
  go_simp
  refine hKQ.out _ _ ?_ (λhHeld=>?_)
  ·exact yr4
  clear hKQ KQ
  refine wpAnyH_done yuo ?_ _
  go_end0
  have:=HR.out
  simp only [hmb] at this
  exact ⟨rfl,this⟩
end
end Go.Proofs.YtkenoofmkbghiaaGreatDoor
