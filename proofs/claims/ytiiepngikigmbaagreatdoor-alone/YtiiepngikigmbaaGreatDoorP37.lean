import Derived.Test.YtiiepngikigmbaaGreatDoorP36
import Derived.Test.YtiiepngikigmbaaGreatDoorShelf2
set_option maxRecDepth 100000
set_option maxHeartbeats 4000000
namespace Go.Proofs.YtiiepngikigmbaaGreatDoor
open Go.RowKit
variable{W w w':World}{br c n p:Nat}{a:Option Addr}{es:List En}{tmps:Array Value}{s:ByteArray}
open Go.RowKit Go.Shelf
attribute [local go_sem] Oper.semAt_some
section
variable{hs:List Hd}{ms:List HM}{W0:World}
theorem zax(f:Nat):Jf hs f []=[]:=by cases f<;>rfl
theorem zyz: ∀(d f:Nat) (e:En),enG hs f e->enG hs (f+d) e
 |0,_,_,h=>h
 |d+1,f,e,h=>Gt (f+d) e (zyz d f e h)
theorem z0t{f:Nat}(hf:f<=3){e:En}(h:enG hs f e):enG hs 3 e:=by
 have:=zyz (3- f) f e h
 rwa [show f+(3- f)=3 from by omega] at this
def zsc(hs:List Hd)(ms:List HM)(W0:World)(n₀ N l:Nat)(J Jx:List (zcs hs)->World->Prop):Prop:=
 ∀m pre (x:zcs hs) W,J pre W->Below W0.heap.size W0 W->pre.length<N->YieldAt Fence.wide m Tryz.prog l #[enV (Qu ms) x.1] W λe W'=>(e= .returned (.bool true)/\J (pre++[x]) W'/\Below n₀ W W')\/(e= .returned (.bool false)/\Jx (pre++[x]) W')
theorem zmp(n l n₀ N:Nat)(hA0:Ar hs ms W0)(hn₀:W0.heap.size<=n₀)(J Jx:List (zcs hs)->World->Prop)(hY:Hid (zsc hs ms W0 n₀ N l J Jx))(pre:List (zcs hs))(W:World)(hJ:J pre W)(hW:Below W0.heap.size W0 W)(hN:pre.length<=N):
  CallsIn Fence.wide n Tryz.prog 89 #[.slice none 0 0, .func (.yield l) #[] #[]] W λe W'=>(e= .returned (.bool true)/\(∃ys:List (zcs hs),ys.map (·.1)=[]/\J (pre++ys) W')/\Below n₀ W W')\/(e= .returned (.bool false)/\ ∃q:List (zcs hs),q.map (·.1)<+:[]/\Jx (pre++q) W'):=
 zgo n l n₀ N (es:=[]) hA0 hn₀ (zka W0) yl6 (hid λe he=>by simp at he) J Jx hY (λ_=>[]) (hid λ_ _ _ _ _ e he=>by simp at he) pre W hJ hW (by simpa using hN)
theorem zsd(l n₀ N:Nat)(hA0:Ar hs ms W0)(hn₀:W0.heap.size<=n₀)(J Jx:List (zcs hs)->World->Prop)(hY:Hid (zsc hs ms W0 n₀ N l J Jx)): ∀f,f<=3->∀(n:Nat) (rv:Value) (es:List En),W0.ownsRow 0 138 1 rv es.length (es.map (enV (Qu ms)))->es.length<=14->(∀e∈es,enG hs f e)->∀(pre:List (zcs hs)) (W:World),J pre W->Below W0.heap.size W0 W->pre.length+(Jf hs f es).length<=N ->
  CallsIn Fence.wide n Tryz.prog 89 #[rv, .func (.yield l) #[] #[]] W λe W'=>(e= .returned (.bool true)/\(∃ys:List (zcs hs),ys.map (·.1)=Jf hs f es/\J (pre++ys) W')/\Below n₀ W W')\/(e= .returned (.bool false)/\ ∃q:List (zcs hs),q.map (·.1)<+:Jf hs f es/\Jx (pre++q) W')
 |0,_,n,rv,es,hrow,h14,hes,pre,W,hJ,hW,hN=>by
  have e0:(es.flatMap λe=>e::(λ_:En=>([]:List En)) e)=Jf hs 0 es:=by simp [Jf]
  rw [<-e0] at hN⊢
  refine zgo n l n₀ N hA0 hn₀ hrow h14 (hid λe he=>z0t (f:=0) yl5 (hes e he)) J Jx hY (λ_=>[]) (hid λm pre W hJ hW e he hl=>?_) pre W hJ hW hN
  obtain ⟨s,rfl,hh⟩:=hes e he
  exact zmp m l n₀ N hA0 hn₀ J Jx hY pre W hJ hW (by simpa using hl)
 |f+1,hf,n,rv,es,hrow,h14,hes,pre,W,hJ,hW,hN=>by
  have e0:(es.flatMap λe=>e::(λe:En=>Jf hs f (Jb hs e)) e)=Jf hs (f+1) es:=rfl
  rw [<-e0] at hN⊢
  refine zgo n l n₀ N hA0 hn₀ hrow h14 (hid λe he=>z0t hf (hes e he)) J Jx hY (λe=>Jf hs f (Jb hs e)) (hid λm pre W hJ hW e he hl=>?_) pre W hJ hW hN
  rcases hes e he with ⟨s,rfl,hh⟩|⟨j,x,s,rfl,hj,hk,hh,ht,hl2,hsub⟩
  ·have e1:Jf hs f (Jb hs (.inl s))=[]:=zax f
   simp only [e1]
   exact zmp m l n₀ N hA0 hn₀ J Jx hY pre W hJ hW yl5
  ·obtain ⟨hl3,e1⟩:=hA0.at hj
   have hw:wiV ms (.inr j)=ms[j].rv:=by simp [wiV,List.getElem?_eq_getElem hl3]
   have e2:Jb hs (.inr j)=x.ents:=ym2
   simp only [e2] at hl⊢
   rw [hw]
   have hr:=(hA0.hd j hl3).row
   rw [e1] at hr
   exact zsd l n₀ N hA0 hn₀ J Jx hY f yl5 m _ _ hr hl2 hsub pre W hJ hW hl
theorem z0u(n l n₀ Bt:Nat)(hA0:Ar hs ms W0)(hn₀:W0.heap.size<=n₀)(hrow:W0.ownsRow 0 138 1 (.slice a p c) es.length (es.map (enV (Qu ms))))(h14:es.length<=14)(hes: ∀e∈es,enG hs 3 e)(J Jx:List (zcs hs)->World->Prop)
  (hY:Hid (zsc hs ms W0 n₀ (Jf hs 3 es).length l J Jx)) (W:World) (hW:Below W0.heap.size W0 W) (hBt:W.cell? ⟨Bt,0,none⟩=some (.slice a p c)) (h0:J [] W):
  CallsIn Fence.wide n Tryz.prog 88 #[.func (.yield l) #[] #[], .pointer (some ⟨Bt,0,none⟩)] W λe W'=>(∃v,e= .returned v)/\((∃ys:List (zcs hs),ys.map (·.1)=Jf hs 3 es/\J ys W')\/(∃pre:List (zcs hs),pre.map (·.1)<+:Jf hs 3 es/\Jx pre W')):=by
 have hdd: ∀k:Nat,(Fence.wide.depth.isSome=true->1<=k):=λk h=>by cases h
 have hw: ∀f,Fence.wide.fn f:=λ_=>trivial
 have hp:=hid (zsd l n₀ (Jf hs 3 es).length hA0 hn₀ J Jx hY 3 yl5 (n- 1) (.slice a p c) es hrow h14 hes [] W h0 hW yl6)
 clear hrow hes hA0 h0
 refine callsIn_of_wp Tryz.func88 rfl trivial ?_ rfl
 simp only [Tryz.ntmps88,List.size_toArray,List.length_cons,List.length_nil,Nat.reduceAdd,Nat.reduceSub,Array.replicate_succ,Array.replicate_zero,List.push_toArray,List.append_toArray,List.nil_append,List.cons_append]
 gi_wp2_with ((try refine ⟨hdd _,?_⟩);gi_at_call 89;refine hp.out.mono ?_;clear hp;rintro e W1 (⟨rfl,hJ1⟩|⟨rfl,hx⟩))
 ·exact yll
 ·exact yl1
theorem zse(a:Option Addr)(p c:Nat)(w:World):Cl 57 #[.slice a p c] w λe w'=>e= .returned (.func (.func 88) #[] #[.pointer (some ⟨w.heap.size,0,none⟩)])/\w'=w.alloc (.cells #[.slice a p c] 87):=by
 have hmf: ∀(fn:Fn) (first cap:Array Value) (w:World),(Instr.makeFunc fn first cap).run Tryz.prog w= .ok (.func fn first cap) w:=λ_ _ _ _=>rfl
 go_enter Tryz.func57,Tryz.ntmps57
 go_wp2
 go_ret
 exact ⟨rfl,rfl⟩
end
open Go.RowKit Go.Shelf
def z0v(Ds:List Nat):List Deferred:=Ds.map λD=>{target:= .collected D,args:=#[]}
theorem zh7(W:World)(D:Nat)(o:Obj)(b:Nat)(h:b≠D):(W.putObj D o).heap[b]?=W.heap[b]?:=by
 have h':D≠b:=λe=>h e.symm
 simp [World.putObj,h']
theorem Iu{F:Fence}{P:Program}{fn:Func}{R:Ending->World->Prop}(w:World): ∀(Ds:List Nat) (W:World),Ds.Nodup->(∀D∈Ds,w.heap.size<=D/\W.heap[D]?=some (.deferred (some []))) ->
  (∀W',Below w.heap.size W W'->(∀b:Nat,b∉Ds->W'.heap[b]?=W.heap[b]?)->LeavesIn F n P fn tmps R [] .returning W')->LeavesInM F n P fn tmps R (z0v Ds) .returning W
 |[],W,_,_,hfin=>hfin W (Below.refl _ _) (λ_ _=>rfl)
 |D::Ds,W,hnd,hD,hfin=>by
  obtain ⟨h1,h2⟩:=List.nodup_cons.1 hnd
  obtain ⟨hb,hK⟩:=hD D yl6
  refine ⟨by simp, .inl ⟨D,_,rfl,run_takeDeferred hK,Iu w Ds _ h2 (λD' hD'=>?_) (λW' hW' hk=>?_)⟩⟩
  ·obtain ⟨q1,q2⟩:=hD D' (by simp [hD'])
   refine ⟨q1,?_⟩
   rw [zh7 _ _ _ _ (show D'≠D from λe=>h1 (e▸hD'))]
   exact q2
  ·refine hfin W' ((belowK_b (w:=w) (Nat.le_refl _) W D _ _ hb hK rfl rfl).trans hW') (λb hb'=>?_)
   have n1:b≠D:=λe=>hb' (by simp [e])
   have n2:b∉Ds:=λe=>hb' (by simp [e])
   rw [hk b n2,zh7 _ _ _ _ n1]
theorem zsf{hs:List Hd}{ms:List HM}(n Bt:Nat)(w:World)(hA:Ar hs ms w)(hrow:w.ownsRow 0 138 1 (.slice a p c) es.length (es.map (enV (Qu ms))))(h14:es.length<=14)(hes: ∀e∈es,enG hs 3 e)(hBt:w.cell? ⟨Bt,0,none⟩=some (.slice a p c)):
  SeqStopsK Fence.wide n Tryz.prog 88 #[.pointer (some ⟨Bt,0,none⟩)] (λx:zcs hs=>#[enV (Qu ms) x.1]) (Below w.heap.size) (λys=>ys.map (·.1)=Jf hs 3 es) (λpre=>pre.map (·.1)<+:Jf hs 3 es) (Jf hs 3 es).length w:=λl J Jx W hW _ _ hY h0=>
 z0u n l w.heap.size Bt hA (Nat.le_refl _) hrow h14 hes J Jx (hid λm pre x W' hJ _ hl=>zh0 m (hY pre x W' hJ hl)) W hW ((hW.cell (p:=⟨Bt,0,none⟩) (blt hBt)).trans hBt) h0
theorem zmq(x u:ByteArray):(x==u)=decide (x=u):=by
 have e:(x==u)=(x.data==u.data):=rfl
 rw [e,Bool.eq_iff_iff]
 simp [ByteArray.ext_iff]
def z4j:ByteArray->Option Value:=λ_=>none
def z4k:ByteArray->Option Value:=zgd z4j ⟨#[43]⟩ (.int .i64 0)
def z4l:ByteArray->Option Value:=zgd z4k ⟨#[45]⟩ (.int .i64 1)
def z4m:ByteArray->Option Value:=zgd z4l ⟨#[42]⟩ (.int .i64 2)
def z4n:ByteArray->Option Value:=zgd z4m ⟨#[47]⟩ (.int .i64 3)
def z4o:ByteArray->Option Value:=zgd z4n ⟨#[37]⟩ (.int .i64 4)
def z4p:ByteArray->Option Value:=zgd z4o ⟨#[38]⟩ (.int .i64 5)
def z4q:ByteArray->Option Value:=zgd z4p ⟨#[124]⟩ (.int .i64 6)
def z4r:ByteArray->Option Value:=zgd z4q ⟨#[94]⟩ (.int .i64 7)
def z4s:ByteArray->Option Value:=zgd z4r ⟨#[60,60]⟩ (.int .i64 8)
def zww:ByteArray->Option Value:=zgd z4s ⟨#[62,62]⟩ (.int .i64 9)
def zwx:ByteArray->Option Value:=zgd zww ⟨#[60]⟩ (.int .i64 10)
def zwy:ByteArray->Option Value:=zgd zwx ⟨#[61,61]⟩ (.int .i64 11)
theorem z5p(u:ByteArray):zwy u=Sa u:=by
 by_cases h0:u=⟨#[43]⟩
 ·subst h0;rfl
 by_cases h1:u=⟨#[45]⟩
 ·subst h1;rfl
 by_cases h2:u=⟨#[42]⟩
 ·subst h2;rfl
 by_cases h3:u=⟨#[47]⟩
 ·subst h3;rfl
 by_cases h4:u=⟨#[37]⟩
 ·subst h4;rfl
 by_cases h5:u=⟨#[38]⟩
 ·subst h5;rfl
 by_cases h6:u=⟨#[124]⟩
 ·subst h6;rfl
 by_cases h7:u=⟨#[94]⟩
 ·subst h7;rfl
 by_cases h8:u=⟨#[60,60]⟩
 ·subst h8;rfl
 by_cases h9:u=⟨#[62,62]⟩
 ·subst h9;rfl
 by_cases h10:u=⟨#[60]⟩
 ·subst h10;rfl
 by_cases h11:u=⟨#[61,61]⟩
 ·subst h11;rfl
 have g0: ¬(⟨#[43]⟩:ByteArray)=u:=λe=>h0 e.symm
 have g1: ¬(⟨#[45]⟩:ByteArray)=u:=λe=>h1 e.symm
 have g2: ¬(⟨#[42]⟩:ByteArray)=u:=λe=>h2 e.symm
 have g3: ¬(⟨#[47]⟩:ByteArray)=u:=λe=>h3 e.symm
 have g4: ¬(⟨#[37]⟩:ByteArray)=u:=λe=>h4 e.symm
 have g5: ¬(⟨#[38]⟩:ByteArray)=u:=λe=>h5 e.symm
 have g6: ¬(⟨#[124]⟩:ByteArray)=u:=λe=>h6 e.symm
 have g7: ¬(⟨#[94]⟩:ByteArray)=u:=λe=>h7 e.symm
 have g8: ¬(⟨#[60,60]⟩:ByteArray)=u:=λe=>h8 e.symm
 have g9: ¬(⟨#[62,62]⟩:ByteArray)=u:=λe=>h9 e.symm
 have g10: ¬(⟨#[60]⟩:ByteArray)=u:=λe=>h10 e.symm
 have g11: ¬(⟨#[61,61]⟩:ByteArray)=u:=λe=>h11 e.symm
 have e1:zwy u=none:=by simp only [z4j,z4k,z4l,z4m,z4n,z4o,z4p,z4q,z4r,z4s,zww,zwx,zwy,zgd,h0,h1,h2,h3,h4,h5,h6,h7,h8,h9,h10,h11,if_false]
 have e2:Uj u=none:=by simp [Uj,List.findIdx?_cons,zmq,g0,g1,g2,g3,g4,g5,g6,g7,g8,g9,g10,g11]
 rw [e1,Sa,e2]
 rfl
theorem zc5(w:World):Cl 22 #[] w λe w'=>e= .returned (.map (some w.heap.size))/\MapIs w' w.heap.size Sa 12/\Below w.heap.size w w':=by
 have hmm:(Instr.makeMap 72 none).run Tryz.prog w= .ok (.map (some w.heap.size)) (w.alloc (.map #[] 0)):=rfl
 have m0:MapIs (w.alloc (.map #[] 0)) w.heap.size z4j 0:=zbr w
 have b0:Below w.heap.size w (w.alloc (.map #[] 0)):=(Below.refl _ w).alloc (Nat.le_refl _) _
 obtain ⟨W1,hr0,m1',c1⟩:=m0.put Tryz.underlying72 ymb (u:=⟨#[43]⟩) ymk (.int .i64 0)
 have m1:MapIs W1 w.heap.size z4k 1:=by
  have e:(z4j ⟨#[43]⟩).isSome=false:=rfl
  rw [e] at m1'
  exact m1'
 have b1:Below w.heap.size w W1:=b0.trans (c1.below b0.size (λk _ e=>Nat.le_of_eq e.symm))
 clear m1' c1 m0 b0
 obtain ⟨W2,hr1,m2',c2⟩:=m1.put Tryz.underlying72 ymb (u:=⟨#[45]⟩) ymk (.int .i64 1)
 have m2:MapIs W2 w.heap.size z4l 2:=by
  have e:(z4k ⟨#[45]⟩).isSome=false:=rfl
  rw [e] at m2'
  exact m2'
 have b2:Below w.heap.size w W2:=b1.trans (c2.below b1.size (λk _ e=>Nat.le_of_eq e.symm))
 clear m2' c2 m1 b1
 obtain ⟨W3,hr2,m3',c3⟩:=m2.put Tryz.underlying72 ymb (u:=⟨#[42]⟩) ymk (.int .i64 2)
 have m3:MapIs W3 w.heap.size z4m 3:=by
  have e:(z4l ⟨#[42]⟩).isSome=false:=rfl
  rw [e] at m3'
  exact m3'
 have b3:Below w.heap.size w W3:=b2.trans (c3.below b2.size (λk _ e=>Nat.le_of_eq e.symm))
 clear m3' c3 m2 b2
 obtain ⟨W4,hr3,m4',c4⟩:=m3.put Tryz.underlying72 ymb (u:=⟨#[47]⟩) ymk (.int .i64 3)
 have m4:MapIs W4 w.heap.size z4n 4:=by
  have e:(z4m ⟨#[47]⟩).isSome=false:=rfl
  rw [e] at m4'
  exact m4'
 have b4:Below w.heap.size w W4:=b3.trans (c4.below b3.size (λk _ e=>Nat.le_of_eq e.symm))
 clear m4' c4 m3 b3
 obtain ⟨W5,hr4,m5',c5⟩:=m4.put Tryz.underlying72 ymb (u:=⟨#[37]⟩) ymk (.int .i64 4)
 have m5:MapIs W5 w.heap.size z4o 5:=by
  have e:(z4n ⟨#[37]⟩).isSome=false:=rfl
  rw [e] at m5'
  exact m5'
 have b5:Below w.heap.size w W5:=b4.trans (c5.below b4.size (λk _ e=>Nat.le_of_eq e.symm))
 clear m5' c5 m4 b4
 obtain ⟨W6,hr5,m6',c6⟩:=m5.put Tryz.underlying72 ymb (u:=⟨#[38]⟩) ymk (.int .i64 5)
 have m6:MapIs W6 w.heap.size z4p 6:=by
  have e:(z4o ⟨#[38]⟩).isSome=false:=rfl
  rw [e] at m6'
  exact m6'
 have b6:Below w.heap.size w W6:=b5.trans (c6.below b5.size (λk _ e=>Nat.le_of_eq e.symm))
 clear m6' c6 m5 b5
 obtain ⟨W7,hr6,m7',c7⟩:=m6.put Tryz.underlying72 ymb (u:=⟨#[124]⟩) ymk (.int .i64 6)
 have m7:MapIs W7 w.heap.size z4q 7:=by
  have e:(z4p ⟨#[124]⟩).isSome=false:=rfl
  rw [e] at m7'
  exact m7'
 have b7:Below w.heap.size w W7:=b6.trans (c7.below b6.size (λk _ e=>Nat.le_of_eq e.symm))
 clear m7' c7 m6 b6
 obtain ⟨W8,hr7,m8',c8⟩:=m7.put Tryz.underlying72 ymb (u:=⟨#[94]⟩) ymk (.int .i64 7)
 have m8:MapIs W8 w.heap.size z4r 8:=by
  have e:(z4q ⟨#[94]⟩).isSome=false:=rfl
  rw [e] at m8'
  exact m8'
 have b8:Below w.heap.size w W8:=b7.trans (c8.below b7.size (λk _ e=>Nat.le_of_eq e.symm))
 clear m8' c8 m7 b7
 obtain ⟨W9,hr8,m9',c9⟩:=m8.put Tryz.underlying72 ymb (u:=⟨#[60,60]⟩) ymk (.int .i64 8)
 have m9:MapIs W9 w.heap.size z4s 9:=by
  have e:(z4r ⟨#[60,60]⟩).isSome=false:=rfl
  rw [e] at m9'
  exact m9'
 have b9:Below w.heap.size w W9:=b8.trans (c9.below b8.size (λk _ e=>Nat.le_of_eq e.symm))
 clear m9' c9 m8 b8
 obtain ⟨W10,hr9,m10',c10⟩:=m9.put Tryz.underlying72 ymb (u:=⟨#[62,62]⟩) ymk (.int .i64 9)
 have m10:MapIs W10 w.heap.size zww 10:=by
  have e:(z4s ⟨#[62,62]⟩).isSome=false:=rfl
  rw [e] at m10'
  exact m10'
 have b10:Below w.heap.size w W10:=b9.trans (c10.below b9.size (λk _ e=>Nat.le_of_eq e.symm))
 clear m10' c10 m9 b9
 obtain ⟨W11,hr10,m11',c11⟩:=m10.put Tryz.underlying72 ymb (u:=⟨#[60]⟩) ymk (.int .i64 10)
 have m11:MapIs W11 w.heap.size zwx 11:=by
  have e:(zww ⟨#[60]⟩).isSome=false:=rfl
  rw [e] at m11'
  exact m11'
 have b11:Below w.heap.size w W11:=b10.trans (c11.below b10.size (λk _ e=>Nat.le_of_eq e.symm))
 clear m11' c11 m10 b10
 obtain ⟨W12,hr11,m12',c12⟩:=m11.put Tryz.underlying72 ymb (u:=⟨#[61,61]⟩) ymk (.int .i64 11)
 have m12:MapIs W12 w.heap.size zwy 12:=by
  have e:(zwx ⟨#[61,61]⟩).isSome=false:=rfl
  rw [e] at m12'
  exact m12'
 have b12:Below w.heap.size w W12:=b11.trans (c12.below b11.size (λk _ e=>Nat.le_of_eq e.symm))
 clear m12' c12 m11 b11
 have M:=hid (m12.congr z5p)
 have BB:=hid b12
 clear m12 b12
 go_enter Tryz.func22,Tryz.ntmps22
 go_wp2
 go_ret
 exact ⟨rfl,M.out,BB.out⟩
theorem zot{s:St}(h: ∀n,s=St.loop n->1<=n/\n<=4):1<=Jk s/\Jk s<=4:=by
 rcases s with ⟨to,a⟩|⟨to,k,a,c⟩|⟨to,f,a⟩|⟨f,a,c⟩|a|⟨⟩|a|n
 ·simp [Jk]
 ·simp [Jk]
 ·simp [Jk]
 ·simp [Jk]
 ·simp [Jk]
 ·simp [Jk]
 ·simp [Jk]
 ·exact h n rfl
section
variable{st:RS}{lv:Nat->Nat}{k:Nat}
theorem zmr(h:DeepL st lv)(hok:st.Ok k): ∀(f i:Nat) (x:Hd),st.hs[i]?=some x->3<=lv i+f->∀e∈x.ents,enG st.hs f e
 |0,i,x,hx,hf,e,he=>by
  rcases e with s|j
  ·exact ⟨s,rfl,h.leaf i x hx s he⟩
  ·obtain ⟨q1,s,q2,q3⟩:=h.nest i x hx j he
   obtain ⟨y,hy,_⟩:=Yy q2
   have:=h.le j (List.getElem?_eq_some_iff.1 hy).1
   omega
 |f+1,i,x,hx,hf,e,he=>by
  rcases e with s|j
  ·exact .inl ⟨s,rfl,h.leaf i x hx s he⟩
  ·obtain ⟨q1,s,q2,q3⟩:=h.nest i x hx j he
   obtain ⟨y,hy,hyk⟩:=Yy q2
   refine .inr ⟨j,y,s,rfl,hy,hyk,q3,zot (λn e=>h.loop j n (e▸q2)),hok.e14 j y hy,λe' he'=>zmr h hok f j y hy yl5 e' he'⟩
theorem zou(h:DeepL st lv)(hok:st.Ok k){t:Nat}{x:Hd}(hx:st.hs[t]?=some x): ∀e∈x.ents,enG st.hs 3 e:=zmr h hok 3 t x hx yl5
end
abbrev zb1(w:World)(sb bs:Nat):World:=w.alloc (.cells #[.map (some sb), .slice none 0 0, .int .i64 0, .slice none 0 0, .map (some bs)] 76)
theorem zsg(w:World)(T:TypeId):w.ownsRow 0 T 1 (.slice none 0 0) 0 []:=⟨rfl, .inl ⟨rfl,rfl⟩⟩
theorem zov(w:World)(sb bs B:Nat)(hs:MapIs w sb (λ_=>none) 0)(hb:MapIs w bs Sa 12)(hne:sb≠bs)(h1:B<=sb)(h2:B<=bs):
  ∃lab,RMach (λk=>B<=k/\k<(zb1 w sb bs).heap.size) lab (zb1 w sb bs) w.heap.size sb bs (.slice none 0 0) (.slice none 0 0) RS.none []:=by
 have ls:=hs.lt
 have lb:=hb.lt
 have hsz:(zb1 w sb bs).heap.size=w.heap.size+1:=yl6
 have hc:Chg (λ_ _=>False) w (zb1 w sb bs):=(Chg.refl _ w).alloc _
 refine ⟨λk=>if k=w.heap.size then (0,0) else if k=sb then (0,1) else (0,4),{
  sh:=zl2 _ _ _,c0:=World.cell?_alloc_new _ _ _ 0,c1:=World.cell?_alloc_new _ _ _ 1,c2:=World.cell?_alloc_new _ _ _ 2,c3:=World.cell?_alloc_new _ _ _ 3,c4:=World.cell?_alloc_new _ _ _ 4,free:=zgf _ _ _
  mS:=hs.keep hc (λ_ e=>e),mG:=hb.keep hc (λ_ e=>e),trow:=zsg _ _,orow:=zsg _ _
  hd:=λi hi=>by simp at hi
  hs:=rfl
  lbr:=⟨if_pos rfl,by omega,by omega⟩
  lsb:=⟨?_,by omega,by omega⟩
  ltv:=λg hg=>by simp [Value.ownBlock] at hg
  lov:=λg hg=>by simp [Value.ownBlock] at hg
  lbs:=⟨?_,by omega,by omega⟩
  lhd:=λi hi=>by simp at hi}⟩
 ·show (if sb=w.heap.size then _ else if sb=sb then _ else _)=_
  rw [if_neg yl5,if_pos rfl]
 ·show (if bs=w.heap.size then _ else if bs=sb then _ else _)=_
  rw [if_neg yl5,if_neg yl5]
structure z3m(W WR:World)(br sb bs:Nat):Prop where
 low:Below W.heap.size W WR
 env:Env WR
 m: ∃lab,RMach (λk=>W.heap.size<=k/\k<WR.heap.size) lab WR br sb bs (.slice none 0 0) (.slice none 0 0) RS.none []
theorem zwz{w2:World}(hE:Env W)(hm:MapIs w2 (W.heap.size+1) Sa 12)(hb:Below (W.heap.size+1) (W.alloc (.map #[] 0)) w2):z3m W (zb1 w2 W.heap.size (W.heap.size+1)) w2.heap.size W.heap.size (W.heap.size+1):=by
 have hsz:(W.alloc (.map #[] 0)).heap.size=W.heap.size+1:=yl6
 have hb':Below (W.alloc (.map #[] 0)).heap.size (W.alloc (.map #[] 0)) w2:=by rw [hsz];exact hb
 have hs:MapIs w2 W.heap.size (λ_=>none) 0:=(zbr W).keep (M:=λ_ _=>False) (Chg.of_below hb') (λ_ e=>e)
 have low:Below W.heap.size W (zb1 w2 W.heap.size (W.heap.size+1)):=(((Below.refl _ W).alloc (Nat.le_refl _) _).trans (hb.mono yl5)).trans ((Below.refl _ w2).alloc (by have:=hb.size;simp at this;omega) _)
 exact ⟨low,hE.keep (M:=λ_ _=>False) (Chg.of_below low) (λ_ _ _ e=>e),zov w2 W.heap.size (W.heap.size+1) W.heap.size hs hm yl5 yl5 yl5⟩
theorem zow(hE:Env W)(s:ByteArray){er ln:Int}(hg:Jl s= .error (er,ln)):
  Cl 14 #[.string s] W λe w'=>∃bf,e= .returned (.tuple #[.pointer none, .iface 47 (ptr bf)])/\W.heap.size<=bf/\FaultAt w' bf er ln/\Below W.heap.size W w':=by
 have hmm: ∀w:World,(Instr.makeMap 68 none).run Tryz.prog w= .ok (.map (some w.heap.size)) (w.alloc (.map #[] 0)):=λ_=>rfl
 have hmf: ∀(fn:Fn) (first cap:Array Value) (w:World),(Instr.makeFunc fn first cap).run Tryz.prog w= .ok (.func fn first cap) w:=λ_ _ _ _=>rfl
 have hlo:=hE.lo
 have HE:=hid hE
 clear hE
 go_enter Tryz.func14,Tryz.ntmps14
 go_wp2_with fail
 refine (zc5 (W.alloc (.map #[] 0))).mono ?_
 rw [show (W.alloc (.map #[] 0)).heap.size=W.heap.size+1 from by simp]
 rintro e w2 ⟨rfl,hm,hb⟩
 have HG:=hid (zwz HE.out hm hb)
 clear hm hb
 go_wp2_with fail
 obtain ⟨lab,hm⟩:=HG.out.m
 have K:=zav (B:=W.heap.size) hlo HG.out.low.size HG.out.env hm s
 rw [hg] at K
 refine K.mono ?_
 clear K hm
 rintro e w3 ⟨bf,rfl,h1,h2,h3⟩
 have H2:=hid h2
 have H3:=hid (HG.out.low.trans h3)
 have h1':W.heap.size<=bf:=by have:=HG.out.low.size;omega
 clear h1 h2 h3 HG
 go_wp2
 go_ret2
 exact ⟨bf,rfl,h1',H2.out,H3.out⟩
structure Has(W w:World)(br:Nat)(st:RS):Prop where
 ok:st.Ok 2000
 deep:st.Deep
 m: ∃E lab sb bs tv ov ms,W.heap.size<E/\RMach (dom W.heap.size E w) lab w br sb bs tv ov st ms
 env:Env w
 low:Below W.heap.size W w
theorem Has.below{st:RS}(h:Has W w br st)(hb:Below w.heap.size w w'):Has W w' br st:=by
 obtain ⟨E,lab,sb,bs,tv,ov,ms,hE,hm⟩:=h.m
 refine ⟨h.ok,h.deep,⟨E,lab,sb,bs,tv,ov,ms,hE,(hm.below hb).newD (λk hk hl=>⟨hk.1,hk.2.1,hl⟩)⟩,h.env.keep (M:=λ_ _=>False) (Chg.of_below hb) (λ_ _ _ e=>e),h.low.trans (hb.mono h.low.size)⟩
def zsh(s:ByteArray)(n:Nat):Prop:=∀w,Env w->Cl 25 #[.string s, .string ⟨#[10]⟩] w λe w'=>e= .returned (.int .i64 n)/\Below w.heap.size w w'
def zsi(W:World)(st:RS)(b:Bool):Prop:=∀w br,Has W w br st->Cl 26 #[ptr br] w λe w'=>e= .returned (.bool b)/\Below w.heap.size w w'
theorem zsj{WR:World}{sb bs:Nat}{st:RS}(hB:z3m W WR br sb bs)(hg:Jl s= .ok st)(h1:st.Ok 2000)(h2: ∃lab tv ov ms,RMach (dom W.heap.size WR.heap.size w') lab w' br sb bs tv ov st ms)(h3:Env w')(h4:Below W.heap.size WR w'):Has W w' br st:=by
 obtain ⟨lab,tv,ov,ms,hm⟩:=h2
 obtain ⟨lab0,hm0⟩:=hB.m
 have:=Qd hm0.sh
 have:=hm0.lbr.2
 exact ⟨h1,zkl hg,⟨WR.heap.size,lab,sb,bs,tv,ov,ms,by omega,hm⟩,h3,hB.low.trans h4⟩
theorem Has.open{st:RS}(h:Has W w br st): ∃a k,w.cell? ⟨br,3,none⟩=some (.slice a st.opn.length k):=by
 obtain ⟨E,lab,sb,bs,tv,ov,ms,hE,hm⟩:=h.m
 obtain ⟨a,k,e⟩:=hm.openS
 exact ⟨a,k,by rw [hm.c3,e]⟩
theorem zsk(hE:Env W)(s:ByteArray){st:RS}(hg:Jl s= .ok st)(ho:st.opn.length≠1)(hn:n<1000000)(KC:Hid (zsh s n)):
  Cl 14 #[.string s] W λe w'=>∃bf,e= .returned (.tuple #[.pointer none, .iface 47 (ptr bf)])/\W.heap.size<=bf/\FaultAt w' bf 3 (n+1)/\Below W.heap.size W w':=by
 have hmm: ∀w:World,(Instr.makeMap 68 none).run Tryz.prog w= .ok (.map (some w.heap.size)) (w.alloc (.map #[] 0)):=λ_=>rfl
 have hmf: ∀(fn:Fn) (first cap:Array Value) (w:World),(Instr.makeFunc fn first cap).run Tryz.prog w= .ok (.func fn first cap) w:=λ_ _ _ _=>rfl
 have hlo:=hE.lo
 have HE:=hid hE
 clear hE
 go_enter Tryz.func14,Tryz.ntmps14
 go_wp2_with fail
 refine (zc5 (W.alloc (.map #[] 0))).mono ?_
 rw [show (W.alloc (.map #[] 0)).heap.size=W.heap.size+1 from by simp]
 rintro e w2 ⟨rfl,hm,hb⟩
 have HG:=hid (zwz HE.out hm hb)
 clear hm hb
 go_wp2_with fail
 obtain ⟨lab,hm⟩:=HG.out.m
 have K:=zav (B:=W.heap.size) hlo HG.out.low.size HG.out.env hm s
 rw [hg] at K
 refine K.mono ?_
 clear K hm
 rintro e w3 ⟨rfl,h1,h2,h3,h4⟩
 have H:=hid (zsj HG.out hg h1 h2 h3 h4)
 clear h1 h2 h3 h4 HG
 obtain ⟨oa,ok,c3⟩:=H.out.open
 have ho': ¬(st.opn.length:Int)=1:=yl5
 have hob:((st.opn.length:Int)==1)=false:=by simpa using ho'
 have hw:wrap64 ((n:Int)+1)=(n:Int)+1:=ymc
 go_wp2_with fail
 refine (KC.out w3 H.out.env).mono ?_
 rintro e w4 ⟨rfl,b4⟩
 have H4:=hid (H.out.low.trans (b4.mono H.out.low.size))
 clear b4 H c3
 go_wp2
 go_ret2
 exact ⟨w4.heap.size,rfl,H4.out.size,⟨World.cell?_alloc_new _ _ _ 0,World.cell?_alloc_new _ _ _ 1⟩,H4.out.trans ((Below.refl _ w4).alloc H4.out.size _)⟩
theorem zsl(hE:Env W)(s:ByteArray){st:RS}(hg:Jl s= .ok st)(ho:st.opn.length=1)(KM:Hid (zsi W st true)):
  Cl 14 #[.string s] W λe w'=>∃bf,e= .returned (.tuple #[.pointer none, .iface 47 (ptr bf)])/\W.heap.size<=bf/\FaultAt w' bf 5 0/\Below W.heap.size W w':=by
 have hmm: ∀w:World,(Instr.makeMap 68 none).run Tryz.prog w= .ok (.map (some w.heap.size)) (w.alloc (.map #[] 0)):=λ_=>rfl
 have hmf: ∀(fn:Fn) (first cap:Array Value) (w:World),(Instr.makeFunc fn first cap).run Tryz.prog w= .ok (.func fn first cap) w:=λ_ _ _ _=>rfl
 have hlo:=hE.lo
 have HE:=hid hE
 clear hE
 go_enter Tryz.func14,Tryz.ntmps14
 go_wp2_with fail
 refine (zc5 (W.alloc (.map #[] 0))).mono ?_
 rw [show (W.alloc (.map #[] 0)).heap.size=W.heap.size+1 from by simp]
 rintro e w2 ⟨rfl,hm,hb⟩
 have HG:=hid (zwz HE.out hm hb)
 clear hm hb
 go_wp2_with fail
 obtain ⟨lab,hm⟩:=HG.out.m
 have K:=zav (B:=W.heap.size) hlo HG.out.low.size HG.out.env hm s
 rw [hg] at K
 refine K.mono ?_
 clear K hm
 rintro e w3 ⟨rfl,h1,h2,h3,h4⟩
 have H:=hid (zsj HG.out hg h1 h2 h3 h4)
 clear h1 h2 h3 h4 HG
 obtain ⟨oa,ok,c3⟩:=H.out.open
 rw [ho] at c3
 go_wp2_with fail
 refine (KM.out w3 _ H.out).mono ?_
 rintro e w4 ⟨rfl,b4⟩
 have H4:=hid (H.out.low.trans (b4.mono H.out.low.size))
 clear b4 H c3
 go_wp2
 go_ret2
 exact ⟨w4.heap.size,rfl,H4.out.size,⟨World.cell?_alloc_new _ _ _ 0,World.cell?_alloc_new _ _ _ 1⟩,H4.out.trans ((Below.refl _ w4).alloc H4.out.size _)⟩
theorem zsm(hE:Env W)(s:ByteArray){st:RS}(hg:Jl s= .ok st)(ho:st.opn.length=1)(KM:Hid (zsi W st false)):
  Cl 14 #[.string s] W λe w'=>∃br,e= .returned (.tuple #[ptr br, .nilIface])/\Has W w' br st:=by
 have hmm: ∀w:World,(Instr.makeMap 68 none).run Tryz.prog w= .ok (.map (some w.heap.size)) (w.alloc (.map #[] 0)):=λ_=>rfl
 have hmf: ∀(fn:Fn) (first cap:Array Value) (w:World),(Instr.makeFunc fn first cap).run Tryz.prog w= .ok (.func fn first cap) w:=λ_ _ _ _=>rfl
 have hlo:=hE.lo
 have HE:=hid hE
 clear hE
 go_enter Tryz.func14,Tryz.ntmps14
 go_wp2_with fail
 refine (zc5 (W.alloc (.map #[] 0))).mono ?_
 rw [show (W.alloc (.map #[] 0)).heap.size=W.heap.size+1 from by simp]
 rintro e w2 ⟨rfl,hm,hb⟩
 have HG:=hid (zwz HE.out hm hb)
 clear hm hb
 go_wp2_with fail
 obtain ⟨lab,hm⟩:=HG.out.m
 have K:=zav (B:=W.heap.size) hlo HG.out.low.size HG.out.env hm s
 rw [hg] at K
 refine K.mono ?_
 clear K hm
 rintro e w3 ⟨rfl,h1,h2,h3,h4⟩
 have H:=hid (zsj HG.out hg h1 h2 h3 h4)
 clear h1 h2 h3 h4 HG
 obtain ⟨oa,ok,c3⟩:=H.out.open
 rw [ho] at c3
 go_wp2_with fail
 refine (KM.out w3 _ H.out).mono ?_
 rintro e w4 ⟨rfl,b4⟩
 have H4:=hid (H.out.below b4)
 clear b4 H c3
 go_wp2
 go_ret2
 exact ⟨_,rfl,H4.out⟩
open Go.RowKit Go.Shelf
attribute [local go_sem] Oper.semAt_some
def Zo(hs:List Hd)(e:En):Bool:=kdA hs e&&decide (8<((Jb hs e).map (Zn hs kdO 3)).sum)
def RS.ents(st:RS)(t:Nat):List En:=match st.hs[t]? with
 |some h=>h.ents
 |_=>[]
def RS.thrMuch(st:RS)(t:Nat):Bool:=decide (3<((st.ents t).map (Zn st.hs (kdA st.hs) 3)).sum)||(Jf st.hs 3 (st.ents t)).any (Zo st.hs)
def zay(st:RS):Bool:=decide (6<st.cells)||(decide (3<st.threads.length)||st.threads.any st.thrMuch)
section
variable{D:Nat->Prop}{lab:Nat->Nat×Nat}{w:World}{br sb bs:Nat}{tv ov:Value}{st:RS}{ms:List HM}
theorem zox(n:Nat)(h:RMach D lab w br sb bs tv ov st ms)(hc:6<st.cells):
  CallsIn Fence.wide n Tryz.prog 26 #[ptr br] w λe w'=>e= .returned (.bool true)/\Below w.heap.size w w':=by
 have c2:(w.alloc (.cells #[.bool false] 4)).cell? ⟨br,2,none⟩=some (.int .i64 st.cells):=(World.cell?_alloc_past _ _ _ (Qd h.sh)).trans h.c2
 have hw: ∀f,Fence.wide.fn f:=λ_=>trivial
 clear h
 refine callsIn_of_wp_marks Tryz.func26 rfl trivial ?_ rfl
 simp only [Tryz.ntmps26,List.size_toArray,List.length_cons,List.length_nil,Nat.reduceAdd,Nat.reduceSub,Array.replicate_succ,Array.replicate_zero,List.push_toArray,List.append_toArray,List.nil_append,List.cons_append]
 gi_wp2
 exact ⟨.bool true,by simp [results,Tryz.f26,go_sem],rfl,(Below.refl _ w).alloc (Nat.le_refl _) _⟩
theorem zh8(n:Nat)(h:RMach D lab w br sb bs tv ov st ms)(hc: ¬6<st.cells)(ht:3<st.threads.length):
  CallsIn Fence.wide n Tryz.prog 26 #[ptr br] w λe w'=>e= .returned (.bool true)/\Below w.heap.size w w':=by
 have lb:=Qd h.sh
 have c2:(w.alloc (.cells #[.bool false] 4)).cell? ⟨br,2,none⟩=some (.int .i64 st.cells):=(World.cell?_alloc_past _ _ _ lb).trans h.c2
 obtain ⟨ta,tk,htv⟩:=h.threadS
 have c1:(w.alloc (.cells #[.bool false] 4)).cell? ⟨br,1,none⟩=some (.slice ta st.threads.length tk):=ynt
 have ht':3<(st.threads.length:Int):=yl5
 have hw: ∀f,Fence.wide.fn f:=λ_=>trivial
 clear h htv
 refine callsIn_of_wp_marks Tryz.func26 rfl trivial ?_ rfl
 simp only [Tryz.ntmps26,List.size_toArray,List.length_cons,List.length_nil,Nat.reduceAdd,Nat.reduceSub,Array.replicate_succ,Array.replicate_zero,List.push_toArray,List.append_toArray,List.nil_append,List.cons_append]
 gi_wp2
 exact ⟨.bool true,by simp [results,Tryz.f26,go_sem],rfl,(Below.refl _ w).alloc (Nat.le_refl _) _⟩
end
section
variable{D:Nat->Prop}{lab:Nat->Nat×Nat}{w w':World}{br sb bs:Nat}{tv ov:Value}{st:RS}{ms:List HM}{k:Nat}
theorem RMach.ar(h:RMach D lab w br sb bs tv ov st ms):Ar st.hs ms w:=⟨h.hd,h.hs⟩
theorem RMach.thread_at(h:RMach D lab w br sb bs tv ov st ms)(hok:st.Ok k)(i:Nat)(hi:i<st.threads.length):
  ∃g cp,tv= .slice (some ⟨g,0,none⟩) st.threads.length cp/\st.threads.length<=cp/\g<w.heap.size/\ ∃ht:st.threads[i]<ms.length,w.cell? ⟨g,i,none⟩=some (ptr ms[st.threads[i]].b)/\ms[st.threads[i]].b<w.heap.size/\
   w.cell? ⟨ms[st.threads[i]].b,0,none⟩=some ms[st.threads[i]].rv/\(∃a c,ms[st.threads[i]].rv= .slice a (st.ents st.threads[i]).length c)/\w.ownsRow 0 138 1 ms[st.threads[i]].rv (st.ents st.threads[i]).length ((st.ents st.threads[i]).map (enV (Qu ms)))/\(st.ents st.threads[i]).length<=14:=by
 have hr:=h.trow
 have ht:st.threads[i]<ms.length:=by rw [h.len];exact hok.ent.2.1 _ (List.getElem_mem hi)
 have hx:=h.hsAt _ ht
 have he:st.ents st.threads[i]=ms[st.threads[i]].h.ents:=by unfold RS.ents;rw [hx]
 have hd:=h.hd _ ht
 obtain ⟨g,cp,htv,hcp⟩: ∃g cp,tv= .slice (some ⟨g,0,none⟩) st.threads.length cp/\st.threads.length<=cp:=yl0
 subst htv
 obtain ⟨q1,_,_⟩:=Qm hr i hi
 refine ⟨g,cp,rfl,hcp,(hr.lt g rfl).2,ht,?_,Qd hd.sh,hd.rc,?_,by rw [he];exact hd.row,by rw [he];exact hok.e14 _ _ hx⟩
 ·rw [q1,List.getElem?_map,List.getElem?_eq_getElem hi]
  simp [idP,Qu,List.getElem?_eq_getElem ht]
 ·rw [he]
  rcases hd.row.2 with ⟨e1,e2⟩|⟨g',cap',cur,e1,_⟩
  ·exact ⟨Option.none,0,by rw [e1,e2]⟩
  ·exact ⟨_,_,e1⟩
theorem zy1(hd:st.Deep)(hok:st.Ok k)(t:Nat): ∀e∈st.ents t,enG st.hs 3 e:=by
 obtain ⟨lv,hd⟩:=hd
 intro e he
 unfold RS.ents at he
 cases hx:st.hs[t]? with
 |none=>simp [hx] at he
 |some x=>
  rw [hx] at he
  exact zou hd hok hx e he
theorem zgs(h:RMach D lab w br sb bs tv ov st ms)(hok:st.Ok k)(hd:st.Deep)(i:Nat)(hi:i<st.threads.length)(ht:st.threads[i]<ms.length)(hb:Below w.heap.size w w'):
  Cl 56 #[ms[st.threads[i]].rv] w' λr w''=>r= .returned (.int .i64 ((st.ents st.threads[i]).map (Zn st.hs (kdA st.hs) 3)).sum)/\Below w'.heap.size w' w'':=by
 obtain ⟨g,cp,_,_,_,_,_,_,_,_,hrow,h14⟩:=(h.below hb).thread_at hok i hi
 exact zrs yl5 (h.below hb).ar hrow h14 (zy1 hd hok _)
end
open Go.RowKit Go.Shelf
attribute [local go_sem] Oper.semAt_some
abbrev z5q(br Br:Nat)(c:Int)(tv:Value)(N k:Nat)(u4 u29 u30 u31 u32 u33 u34 u35 u36 u37 u38 u39 u40 u41 u42 u43 u44 u61:Value)(Ds:List Nat):Act:={tmps:=#[ptr br,undef, .pointer (some ⟨Br,0,none⟩),undef,u4,undef,undef,undef,ptr br, .pointer (some ⟨br,0,none⟩), .pointer (some ⟨br,2,none⟩), .int .i64 c, .bool false, .bool false,ptr br, .pointer (some ⟨br,0,none⟩), .pointer (some ⟨br,0,none⟩), .pointer (some ⟨br,1,none⟩),tv, .int .i64 (N:Int), .bool false, .bool false,ptr br, .pointer (some ⟨br,0,none⟩), .pointer (some ⟨br,0,none⟩), .pointer (some ⟨br,1,none⟩),tv, .int .i64 (N:Int), .int .i64 (k:Int),u29,u30,u31,u32,u33,u34,u35,u36,u37,u38,u39,u40,u41,u42,u43,u44,undef,undef,undef,undef,undef,undef,undef,undef,undef,undef,undef,undef,undef,undef,undef,undef,u61],defers:=z0v Ds}
structure z5r(w:World)(st:RS)(k:Nat)(Ds:List Nat)(W:World):Prop where
 low:Below w.heap.size w W
 box:Boxed W w.heap.size 4 (.bool false)
 nd:Ds.Nodup
 ds: ∀D∈Ds,w.heap.size+1<=D/\D<W.heap.size/\W.heap[D]?=some (.deferred (some []))
 no: ∀j (h:j<st.threads.length),j<k->st.thrMuch st.threads[j]=false
theorem zb2{Ds:List Nat}{b:Bool}(h2:tmps[2]?=some (.pointer (some ⟨w.heap.size,0,none⟩)))(low:Below w.heap.size w W)(hb:W.cell? ⟨w.heap.size,0,none⟩=some (.bool b))(nd:Ds.Nodup)(ds: ∀D∈Ds,w.heap.size+1<=D/\W.heap[D]?=some (.deferred (some [])))(bb:Bool)(e:bb=b):
  LeavesInM Fence.wide n Tryz.prog Tryz.f26 tmps (λe w'=>e= .returned (.bool bb)/\Below w.heap.size w w') (z0v Ds) .returning W:=by
 refine Iu w Ds W nd (λD hD=>⟨by have:=(ds D hD).1;omega,(ds D hD).2⟩) (λW' hW' hk=>?_)
 have hc:W'.cell? ⟨w.heap.size,0,none⟩=some (.bool b):=by
  have hn:w.heap.size∉Ds:=λe=>by have:=(ds _ e).1;omega
  rw [<-hb]
  unfold World.cell?
  simp only [hk _ hn]
 refine ⟨.bool b,?_,by rw [e],low.trans hW'⟩
 simp [results,Tryz.f26,go_sem,h2,hc]
open Go.RowKit Go.Shelf
attribute [local go_sem] Oper.semAt_some Yr Vw Ys Yt Yu Vh Yb Zc
section
variable{D:Nat->Prop}{lab:Nat->Nat×Nat}{w:World}{br sb bs:Nat}{tv ov:Value}{st:RS}{ms:List HM}{kk:Nat}
theorem zso(n:Nat)(hn:6<=n)(h:RMach D lab w br sb bs tv ov st ms)(hok:st.Ok kk)(hdp:st.Deep)(hc: ¬6<st.cells)(ht:st.threads.length<=3):
  CallsIn Fence.wide n Tryz.prog 26 #[ptr br] w λe w'=>e= .returned (.bool (st.threads.any st.thrMuch))/\Below w.heap.size w w':=by
 have lb:=Qd h.sh
 have c2:(w.alloc (.cells #[.bool false] 4)).cell? ⟨br,2,none⟩=some (.int .i64 st.cells):=(World.cell?_alloc_past _ _ _ lb).trans h.c2
 obtain ⟨ta,tk,htv⟩:=h.threadS
 have c1:(w.alloc (.cells #[.bool false] 4)).cell? ⟨br,1,none⟩=some (.slice ta st.threads.length tk):=ynt
 have ht': ¬3<(st.threads.length:Int):=yl5
 have hw: ∀f,Fence.wide.fn f:=λ_=>trivial
 have H:=hid h
 have HTV:=hid htv
 clear h htv
 refine callsIn_of_wp_marks Tryz.func26 rfl trivial ?_ rfl
 simp only [Tryz.ntmps26,List.size_toArray,List.length_cons,List.length_nil,Nat.reduceAdd,Nat.reduceSub,Array.replicate_succ,Array.replicate_zero,List.push_toArray,List.append_toArray,List.nil_append,List.cons_append]
 gi_wp2
 refine wpIn_loop (λa W=>∃k u4 u29 u30 u31 u32 u33 u34 u35 u36 u37 u38 u39 u40 u41 u42 u43 u44 u61 Ds,k<=st.threads.length/\a=z5q br w.heap.size st.cells (.slice ta st.threads.length tk) st.threads.length k u4 u29 u30 u31 u32 u33 u34 u35 u36 u37 u38 u39 u40 u41 u42 u43 u44 u61 Ds/\z5r w st k Ds W) (λa _=>st.threads.length- (intOf (a.tmps[28]?.getD undef)).toNat) ?_ ?_
 ·refine ⟨0,undef,undef,undef,undef,undef,undef,undef,undef,undef,undef,undef,undef,undef,undef,undef,undef,undef,undef,[],Nat.zero_le _,rfl,⟨(Below.refl _ w).alloc (Nat.le_refl _) _,Boxed.new w 4 _,List.nodup_nil,λD hD=>by simp at hD,λj _ hj=>by omega⟩⟩
 ·rintro a W ⟨k,u4,u29,u30,u31,u32,u33,u34,u35,u36,u37,u38,u39,u40,u41,u42,u43,u44,u61,Ds,hk,rfl,hI⟩
  have HI:=hid hI
  clear hI
  by_cases hlt:k<st.threads.length
  ·have hlt':(k:Int)<(st.threads.length:Int):=by omega
   obtain ⟨g,cp,htv,hcp,hg,htl,q1,q2,q3,⟨ra,rc,hrv⟩,hrow,h14⟩:=(H.out.below HI.out.low).thread_at hok k hlt
   rw [HTV.out] at htv
   obtain ⟨rfl,rfl⟩:ta=some ⟨g,0,none⟩/\tk=cp:=by simpa using htv
   have KB:=hid ((callsIn_wide (n:=n- 1)).2 (zgs H.out hok hdp k hlt htl HI.out.low))
   rw [hrv] at q3 hrow KB
   have HROW:=hid hrow
   have h1n:1<=n:=yl5
   have cb:=HI.out.box.cell
   have fb:=HI.out.box.frozen
   generalize hM:((st.ents st.threads[k]).map (Zn st.hs (kdA st.hs) 3)).sum=Mb at*
   generalize ms[st.threads[k]].b=tb at*
   clear htv hrow
   gi_wp2_with (gi_at_call 56;refine KB.out.mono ?_;clear KB;rintro e W1 ⟨rfl,b1⟩;have cb1:=(b1.cell (p:=⟨w.heap.size,0,none⟩) (blt cb)).trans cb;have fb1:=(b1.frozen (p:=⟨w.heap.size,0,none⟩) (blt cb)).trans fb;have q31:=(b1.cell (p:=⟨tb,0,none⟩) q2).trans q3;have B1:=hid b1;clear b1)
   ·have h3:3<Mb:=by assumption
    refine zb2 rfl ((HI.out.low.trans (B1.out.mono HI.out.low.size)).setCell (p:=⟨w.heap.size,0,none⟩) (Nat.le_refl _) _) (Qg cb1 rfl) HI.out.nd (λD hD=>⟨(HI.out.ds D hD).1,(KeepsOthers.setCell W1 ⟨w.heap.size,0,none⟩ (.bool true)).same D _ ((B1.out.block D (HI.out.ds D hD).2.1).trans (HI.out.ds D hD).2.2) rfl⟩) _ ?_
    rw [List.any_eq_true]
    exact ⟨st.threads[k],List.getElem_mem hlt,by simp [RS.thrMuch,hM,h3]⟩
   ·have h3: ¬3<Mb:=by first|assumption|omega
    refine ((callsIn_wide (n:=n- 1)).2 (zse ra _ rc W1)).mono ?_
    rintro e w' ⟨rfl,rfl⟩
    gi_wp2
    have hBB:=B1.out
    obtain ⟨W2,hW2⟩: ∃W2,W1.alloc (.cells #[.slice ra (st.ents st.threads[k]).length rc] 87)=W2:=⟨_,rfl⟩
    have hB2:Below W1.heap.size W1 W2:=ynu
    have hBt:W2.cell? ⟨W1.heap.size,0,none⟩=some (.slice ra (st.ents st.threads[k]).length rc):=by rw [<-hW2];exact World.cell?_alloc_new _ _ _ 0
    have hsz2:W2.heap.size=W1.heap.size+1:=by rw [<-hW2];simp
    rw [hW2]
    clear hW2
    have hWW:Below W.heap.size W W2:=hBB.trans (hB2.mono hBB.size)
    have low2:Below w.heap.size w W2:=HI.out.low.trans (hWW.mono HI.out.low.size)
    have hR2:=hid (H.out.below low2)
    have hrow2:=Qc HROW.out (Chg.of_below (M:=λ_ _=>False) hWW) (λ_ _ _ e=>e)
    have hl2:w.heap.size<W2.heap.size:=by have:=blt cb1;simp at this;omega
    have bx2:Boxed W2 w.heap.size 4 (.bool false):=(hWW.block w.heap.size (blt cb)).trans HI.out.box
    have hds2: ∀D∈Ds,w.heap.size+1<=D/\D<W2.heap.size/\W2.heap[D]?=some (.deferred (some [])):=λD hD=>⟨(HI.out.ds D hD).1,Nat.lt_of_lt_of_le (HI.out.ds D hD).2.1 hWW.size,(hWW.block D (HI.out.ds D hD).2.1).trans (HI.out.ds D hD).2.2⟩
    refine wpIn_rangeFunc_ownH rfl h1n (gf:=88) (lb:=#[.pointer (some ⟨W1.heap.size,0,none⟩)]) rfl trivial (enters_of Tryz.func88 yl7 rfl)
     (zsf (n- 1) W1.heap.size W2 hR2.out.ar hrow2 h14 (zy1 hdp hok _) hBt) belowK_t (belowK_b (Nat.le_refl _)) (Below.refl _ _) (λ_=>rfl)
     (λpre W'=>(∀x∈pre,Zo st.hs x.1=false)/\Below W2.heap.size W2 W')
     (λc' pre W'=>((c'= .ret/\ ∃x∈pre,Zo st.hs x.1=true)/\(Boxed W' w.heap.size 4 (.bool true)/\(∀D∈Ds,W'.heap[D]?=some (.deferred (some [])))))/\Below w.heap.size w W')
     (OwnFrom.and (λ_ _ _ _ hs _ _=>hs) (ownFrom_below (Nat.le_refl _) (Nat.le_refl _)))
     (λc'=>OwnFrom.and (OwnFrom.and (λ_ _ _ _ hs _ _=>hs) (OwnFrom.and (Own.from (boxed_own _ _ _) _) (λpre X Y row hs hg hr=>?own))) (ownFrom_below (Nat.le_refl _) yl5))
     ⟨λx hx=>by simp at hx,Below.refl _ _⟩
     (λx a' _=>a'={tmps:=#[ptr br,undef, .pointer (some ⟨w.heap.size,0,none⟩),undef,ptr tb,enV (Qu ms) x.1,undef,undef,ptr br, .pointer (some ⟨br,0,none⟩), .pointer (some ⟨br,2,none⟩), .int .i64 st.cells, .bool false, .bool false,ptr br, .pointer (some ⟨br,0,none⟩), .pointer (some ⟨br,0,none⟩), .pointer (some ⟨br,1,none⟩), .slice (some ⟨g,0,none⟩) st.threads.length tk, .int .i64 (st.threads.length:Int), .bool false, .bool false,ptr br, .pointer (some ⟨br,0,none⟩), .pointer (some ⟨br,0,none⟩), .pointer (some ⟨br,1,none⟩), .slice (some ⟨g,0,none⟩) st.threads.length tk, .int .i64 (st.threads.length:Int), .int .i64 (k:Int), .bool true, .pointer (some ⟨g,k,none⟩),ptr tb,ptr tb, .pointer (some ⟨tb,0,none⟩), .pointer (some ⟨tb,0,none⟩), .pointer (some ⟨tb,0,none⟩), .slice ra (st.ents st.threads[k]).length rc, .int .i64 Mb, .bool (decide (3<Mb)),ptr tb, .pointer (some ⟨tb,0,none⟩), .pointer (some ⟨tb,0,none⟩), .pointer (some ⟨tb,0,none⟩), .slice ra (st.ents st.threads[k]).length rc, .func (.func 88) #[] #[.pointer (some ⟨W1.heap.size,0,none⟩)],enV (Qu ms) x.1,undef,undef,undef,undef,undef,undef,undef,undef,undef,undef,undef,undef,undef,undef,undef,u61],defers:=[]})
     (λx a' _ X Y row hs _ _=>hs)
     ?assign ?body ?done ?stop
    case own=>
     intro D hD
     exact (hg.block D (Array.getElem?_eq_some_iff.1 (hs D hD)).1 (λe=>by have:=(hr D e.symm).1;have:=(hds2 D hD).2.1;omega)).trans (hs D hD)
    case assign=>
     rintro l pre x W' K hI hK
     gi_wp2
     exact hK _ _ (KeepsFrom.refl _ _) (Below.refl _ _) hI rfl
    case done=>
     rintro D' ys W' hD hS ⟨hno,hb⟩ hK
     gi_wp2
     refine ⟨⟨k+1,_,_,_,_,_,_,_,_,_,_,_,_,_,_,_,_,_,_,D'::Ds,by omega,rfl,⟨low2.trans (hb.mono yl5),(hb.block w.heap.size hl2).trans bx2,List.nodup_cons.2 ⟨λe=>by have:=(hds2 D' e).2.1;omega,HI.out.nd⟩,λE hE=>?_,λj hj hjk=>?_⟩⟩,?_⟩
     ·rcases List.mem_cons.1 hE with rfl|hE
      ·exact ⟨by omega,(Array.getElem?_eq_some_iff.1 hK).1,hK⟩
      ·exact ⟨(hds2 E hE).1,Nat.lt_of_lt_of_le (hds2 E hE).2.1 hb.size,(hb.block E (hds2 E hE).2.1).trans (hds2 E hE).2.2⟩
     ·by_cases e:j=k
      ·subst e
       have:(Jf st.hs 3 (st.ents st.threads[j])).any (Zo st.hs)=false:=by
        rw [List.any_eq_false]
        intro y hy
        rw [<-hS] at hy
        obtain ⟨x,hx,rfl⟩:=List.mem_map.1 hy
        simp [hno x hx]
       simp [RS.thrMuch,hM,h3,this]
      ·exact HI.out.no j hj yl5
     ·simp [intOf];omega
    case stop=>
     rintro D' c' pre W' hD hSp ⟨⟨⟨rfl,x,hx,hm⟩,bx,hds⟩,hb⟩ hK
     gi_wp2
     refine zb2 (Ds:=D'::Ds) rfl hb bx.cell (List.nodup_cons.2 ⟨λe=>by have:=(hds2 D' e).2.1;omega,HI.out.nd⟩) (λE hE=>?_) _ ?_
     ·rcases List.mem_cons.1 hE with rfl|hE
      ·exact ⟨by omega,hK⟩
      ·exact ⟨(hds2 E hE).1,hds E hE⟩
     ·rw [List.any_eq_true]
      refine ⟨st.threads[k],List.getElem_mem hlt,?_⟩
      have:(Jf st.hs 3 (st.ents st.threads[k])).any (Zo st.hs)=true:=List.any_eq_true.2 ⟨x.1,hSp.subset (List.mem_map.2 ⟨x,hx,rfl⟩),hm⟩
      simp [RS.thrMuch,this]
    case body=>
     rintro l pre ⟨e,he⟩ a' W' hl _ ⟨hno,hb⟩ rfl hlt
     have hsn:Zo st.hs e=false->∀x∈pre++[(⟨e,he⟩:zcs st.hs)],Zo st.hs x.1=false:=λhm x hx=>(List.mem_append.1 hx).elim (hno x) (λh=>by simp at h;subst h;exact hm)
     have he0:=he
     rcases he0 with ⟨s,rfl,hh⟩|⟨j,y,s,rfl,hj,hky,hh,ht,hl14,hsub⟩
     ·have hm:Zo st.hs (.inl s)=false:=rfl
      have HS:=hid (hsn hm)
      have hv:enV (Qu ms) (.inl s)=stV s:=rfl
      rw [hv]
      clear hsn hv
      rcases s with ⟨to,a⟩|⟨to,k,a,c⟩|⟨to,f,a⟩|⟨f,a,c⟩|a|⟨⟩|a|n
      ·simp only [stV]
       gi_wp2
       exact ⟨KeepsFrom.refl _ _,Below.refl _ _,HS.out,hb⟩
      ·simp only [stV]
       gi_wp2
       exact ⟨KeepsFrom.refl _ _,Below.refl _ _,HS.out,hb⟩
      ·simp only [stV]
       gi_wp2
       exact ⟨KeepsFrom.refl _ _,Below.refl _ _,HS.out,hb⟩
      ·simp only [stV]
       gi_wp2
       exact ⟨KeepsFrom.refl _ _,Below.refl _ _,HS.out,hb⟩
      ·simp only [stV]
       gi_wp2
       exact ⟨KeepsFrom.refl _ _,Below.refl _ _,HS.out,hb⟩
      ·simp [Qf] at hh
      ·simp [Qf] at hh
      ·simp [Qf] at hh
     ·obtain ⟨hl5,e1,e2⟩:=Eg (hR2.out.ar.below hb) hj
      have HAW:=hid (hR2.out.ar.below hb)
      have hrowW:=(HAW.out.hd j hl5).row
      rw [e1] at hrowW
      have hcW:=(HAW.out.hd j hl5).rc
      obtain ⟨ya,yc,hyr⟩: ∃a c,ms[j].rv= .slice a y.ents.length c:=by
       rcases hrowW.2 with ⟨q1,q2⟩|⟨g',cap',cur,q1,_⟩
       ·exact ⟨none,0,by rw [q1,q2]⟩
       ·exact ⟨_,_,q1⟩
      rw [hyr] at hrowW hcW
      have hen:Zo st.hs (.inr j)=(HK.isAtomic (.st s)&&decide (8<(y.ents.map (Zn st.hs kdO 3)).sum)):=by simp only [Zo,kdA,Jb,hj,hky]
      rw [e2,hky]
      have KO:=hid (CallsIn.inRound l ((callsIn_wide (n:=n- 1- 1- 1)).2 (z0i (f:=3) yl5 HAW.out hrowW hl14 (λe' he'=>Gt 2 e' (hsub e' he')))))
      generalize ms[j].b=jb at*
      generalize (y.ents.map (Zn st.hs kdO 3)).sum=So at*
      have HSN:=hid hsn
      have cbW:=(hb.cell (p:=⟨w.heap.size,0,none⟩) hl2).trans bx2.cell
      have fbW:=(hb.frozen (p:=⟨w.heap.size,0,none⟩) hl2).trans bx2.frozen
      have h1r:1<=n- 1- 1:=yl5
      clear hsn hrowW
      rcases s with ⟨to,a⟩|⟨to,k,a,c⟩|⟨to,f,a⟩|⟨f,a,c⟩|a|⟨⟩|a|nn
      ·simp [Qf] at hh
      ·simp [Qf] at hh
      ·simp [Qf] at hh
      ·simp [Qf] at hh
      ·simp [Qf] at hh
      ·simp only [hkT]
       gi_wp2_with (gi_at_call 58;refine KO.out.mono ?_;clear KO;rintro e W3 ⟨rfl,b3⟩;have cb3:=(b3.cell (p:=⟨w.heap.size,0,none⟩) (blt cbW)).trans cbW;have fb3:=(b3.frozen (p:=⟨w.heap.size,0,none⟩) (blt cbW)).trans fbW;have B3:=hid b3;clear b3)
       ·have h8:8<So:=by assumption
        have KF:KeepsFrom W2.heap.size W' W3:=KeepsFrom.of_grownBy (row:=none) ⟨B3.out.os,B3.out.tape,B3.out.output,B3.out.size,λq hq _=>B3.out.block q hq⟩ (λq e=>by cases e)
        have bx3:Boxed W3 w.heap.size 4 (.bool false):=(B3.out.block w.heap.size (blt cbW)).trans ((hb.block w.heap.size hl2).trans bx2)
        have low3:Below w.heap.size w W3:=(low2.trans (hb.mono yl5)).trans (B3.out.mono (by have:=hb.size;omega))
        refine ⟨KF.trans ((KeepsOthers.setCell W3 ⟨w.heap.size,0,none⟩ (.bool true)).from _),⟨⟨rfl,⟨.inr j,he⟩,by simp,?_⟩,bx3.set _,λD hD=>?_⟩,low3.setCell (p:=⟨w.heap.size,0,none⟩) (Nat.le_refl _) _⟩
        ·rw [hen];simp [HK.isAtomic,h8]
        ·exact (KeepsOthers.setCell W3 ⟨w.heap.size,0,none⟩ (.bool true)).same D _ ((B3.out.block D (Nat.lt_of_lt_of_le (hds2 D hD).2.1 hb.size)).trans ((hb.block D (hds2 D hD).2.1).trans (hds2 D hD).2.2)) rfl
       ·have h8: ¬8<So:=by first|assumption|omega
        have KF:KeepsFrom W2.heap.size W' W3:=KeepsFrom.of_grownBy (row:=none) ⟨B3.out.os,B3.out.tape,B3.out.output,B3.out.size,λq hq _=>B3.out.block q hq⟩ (λq e=>by cases e)
        exact ⟨KF,B3.out.mono hb.size,HSN.out (by rw [hen];simp [h8]),hb.trans (B3.out.mono hb.size)⟩
      ·simp only [hkT]
       gi_wp2
       exact ⟨KeepsFrom.refl _ _,Below.refl _ _,λa b hx=>HSN.out (by rw [hen];rfl) ⟨a,b⟩ hx,hsz2▸hb⟩
      ·simp only [hkT]
       gi_wp2
       exact ⟨KeepsFrom.refl _ _,Below.refl _ _,λa b hx=>HSN.out (by rw [hen];rfl) ⟨a,b⟩ hx,hsz2▸hb⟩
  ·have hlt': ¬(k:Int)<(st.threads.length:Int):=by omega
   have cb:=HI.out.box.cell
   have fb:=HI.out.box.frozen
   gi_wp2
   refine zb2 rfl (HI.out.low.setCell (p:=⟨w.heap.size,0,none⟩) (Nat.le_refl _) _) (Qg cb rfl) HI.out.nd (λD hD=>⟨(HI.out.ds D hD).1,(KeepsOthers.setCell W ⟨w.heap.size,0,none⟩ (.bool false)).same D _ (HI.out.ds D hD).2.2 rfl⟩) _ ?_
   rw [List.any_eq_false]
   intro t ht
   obtain ⟨i,hi,rfl⟩:=List.getElem_of_mem ht
   have:=HI.out.no i hi yl5
   simp [this]
end
open Go.RowKit Go.Shelf
theorem zsp(W:World)(st:RS):zsi W st (zay st):=by
 intro w br h
 obtain ⟨E,lab,sb,bs,tv,ov,ms,_,hm⟩:=h.m
 unfold zay
 by_cases h1:6<st.cells
 ·rw [decide_eq_true h1]
  exact (callsIn_wide (n:=6)).1 (zox 6 hm h1)
 ·rw [decide_eq_false h1]
  by_cases h2:3<st.threads.length
  ·rw [decide_eq_true h2]
   exact (callsIn_wide (n:=6)).1 (zh8 6 hm h1 h2)
  ·rw [decide_eq_false h2]
   exact (callsIn_wide (n:=6)).1 (zso 6 yl5 hm h.ok h.deep h1 yl5)
theorem zkp(s:ByteArray):zsh s (s.data.toList.count 10):=by
 intro w _
 refine (Tryz.strings_Count_one s 10 w).mono ?_
 rintro e w' ⟨rfl,rfl⟩
 exact ⟨rfl,Below.refl _ _⟩
def zaz(s:ByteArray):Except (Int×Int) RS:=
 match Jl s with
 | .error e=> .error e
 | .ok st=>if st.opn.length≠1 then .error (3,(s.data.toList.count 10:Int)+1) else if zay st=true then .error (5,0) else .ok st
theorem Iv{st:RS}(h:Jl s= .ok st):s.size<=2000:=by
 unfold Jl at h
 by_cases hs:2000<s.size
 ·rw [if_pos hs] at h;cases h
 ·omega
def z3o(W:World)(r:Except (Int×Int) RS)(e:Ending)(w':World):Prop:=
 match r with
 | .error (er,ln)=>∃bf,e= .returned (.tuple #[.pointer none, .iface 47 (ptr bf)])/\W.heap.size<=bf/\FaultAt w' bf er ln/\Below W.heap.size W w'
 | .ok st=>∃br,e= .returned (.tuple #[ptr br, .nilIface])/\Has W w' br st
theorem zmt(hE:Env W)(s:ByteArray):Cl 14 #[.string s] W λe w'=>z3o W (zaz s) e w':=by
 unfold zaz
 cases hg:Jl s with
 |error p=>
  obtain ⟨er,ln⟩:=p
  exact zow hE s hg
 |ok st=>
  have hs:=Iv hg
  have hc:s.data.toList.count 10<=s.data.toList.length:=List.count_le_length
  have hl:s.data.toList.length=s.size:=Array.length_toList
  dsimp only
  by_cases ho:st.opn.length=1
  ·rw [if_neg (by simpa using ho)]
   cases hm:zay st with
   |true=>
    rw [if_pos rfl]
    exact zsl hE s hg ho (hid (hm▸zsp W st))
   |false=>
    rw [if_neg yl6]
    exact zsm hE s hg ho (hid (hm▸zsp W st))
  ·rw [if_pos ho]
   exact zsk hE s hg ho yl5 (hid (zkp s))
end Go.Proofs.YtiiepngikigmbaaGreatDoor
