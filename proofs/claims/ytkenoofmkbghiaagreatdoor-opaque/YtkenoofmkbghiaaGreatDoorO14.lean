import Derived.Test.YtkenoofmkbghiaaGreatDoorO13
import Derived.Defers
import Derived.Recover
import Derived.Deep.RegionLaw
import Derived.Test.YtkenoofmkbghiaaGreatDoorAs
set_option maxRecDepth 100000
set_option maxHeartbeats 4000000
namespace Go.Proofs.YtkenoofmkbghiaaGreatDoor
open Go.RowKit
variable{W w w3 wr:World}{ws ws1:List ByteArray}{bf bm g r:Nat}{l:List UInt8}{o1 o2:Obj}{tv:Value}{u:ByteArray}{er ln:Int}
def Ql(l:List UInt8):List ByteArray:=Lib.splitB ⟨#[32]⟩ 0 (Lib.countB ⟨l.toArray⟩ ⟨#[32]⟩) ⟨l.toArray⟩
theorem zdm(l:List UInt8):(Ql l).length=Lib.countB ⟨l.toArray⟩ ⟨#[32]⟩+1:=Lib.splitB_all ⟨#[32]⟩ yup 0 _ _ rfl
theorem z17{r r':List UInt8}{sep:UInt8}(h:Lib.cut r [sep]=(l,r',true))(h0:r≠[]):r'.length<r.length/\l.length<=r.length:=by
 unfold Lib.cut at h
 have hl:0<r.length:=List.length_pos_iff.2 h0
 split at h
 ·simp only [Prod.mk.injEq,and_true] at h
  obtain ⟨rfl,rfl⟩:=h
  constructor
  ·simp only [List.length_drop,List.length_cons,List.length_nil];omega
  ·simp only [List.length_take];omega
 ·simp at h
theorem zjp(B:Nat)(w:World)(n:Nat):Below B w (w.drewN n):=⟨rfl,rfl,rfl,Nat.le_refl _,λ_ _=>rfl⟩
theorem zbq{n:Int}:
  LineAt ((w.alloc (.cells ((Ql l).map Value.string).toArray 9)).alloc (.cells #[.int .i64 n, .slice (some ⟨w.heap.size,0,none⟩) (Ql l).length (Ql l).length] 150)) (w.heap.size+1) n w.heap.size (Ql l):=by
 have hs:(w.alloc (.cells ((Ql l).map Value.string).toArray 9)).heap.size=w.heap.size+1:=yun
 refine ⟨?_,?_,⟨0,(Ql l).length,Nat.le_refl _,?_,?_⟩,?_,by omega,by simp;omega⟩
 ·have e:((w.alloc (.cells ((Ql l).map Value.string).toArray 9)).alloc (.cells #[.int .i64 n, .slice (some ⟨w.heap.size,0,none⟩) (Ql l).length (Ql l).length] 150)).heap[w.heap.size+1]?=some (.cells #[.int .i64 n, .slice (some ⟨w.heap.size,0,none⟩) (Ql l).length (Ql l).length] 150):=by
   rw [<-hs];show (Array.push _ _)[_]?=_;exact Array.getElem?_push_size
  unfold World.shape?
  rw [e]
  rfl
 ·rw [<-hs];exact (World.cell?_alloc_new _ _ _ 0).trans rfl
 ·rw [<-hs];exact (World.cell?_alloc_new _ _ _ 1).trans rfl
 ·intro j hj
  rw [World.cell?_alloc_past _ _ _ yun,World.cell?_alloc_new]
  simp [hj]
 ·rw [<-hs];simp
theorem zjq(p:Addr)(w:World):
  CallsD Tryz.prog 53 #[.pointer (some p)] .returning w λe u' w'=>e= .returned (.tuple #[])/\u'= .returning/\w'=w:=by
 refine callsD_of_wpS Tryz.func53 rfl λc₀ cs hu=>?_
 apply wpS_seq
 apply wpS_region
 simp [wpOpsS,go_sem,recoverD,hu,Tryz.ntmps53,Exit.thenS]
 apply wpS_of_wp
 go_wp2
 cases c₀
 simp_all [bodyPostS,results,Tryz.results53]
def zzm:Value->Nat| .string b=>b.size|_=>0
theorem zjr(p:Addr)(bf:Nat)(u:Value)(w:World)(hc:(w.alloc (.cells #[.pointer (some ⟨bf,0,none⟩)] 145)).cell? p=some u)(hz:(w.alloc (.cells #[.pointer (some ⟨bf,0,none⟩)] 145)).frozen? p=false):
  CallsD Tryz.prog 53 #[.pointer (some p)] (.panicking (zga bf)) w λe u' w'=>e= .returned (.tuple #[])/\u'= .panicking [{v:= .iface 145 (.agg #[.pointer (some ⟨bf,0,none⟩)]),recovered:=true}]/\w'=((w.alloc (.cells #[.pointer (some ⟨bf,0,none⟩)] 145)).setCell p (.iface 66 (.pointer (some ⟨bf,0,none⟩)))):=by
 have hta: ∀x w,(Instr.typeAssert (.iface 145 x) 20 145 true).run Tryz.prog w= .ok (.tuple #[x, .bool true]) w:=λ_ _=>by kernel_rfl
 refine callsD_of_wpS Tryz.func53 rfl λc₀ cs hu=>?_
 apply wpS_seq
 apply wpS_region
 simp [wpOpsS,go_sem,recoverD,hu,Tryz.ntmps53,Exit.thenS]
 apply wpS_of_wp
 go_wp2
 cases c₀
 simp_all [bodyPostS,results,Tryz.results53]
theorem ya9(W:World)(s:ByteArray)(most:Int)(tk bt:Nat)(Inv:List UInt8->Nat->World->Prop)(Bad:Nat->World->Prop)
  (hs:(s.size:Int)<=most) (hs2:s.size<=1000000)
  (hent: ∀args w,(callFunc tk args).run Tryz.prog w= .ok (.enter tk args) w)
  (h0:Hid (Inv s.data.toList 0 (W.alloc (.cells #[.nilIface] 45))))
  (hcut:Hid (∀(r:List UInt8) (j:Nat) (w:World),r.length<=s.size->Inv r j w->Cl 54 #[.string ⟨r.toArray⟩, .string ⟨#[10]⟩] w λe w'=>e= .returned (.tuple #[.string ⟨(Lib.cut r [10]).1.toArray⟩, .string ⟨(Lib.cut r [10]).2.1.toArray⟩, .bool (Lib.cut r [10]).2.2])/\ ∃n,w'=w.drewN n))
  (hsplit:Hid (∀(r:List UInt8) (j:Nat) (w:World) (l:List UInt8) (n:Nat),Inv r j w->l.length<=s.size->Cl 55 #[.string ⟨l.toArray⟩, .string ⟨#[32]⟩] (w.drewN n) λe w'=>e= .returned (.slice (some ⟨w.heap.size,0,none⟩) (Ql l).length (Ql l).length)/\w'=(w.drewN n).alloc (.cells ((Ql l).map Value.string).toArray 9)))
  (hstep:Hid (∀(r:List UInt8) (j:Nat) (w:World),Inv r j w->(r≠[]\/j=0)->∃l r' b,Lib.cut r [10]=(l,r',b)/\l.length<=r.length/\
   (b=true->r'.length<r.length/\ ∀n,Cl tk #[ptr (w.heap.size+1),ptr bt] (((w.drewN n).alloc (.cells ((Ql l).map Value.string).toArray 9)).alloc (.cells #[.int .i64 (j+1), .slice (some ⟨w.heap.size,0,none⟩) (Ql l).length (Ql l).length] 150)) λe w2=>(e= .returned (.tuple #[])/\Inv r' (j+1) w2)\/ ∃bf,e= .panicked (zga bf)/\Bad bf w2)/\
   (b=false->∀n bf w2,Fails 2 (j+1) (w.heap.size+1) (((w.drewN n).alloc (.cells ((Ql l).map Value.string).toArray 9)).alloc (.cells #[.int .i64 (j+1), .slice (some ⟨w.heap.size,0,none⟩) (Ql l).length (Ql l).length] 150)) (.panicked (zga bf)) w2->Bad bf w2)))
  (herr:Hid (∀r j w,Inv r j w->w.cell? ⟨W.heap.size,0,none⟩=some .nilIface/\w.frozen? ⟨W.heap.size,0,none⟩=false))
  (hbad:Hid (∀bf w,Bad bf w->W.heap.size<w.heap.size/\w.cell? ⟨W.heap.size,0,none⟩=some .nilIface/\w.frozen? ⟨W.heap.size,0,none⟩=false)):
  Cl 36 #[.string s, .int .i64 most, .func (.func tk) #[] #[ptr bt]] W λe w'=>(e= .returned .nilIface/\ ∃j w1,j≠0/\Inv [] j w1/\w'=w1.setCell ⟨W.heap.size,0,none⟩ .nilIface)\/
   ∃bf w2,e= .returned (.iface 66 (ptr bf))/\Bad bf w2/\w'=(w2.alloc (.cells #[ptr bf] 145)).setCell ⟨W.heap.size,0,none⟩ (.iface 66 (ptr bf)):=by
 have hs': ¬most<(s.size:Int):=yum
 have hmf: ∀(fn:Fn) (first cap:Array Value) (w:World),(Instr.makeFunc fn first cap).run Tryz.prog w= .ok (.func fn first cap) w:=λ_ _ _ _=>rfl
 have hfall: ∀(bf:Nat) (w2:World) (tm:Array Value),Hid (tm[6]?.getD undef= .pointer (some ⟨W.heap.size,0,none⟩))->Bad bf w2->bodyPostD Tryz.prog Tryz.f36 (λe w'=>(e= .returned .nilIface/\ ∃j w1,j≠0/\Inv [] j w1/\w'=w1.setCell ⟨W.heap.size,0,none⟩ .nilIface)\/
   ∃bf w2,e= .returned (.iface 66 (ptr bf))/\Bad bf w2/\w'=(w2.alloc (.cells #[ptr bf] 145)).setCell ⟨W.heap.size,0,none⟩ (.iface 66 (ptr bf))) (.panic (zga bf)) {tmps:=tm,defers:=[{target:= .fn (.func 53) #[.pointer (some ⟨W.heap.size,0,none⟩)],args:=#[]}]} w2:=by
  intro bf w2 tm htm hB
  obtain ⟨b1,b2,b3⟩:=hbad.out bf w2 hB
  have c2:(w2.alloc (.cells #[.pointer (some ⟨bf,0,none⟩)] 145)).cell? ⟨W.heap.size,0,none⟩=some .nilIface:=(World.cell?_alloc_past _ _ _ b1).trans b2
  refine leaves_cons (f:=53) (args:=#[.pointer (some ⟨W.heap.size,0,none⟩)]) yun yuy ?_
  refine (zjr ⟨W.heap.size,0,none⟩ bf .nilIface w2 c2 ((World.frozen?_alloc_past _ _ _ b1).trans b3)).mono ?_
  rintro e u' w'' ⟨rfl,rfl,rfl⟩
  refine ⟨.iface 66 (ptr bf),?_, .inr ⟨bf,w2,rfl,hB,rfl⟩⟩
  have h6:=htm.out
  simp [results,Tryz.results36,go_sem,h6,World.cell?_setCell_same _ _ _ c2]
 have HF:=hid hfall
 clear hfall
 go_enter_defers Tryz.func36,Tryz.ntmps36
 go_wp2
 go_loopw [0,7] (λv0 v7 wr=>∃(r:List UInt8) (j:Nat),v0= .string ⟨r.toArray⟩/\v7= .int .i64 (j+1)/\Inv r j wr/\j+r.length<=s.size) (λv0 _ _=>zzm v0)
 case atStart=>exact ⟨s.data.toList,0,by simp,rfl,h0.out,by simp⟩
 case round=>exact yry
theorem yaa(W:World)(s:ByteArray)(Post:World->Prop)
  (hread:Hid (Cl 36 #[.string s, .int .i64 131072, .func (.func 49) #[] #[ptr W.heap.size]] (W.alloc (.cells #[.slice none 0 0] 72)) λe w'=>e= .returned .nilIface/\Post w'/\ ∃a k c,w'.cell? ⟨W.heap.size,0,none⟩=some (.slice a k c))):
  Cl 31 #[.string s] W λe w'=>∃a k c,e= .returned (.tuple #[.slice a k c, .nilIface])/\w'.cell? ⟨W.heap.size,0,none⟩=some (.slice a k c)/\Post w':=by
 have hmf: ∀(fn:Fn) (first cap:Array Value) (w:World),(Instr.makeFunc fn first cap).run Tryz.prog w= .ok (.func fn first cap) w:=λ_ _ _ _=>rfl
 go_enter Tryz.func31,Tryz.ntmps31
 go_wp2_with fail
 refine hread.out.mono ?_
 rintro e w1 ⟨rfl,hp,a,k,c,hc⟩
 have HP:=hid hp
 clear hp hread
 go_wp2
 go_ret2
 exact ⟨a,k,c,rfl,hc,HP.out⟩
theorem zqj{P:Program}{ops:Array Oper}{o:Oper}{a:Act}{K:Act->World->Prop}{Q:Exit->Act->World->Prop}{E:Prop}(hgd:o.guard=none)(s x:Operand)(t:TypeId)
  (ho:o.op= .call {callee:= .builtin .append,args:=#[s,x],argTypes:=#[t,t]})
  (e:TypeId) (i:TypeInfo) (z:Value) (bytes:Nat) (ht:P.underlying t=some (.slice e)) (hi:P.info? e=some i) (hz:i.zero=some z) (hsize:i.size=1) (hby:i.bytes=bytes) (hzs:z.cells.size=1)
  (v:Value) (n:Nat) (xs:List Value) (hs:a.eval s=v) (hown:w.ownsRow 0 e 1 v n xs) (ad:Addr) (u:Value) (hx:a.eval x= .slice (some ad) 1 1) (hu: ∀j u',[u][j]?=some u'->w.cell? (ad.add j)=some u') (hu1:u.oneCell'=true) (h63:n+1<=maxLen) (hbytes:(n+1)*bytes<=140737488355328)
  (h: ∀g cap w',w'.ownsRow 0 e 1 (.slice (some ⟨g,0,none⟩) (n+1) cap) (n+1) (xs++[u])->Chg (λk _=>v.ownBlock=some k) w w'->(v.ownBlock=some g\/g=w.heap.size)->K (a.put o.dst (.slice (some ⟨g,0,none⟩) (n+1) cap)) w'):
  if Region.wanted o (yielded ops a.tmps)=true then Oper.wp P o a w K Q else E:=by
 have hw:Region.wanted o (yielded ops a.tmps)=true:=by simp [Region.wanted,hgd]
 rw [if_pos hw]
 obtain ⟨g,cap,w',hr,h2,h3,h4⟩:=zlx (P:=P) w t o.type e i z bytes ht hi hz hsize hby hzs v n xs hown ad u hu hu1 h63 hbytes
 unfold Oper.wp execOp
 simp only [ho,resolve,invoke,builtin,Sem.run_bind,Sem.run_pure,Result.andThen_ok,List.map_toArray,List.map_cons,List.map_nil,hs,hx,hr]
 exact h g cap w' h2 h3 h4
theorem yg4{u:Value}(hc:Chg (λj _=>tv.ownBlock=some j) ((wr.drew.alloc o1).alloc o2) w3)(h5:tv.ownBlock≠some bm)(hlt:bm<wr.heap.size)(h:wr.cell? ⟨bm,256,none⟩=some u):w3.cell? ⟨bm,256,none⟩=some u:=
 (hc.cell bm 256 yur h5).trans ((World.cell?_alloc_past _ _ _ yur).trans ((World.cell?_alloc_past (w:=wr.drew) _ _ _ hlt).trans h))
theorem yg5(hc:Chg (λj _=>tv.ownBlock=some j) ((wr.drew.alloc o1).alloc o2) w3)(hlt:bm<wr.heap.size)(h:wr.frozen? ⟨bm,256,none⟩=false):w3.frozen? ⟨bm,256,none⟩=false:=
 (hc.frozen bm 256 yur).trans ((World.frozen?_alloc_past _ _ _ yur).trans ((World.frozen?_alloc_past (w:=wr.drew) _ _ _ hlt).trans h))
theorem yh5:(Tryz.prog.info? 54).map (λi=>(i.zero,i.size,i.bytes))=some (some (.pointer none),1,8):=yuo
theorem yej(W:World)(s:ByteArray)(n:Nat)(hn:n<100000)(Start:Nat->World->Prop)(Inv:Nat->Nat->Nat->World->Prop)
  (hread:Hid (Cl 31 #[.string s] W λe w'=>∃g cap,e= .returned (.tuple #[.slice (some ⟨g,0,none⟩) n cap, .nilIface])/\n<=cap/\Start g w'))
  (h0:Hid (∀g w,Start g w->Inv g w.heap.size 0 (w.alloc (.cells Tryz.zeroCells59 59))))
  (hk:Hid (∀g bm k w,Inv g bm k w->k<n->∃a m c tv xs,w.cell? ⟨g,k,none⟩=some (.slice a m c)/\w.cell? ⟨bm,256,none⟩=some tv/\w.frozen? ⟨bm,256,none⟩=false/\w.ownsRow 0 54 1 tv k xs/\tv.ownBlock≠some bm/\bm<w.heap.size/\
    ∀q cp w3,w3.ownsRow 0 54 1 (.slice (some ⟨q,0,none⟩) (k+1) cp) (k+1) (xs++[ptr w.heap.size])->Chg (λj _=>tv.ownBlock=some j) ((w.drew.alloc (.cells (z7w bm (.slice a m c)) 86)).alloc (.cells #[ptr w.heap.size] 54)) w3->(tv.ownBlock=some q\/q=w.heap.size+2)->Inv g bm (k+1) (w3.setCell ⟨bm,256,none⟩ (.slice (some ⟨q,0,none⟩) (k+1) cp)))):
  Cl 22 #[.string s] W λe w'=>∃g bm,e= .returned (.tuple #[ptr bm, .nilIface])/\Inv g bm n w':=by
 obtain ⟨i0,hi,hz0,hz1,hz2⟩:=info_parts yh5
 go_enter Tryz.func22,Tryz.ntmps22
 go_wp2_with fail
 refine hread.out.mono ?_
 rintro e w1 ⟨g,cap,rfl,hnc,hp⟩
 have HP:=hid (h0.out g w1 hp)
 clear hp hread h0
 go_wp2
 go_loopw [21] (λv wr=>∃k:Nat,k<=n/\v= .int .i64 k/\Inv g w1.heap.size k wr) (λv _=>n- (intOf v).toNat)
 case atStart=>exact ⟨0,by omega,rfl,HP.out⟩
 case round=>
  obtain ⟨k,hkn,rfl,hI⟩:=hrel
  have HI:=hid hI
  clear hI HP
  by_cases hlt:k<n
  ·have hlt':(k:Int)<n:=by omega
   obtain ⟨a,m,c,tv,xs,q1,q2,q3,q4,q5,q6,q7⟩:=hk.out _ _ _ _ HI.out hlt
   have Q4:=hid q4
   have Q7:=hid q7
   have Q5:=hid q5
   have hl1:k+1<=maxLen:=yus
   have hl2:(k+1)*8<=140737488355328:=yum
   have O1:Hid (((wr.drew.alloc (.cells (z7w w1.heap.size (.slice a m c)) 86)).alloc (.cells #[ptr wr.heap.size] 54)).ownsRow 0 54 1 tv k xs):=(World.ownsRow.alloc (World.ownsRow.alloc (w:=wr.drew) q4 _) _)
   have C1:Hid (∀j u',[ptr wr.heap.size][j]?=some u'->((wr.drew.alloc (.cells (z7w w1.heap.size (.slice a m c)) 86)).alloc (.cells #[ptr wr.heap.size] 54)).cell? ((⟨wr.heap.size+1,0,none⟩:Addr).add j)=some u'):=by
    have:=cell_one_new (wr.drew.alloc (.cells (z7w w1.heap.size (.slice a m c)) 86)) (ptr wr.heap.size) 54
    have hs:(wr.drew.alloc (.cells (z7w w1.heap.size (.slice a m c)) 86)).heap.size=wr.heap.size+1:=yun
    rw [hs] at this
    exact this
   clear q4 q7 q5 HI hk
   go_wp2_with fail
   go_region_law (first
    |(go_simp;go_at_call 32;refine (ya8 _ _ _ _ _).mono ?_;rintro e w' ⟨rfl,rfl⟩)
    |(refine zqj rfl (.tmp 29) (.tmp 35) 57 rfl 54 i0 (.pointer none) 8 Tryz.underlying57 hi hz0 hz1 hz2 rfl tv k xs rfl O1.out ⟨wr.heap.size+1,0,none⟩ (ptr wr.heap.size) rfl C1.out rfl hl1 hl2 ?_;intro q cp w3 ho hc hg;have hcb:=yg4 hc Q5.out q6 q2;have hfb:=yg5 hc q6 q3;have HO:=hid ho;have HC:=hid hc;have HG:=hid hg;clear ho hc hg))
   all_goals
    go_wp2
    go_roundw
    case rel=>exact ⟨k+1,by omega,by go_num,Q7.out q cp w3 HO.out HC.out (HG.out.imp id (λe=>e.trans yun))⟩
    case measure=>simp [intOf];omega
  ·have hlt': ¬(k:Int)<n:=by omega
   obtain rfl:k=n:=yum
   go_wp2
   go_ret2
   exact ⟨_,_,rfl,HI.out⟩
theorem Fi(w:World)(cs:Array Value)(t:TypeId):(w.alloc (.cells cs t)).shape? w.heap.size=some (t,cs.size):=ytb
section
variable{W:World}{wd:Nat->ByteArray}{cs:List (List Ic)}{r:List UInt8}{j:Nat}{w:World}
end
theorem yc7: ∀args w,(callFunc 49 args).run Tryz.prog w= .ok (.enter 49 args) w:=λ_ _=>by kernel_rfl
theorem yar:Tryz.zeroCells59=(Array.replicate 256 (.int .i64 0)).push (.slice none 0 0):=yuo
theorem ygg(w:World):MemAt (w.alloc (.cells Tryz.zeroCells59 59)) w.heap.size (λ_=>0)/\(w.alloc (.cells Tryz.zeroCells59 59)).cell? ⟨w.heap.size,256,none⟩=some (.slice none 0 0):=by
 refine ⟨⟨?_,?_,λj _=>by simp⟩,?_⟩
 ·rw [Fi,yar];simp
 ·intro j hj
  rw [World.cell?_alloc_new,yar,Array.getElem?_push_lt yuz]
  simp
 ·rw [World.cell?_alloc_new,yar,Array.getElem?_push];simp
section
variable(W:World)(cs:List (List Ic))
def yh6(g bm k:Nat)(w:World):Prop:=∃(cap:Nat) (xs:List Value) (bs:List Nat) (tv:Value),RowsAt W.heap.size w (.slice (some ⟨g,0,none⟩) cs.length cap) cs xs/\Below W.heap.size W w/\W.heap.size<=bm/\MemAt w bm (λ_=>0)/\w.cell? ⟨bm,256,none⟩=some tv/\w.ownsRow 0 54 1 tv k (bs.map ptr)/\
 (∀q,tv.ownBlock=some q->W.heap.size<=q)/\(∀(j b:Nat),bs[j]?=some b->W.heap.size<=b/\ ∃iv,xs[j]?=some iv/\ThAt w b bm iv (.slice none 0 0) Th.init)/\bs.Nodup
variable{W cs}
theorem yc8{cap:Nat}{xs:List Value}(h:RowsAt W.heap.size w (.slice (some ⟨g,0,none⟩) cs.length cap) cs xs)(hb:Below W.heap.size W w):yh6 W cs g w.heap.size 0 (w.alloc (.cells Tryz.zeroCells59 59)):=by
 have hc:Chg (λ_ _=>False) w (w.alloc (.cells Tryz.zeroCells59 59)):=(Chg.refl _ w).alloc _
 exact ⟨cap,xs,[], .slice none 0 0,h.keep hc (λ_ _ _ e=>e),hb.alloc hb.size _,hb.size,(ygg w).1,(ygg w).2,yei _ _,λq hq=>by simp [Value.ownBlock] at hq,λj b hj=>by simp at hj,List.nodup_nil⟩
theorem yek{k:Nat}(h:yh6 W cs g bm k w)(hk:k<cs.length): ∃a m c tv xs,w.cell? ⟨g,k,none⟩=some (.slice a m c)/\w.cell? ⟨bm,256,none⟩=some tv/\w.frozen? ⟨bm,256,none⟩=false/\w.ownsRow 0 54 1 tv k xs/\tv.ownBlock≠some bm/\bm<w.heap.size/\
  ∀q cp w3,w3.ownsRow 0 54 1 (.slice (some ⟨q,0,none⟩) (k+1) cp) (k+1) (xs++[ptr w.heap.size])->Chg (λj _=>tv.ownBlock=some j) ((w.drew.alloc (.cells (z7w bm (.slice a m c)) 86)).alloc (.cells #[ptr w.heap.size] 54)) w3->(tv.ownBlock=some q\/q=w.heap.size+2)->yh6 W cs g bm (k+1) (w3.setCell ⟨bm,256,none⟩ (.slice (some ⟨q,0,none⟩) (k+1) cp)):=by
 obtain ⟨cap,xs,bs,tv,h1,h2,h3,h4,h5,h6,h7,h8,h9⟩:=h
 have hlen:=h1.len
 obtain ⟨iv,hiv⟩: ∃iv,xs[k]?=some iv:=⟨_,List.getElem?_eq_getElem yum⟩
 obtain ⟨co,hco,hrow⟩:=h1.row k iv hiv
 obtain ⟨a,m,c,rfl⟩: ∃a m c,iv= .slice a m c:=by
  rcases hrow.2 with ⟨e1,_⟩|⟨g',cap',cur,e1,_⟩
  ·exact ⟨_,_,_,e1⟩
  ·exact ⟨_,_,_,e1⟩
 have hbl:bs.length=k:=by have:=h6.1;simp at this;omega
 have htm:tv.ownBlock≠some bm:=λe=>by
  obtain ⟨n,hs⟩:=z7e h6 bm e
  rw [h4.sh] at hs
  simp at hs
 have hgc:=(Qm h1.own k hk).1.trans hiv
 refine ⟨a,m,c,tv,bs.map ptr,hgc,h5,h4.free 256 yum,h6,htm,h4.lt,?_⟩
 intro q cp w3 ho hc hq
 have d1:Chg (λj (_:Nat)=>tv.ownBlock=some j) w ((w.drew.alloc (.cells (z7w bm (.slice a m c)) 86)).alloc (.cells #[ptr w.heap.size] 54)):=(((Chg.refl _ w).drew).alloc _).alloc _
 have d2:Chg (λj (_:Nat)=>tv.ownBlock=some j) w w3:=d1.trans hc
 have d3:Chg (λj i=>j=bm/\i=256) w3 (w3.setCell ⟨bm,256,none⟩ (.slice (some ⟨q,0,none⟩) (k+1) cp)):=(Chg.refl _ w3).setCell (λ_=>⟨rfl,rfl⟩) _
 have d4:Chg (λj i=>tv.ownBlock=some j\/(j=bm/\i=256)) w (w3.setCell ⟨bm,256,none⟩ (.slice (some ⟨q,0,none⟩) (k+1) cp)):=(d2.mono (λ_ _ _ e=> .inl e)).trans (d3.mono (λ_ _ _ e=> .inr e))
 have hbm3:bm<w3.heap.size:=Nat.lt_of_lt_of_le h4.lt d2.size
 have hsq: ∃n,w3.shape? q=some (54,n):=z7e ho q rfl
 have hqb:q≠bm:=λe=>by
  obtain ⟨n,hs⟩:=hsq
  rw [e,d2.shape bm h4.lt,h4.sh] at hs
  simp at hs
 have hwq:W.heap.size<=q:=by
  rcases hq with e|e
  ·exact h7 q e
  ·have:=h2.size;omega
 have hrowy: ∀j i,yis w j->¬(tv.ownBlock=some j\/(j=bm/\i=256)):=by
  rintro j i hr (e|e)
  ·obtain ⟨n,hs⟩:=z7e h6 j e
   exact z72 hs yup yup hr
  ·exact z72 (e.1▸h4.sh) yup yup hr
 have hcell256:w3.cell? ⟨bm,256,none⟩=some tv:=(d2.cell bm 256 h4.lt htm).trans h5
 refine ⟨cap,xs,bs++[w.heap.size], .slice (some ⟨q,0,none⟩) (k+1) cp,h1.keep d4 hrowy,h2.trans (d4.below h2.size ?_),h3,h4.keep d4 ?_,Qg hcell256 rfl,?_,?_,?_,?_⟩
 ·rintro j i (e|e)
  ·exact h7 j e
  ·omega
 ·rintro i hi (e|e)
  ·exact htm e
  ·omega
 ·refine Qc ?_ d3 (λg' hg' i e=>?_)
  ·simpa using ho
  ·simp [Value.ownBlock] at hg'
   exact hqb (hg'.trans e.1)
 ·intro q' hq'
  simp [Value.ownBlock] at hq'
  omega
 ·intro j b hj
  rw [List.getElem?_append] at hj
  split at hj
  ·obtain ⟨e1,iv',e2,e3⟩:=h8 j b hj
   refine ⟨e1,iv',e2,e3.keep d4 ?_ (λg' hg'=>by simp [Value.ownBlock] at hg')⟩
   rintro i (e|e)
   ·obtain ⟨n,hs⟩:=z7e h6 b e
    rw [e3.sh] at hs
    simp at hs
   ·exact e3.ne h4 e.1
  ·rename_i hlt
   have hjk:j=k:=by
    have:=(List.getElem?_eq_some_iff.1 hj).1
    simp at this
    omega
   subst hjk
   simp [hbl] at hj
   subst hj
   refine ⟨h2.size,_,hiv,?_⟩
   have t0:ThAt (w.drew.alloc (.cells (z7w bm (.slice a m c)) 86)) w.heap.size bm (.slice a m c) (.slice none 0 0) Th.init:=yfs w.drew bm (.slice a m c)
   have t1:=t0.below (w':=(w.drew.alloc (.cells (z7w bm (.slice a m c)) 86)).alloc (.cells #[ptr w.heap.size] 54)) ((Below.refl _ _).alloc (Nat.le_refl _) _)
   have t2:=t1.keep hc (λi e=>by
    obtain ⟨n,hs⟩:=z7e h6 w.heap.size e
    have:=Qd hs
    omega) (λg' hg'=>by simp [Value.ownBlock] at hg')
   exact t2.keep d3 (λi e=>by have:=h4.lt;omega) (λg' hg'=>by simp [Value.ownBlock] at hg')
 ·refine List.nodup_append.2 ⟨h9,by simp,?_⟩
  intro x hx y hy
  simp at hy
  subst hy
  obtain ⟨j,hj,rfl⟩:=List.mem_iff_getElem.1 hx
  obtain ⟨_,iv',_,e3⟩:=h8 j bs[j] (List.getElem?_eq_getElem hj)
  have:=e3.lt
  omega
theorem yfv(h:yh6 W cs g bm cs.length w)(hne:0<cs.length):MRep (λk=>W.heap.size<=k) w bm (cs.map λc=>(Th.init,c)) (λ_=>0)/\Below W.heap.size W w:=by
 obtain ⟨cap,xs,bs,tv,h1,h2,h3,h4,h5,h6,h7,h8,h9⟩:=h
 have hlen:=h1.len
 have hbl:bs.length=cs.length:=by have:=h6.1;simp at this;omega
 have hts: ∀i (hi:i<(bs.zip (xs.zip cs)).length),i<bs.length/\i<xs.length/\i<cs.length:=by
  intro i hi;simp at hi;omega
 refine ⟨⟨(bs.zip (xs.zip cs)).map λp=>{b:=p.1,iv:=p.2.1,ov:= .slice none 0 0,T:=Th.init,code:=p.2.2},?_,?_⟩,h2⟩
 ·have hl:((bs.zip (xs.zip cs)).map λp=>({b:=p.1,iv:=p.2.1,ov:= .slice none 0 0,T:=Th.init,code:=p.2.2}:Tr)).length=cs.length:=by simp;omega
  have hget: ∀i (hi:i<((bs.zip (xs.zip cs)).map λp=>({b:=p.1,iv:=p.2.1,ov:= .slice none 0 0,T:=Th.init,code:=p.2.2}:Tr)).length),((bs.zip (xs.zip cs)).map λp=>({b:=p.1,iv:=p.2.1,ov:= .slice none 0 0,T:=Th.init,code:=p.2.2}:Tr))[i]={b:=bs[i]'(by omega),iv:=xs[i]'(by omega),ov:= .slice none 0 0,T:=Th.init,code:=cs[i]'(by omega)}:=by
   intro i hi;simp
  refine ⟨h4,?_,?_,?_,?_,h3,?_,?_⟩
  ·rcases h6.2 with ⟨_,e⟩|⟨bt,cp,cur,e1,_,e3,_⟩
   ·omega
   ·subst e1
    obtain ⟨n,hs⟩:=z7e h6 bt rfl
    refine ⟨bt,cp,n,by rw [h5,hl],⟨hs,h7 bt rfl⟩,?_⟩
    intro i hi
    have hi':i<bs.length:=yum
    rw [(Qm h6 i yum).1,hget i hi]
    simp [hi']
  ·intro i hi
   rw [hget i hi]
   obtain ⟨_,iv,e1,e2⟩:=h8 i (bs[i]'(by omega)) (List.getElem?_eq_getElem yum)
   rw [List.getElem?_eq_getElem yum] at e1
   cases e1
   exact e2
  ·intro i hi
   rw [hget i hi]
   have hxi:=List.getElem?_eq_getElem (l:=xs) (i:=i) yum
   obtain ⟨co,e1,e2⟩:=h1.row i _ hxi
   rw [List.getElem?_eq_getElem yum] at e1
   cases e1
   show ycg _ _ (xs[i]'(by omega)) (cs[i]'(by omega))
   have hlow:=h1.lowr i _ hxi
   generalize (xs[i]'(by omega))=iv at e2 hlow
   rcases e2.2 with ⟨q1,q2⟩|⟨bi,cp,cur,q1,_⟩
   ·exact .inl ⟨q1,List.length_eq_zero_iff.1 q2⟩
   ·subst q1
    obtain ⟨n,hs⟩:=z7e e2 bi rfl
    refine .inr ⟨bi,cp,n,rfl,⟨hs,hlow bi rfl⟩,?_⟩
    intro j hj
    rw [(Qm e2 j hj).1]
    simp [hj]
  ·intro i j hi hj hij
   rw [hget i hi,hget j hj]
   refine ⟨λe=>?_,λk hk=>by simp [Value.ownBlock] at hk⟩
   rcases Nat.lt_or_gt_of_ne hij with hlt|hlt
   ·exact (List.pairwise_iff_getElem.1 h9) i j yum yum hlt e
   ·exact (List.pairwise_iff_getElem.1 h9) j i yum yum hlt e.symm
  ·intro i hi
   rw [hget i hi]
   exact (h8 i (bs[i]'(by omega)) (List.getElem?_eq_getElem yum)).1
  ·intro i hi k hk
   rw [hget i hi] at hk
   simp [Value.ownBlock] at hk
 ·apply List.ext_getElem
  ·simp;omega
  ·intro i h1 h2
   simp
end
theorem zhk(h:Jt u=some r):r<8:=by
 unfold Jt at h
 split at h
 ·split at h
  ·rename_i hc;simp at h;omega
  ·simp at h
 ·simp at h
theorem zdn(h:zhi ws=some (r,ws1)):r<8:=by
 cases ws with
 |nil=>simp [zhi] at h
 |cons u ws=>
  simp [zhi] at h
  obtain ⟨r',h1,rfl,_⟩:=h
  exact zhk h1
theorem Gz{x:Vl}(h:zbp ws=some (x,ws1)):x.ok:=by
 cases ws with
 |nil=>simp [zbp] at h
 |cons u ws=>
  simp only [zbp] at h
  split at h
  ·rename_i r hr
   simp at h
   obtain ⟨rfl,_⟩:=h
   intro _
   have:=zhk hr
   show (0:Int)<=(r:Int)/\(r:Int)<8
   omega
  ·simp at h
   obtain ⟨v,_,rfl,_⟩:=h
   intro h
   simp at h
theorem zc1{c:Vl×Int}(h:Ez ws=some (c,ws1)):c.1.ok:=by
 unfold Ez at h
 cases h1:zbp ws with
 |none=>simp [h1] at h
 |some q=>
  cases h2:zco q.2 with
  |none=>simp [h1,h2] at h
  |some q2=>
   simp [h1,h2] at h
   obtain ⟨rfl,_⟩:=h
   exact Gz (ws1:=q.2) h1
theorem z18(v:Int):(⟨false,v⟩:Vl).ok:=λh=>by simp at h
theorem zzn{ic:Ic}(h:zbm u ws=some (ic,ws1)):okI ic:=by
 have z:=z18 0
 unfold zbm at h
 split at h
 ·rename_i k hk
  have hop:=(zhj hk).1
  unfold gop at h
  cases h1:zhi ws with
  |none=>simp [h1] at h
  |some p1=>
   cases h2:zbp p1.2 with
   |none=>simp [h1,h2] at h
   |some p2=>
    cases h3:zbp p2.2 with
    |none=>simp [h1,h2,h3] at h
    |some p3=>
     simp [h1,h2,h3] at h
     obtain ⟨rfl,_⟩:=h
     exact ⟨zdn (ws1:=p1.2) h1,Gz (ws1:=p2.2) h2,Gz (ws1:=p3.2) h3,z, .inr (.inr (.inr (.inr (.inr (.inr (.inr (.inr (.inr (.inl ⟨rfl,hop⟩)))))))))⟩
 ·split at h
  ·unfold zly at h
   cases h1:zhi ws with
   |none=>simp [h1] at h
   |some p1=>
    cases h2:zbp p1.2 with
    |none=>simp [h1,h2] at h
    |some p2=>
     simp [h1,h2] at h
     obtain ⟨rfl,_⟩:=h
     exact ⟨zdn (ws1:=p1.2) h1,Gz (ws1:=p2.2) h2,z,z, .inr (.inr (.inr (.inr (.inr (.inr (.inr (.inr (.inl rfl))))))))⟩
  split at h
  ·unfold Ia at h
   cases h1:zhi ws with
   |none=>simp [h1] at h
   |some p1=>
    cases h2:Ez p1.2 with
    |none=>simp [h1,h2] at h
    |some p2=>
     simp [h1,h2] at h
     obtain ⟨rfl,_⟩:=h
     exact ⟨zdn (ws1:=p1.2) h1,zc1 (ws1:=p2.2) h2,z,z, .inl rfl⟩
  split at h
  ·unfold Xq at h
   cases h1:Ez ws with
   |none=>simp [h1] at h
   |some p1=>
    cases h2:zbp p1.2 with
    |none=>simp [h1,h2] at h
    |some p2=>
     simp [h1,h2] at h
     obtain ⟨rfl,_⟩:=h
     exact ⟨show 0<8 by decide,zc1 (ws1:=p1.2) h1,Gz (ws1:=p2.2) h2,z, .inr (.inl rfl)⟩
  split at h
  ·unfold zdj at h
   cases h1:zhi ws with
   |none=>simp [h1] at h
   |some p1=>
    cases h2:Ez p1.2 with
    |none=>simp [h1,h2] at h
    |some p2=>
     cases h3:zbp p2.2 with
     |none=>simp [h1,h2,h3] at h
     |some p3=>
      cases h4:zbp p3.2 with
      |none=>simp [h1,h2,h3,h4] at h
      |some p4=>
       simp [h1,h2,h3,h4] at h
       obtain ⟨rfl,_⟩:=h
       exact ⟨zdn (ws1:=p1.2) h1,zc1 (ws1:=p2.2) h2,Gz (ws1:=p3.2) h3,Gz (ws1:=p4.2) h4, .inr (.inr (.inl rfl))⟩
  split at h
  ·unfold Fh at h
   cases h1:zhi ws with
   |none=>simp [h1] at h
   |some p1=>
    cases h2:Ez p1.2 with
    |none=>simp [h1,h2] at h
    |some p2=>
     cases h3:zbp p2.2 with
     |none=>simp [h1,h2,h3] at h
     |some p3=>
      simp [h1,h2,h3] at h
      obtain ⟨rfl,_⟩:=h
      exact ⟨zdn (ws1:=p1.2) h1,zc1 (ws1:=p2.2) h2,Gz (ws1:=p3.2) h3,z, .inr (.inr (.inr (.inl rfl)))⟩
  split at h
  ·simp [zfh] at h
   obtain ⟨rfl,_⟩:=h
   exact ⟨show 0<8 by decide,z,z,z, .inr (.inr (.inr (.inr (.inl rfl))))⟩
  split at h
  ·unfold zqg at h
   cases h1:zbp ws with
   |none=>simp [h1] at h
   |some p1=>
    simp [h1] at h
    obtain ⟨rfl,_⟩:=h
    exact ⟨show 0<8 by decide,Gz (ws1:=p1.2) h1,z,z, .inr (.inr (.inr (.inr (.inr (.inl rfl)))))⟩
  split at h
  ·unfold zqh at h
   cases h1:gIn 0 4000 ws with
   |none=>simp [h1] at h
   |some p1=>
    simp [h1] at h
    obtain ⟨rfl,_⟩:=h
    exact ⟨show 0<8 by decide,z,z,z, .inr (.inr (.inr (.inr (.inr (.inr (.inl rfl))))))⟩
  split at h
  ·unfold gjz at h
   cases h1:zbp ws with
   |none=>simp [h1] at h
   |some p1=>
    cases h2:gIn 0 4000 p1.2 with
    |none=>simp [h1,h2] at h
    |some p2=>
     simp [h1,h2] at h
     obtain ⟨rfl,_⟩:=h
     exact ⟨show 0<8 by decide,Gz (ws1:=p1.2) h1,z,z, .inr (.inr (.inr (.inr (.inr (.inr (.inr (.inr (.inr (.inr rfl)))))))))⟩
  split at h
  ·unfold zgb at h
   cases h1:gIn 1 9 ws with
   |none=>simp [h1] at h
   |some p1=>
    simp [h1] at h
    obtain ⟨rfl,_⟩:=h
    exact ⟨show 0<8 by decide,z,z,z, .inr (.inr (.inr (.inr (.inr (.inr (.inr (.inl rfl)))))))⟩
  split at h
  ·simp [znz] at h
   obtain ⟨rfl,_⟩:=h
   exact ⟨show 0<8 by decide,z,z,z, .inr (.inr (.inr (.inr (.inr (.inr (.inr (.inl rfl)))))))⟩
  ·simp at h
def zqk(acc:List (List Ic)):Prop:=acc.length<=3/\ ∀c∈acc,c.length<=4000/\ ∀i∈c,okI i
theorem zu8{acc acc':List (List Ic)}(h:Gj ws acc= .ok acc')(ha:zqk acc):zqk acc'/\acc'≠[]:=by
 unfold Gj at h
 split at h
 ·simp at h
 ·split at h
  ·split at h
   ·split at h
    ·simp at h
    ·simp at h
     subst h
     refine ⟨⟨?_,?_⟩,by simp⟩
     ·have:=ha.1;simp;omega
     ·intro c hc
      simp at hc
      rcases hc with hc|rfl
      ·exact ha.2 c hc
      ·exact ⟨by simp,λi hi=>by simp at hi⟩
   ·simp at h
  ·split at h
   ·simp at h
   ·simp at h
   ·rename_i ic hi
    split at h
    ·simp at h
    ·rename_i c hc
     split at h
     ·simp at h
     ·rename_i hne
      simp at h
      subst h
      have hm:c∈acc:=List.mem_of_getLast? hc
      refine ⟨⟨?_,?_⟩,by simp⟩
      ·have h0:acc≠[]:=List.ne_nil_of_mem hm
       have:=List.length_pos_iff.2 h0
       have:=ha.1
       simp;omega
      ·intro d hd
       simp at hd
       rcases hd with hd|rfl
       ·exact ha.2 d ((List.dropLast_sublist acc).subset hd)
       ·have h1:=(ha.2 c hm).1
        refine ⟨by simp;omega,λi hi'=>?_⟩
        simp at hi'
        rcases hi' with hi'|rfl
        ·exact (ha.2 c hm).2 i hi'
        ·exact zzn hi
def zdo:Nat->List UInt8->Nat->List (List Ic)->Except (Int×Int) (List (List Ic))
 |0,_,_,acc=> .ok acc
 |f+1,r,j,acc=>if r=[]/\j≠0 then .ok acc else match Lib.cut r [10] with
  |(_,_,false)=> .error (2,j+1)
  |(l,r',true)=>match Gj (Ql l) acc with
   | .ok acc'=>zdo f r' (j+1) acc'
   | .error er=> .error (er,j+1)
theorem zql(r:List UInt8)(c:UInt8):(Lib.cut r [c]).1.length<=r.length:=by
 unfold Lib.cut
 split
 ·simp only [List.length_take];omega
 ·exact Nat.le_refl _
theorem zzo(c:UInt8):Lib.cut [] [c]=([],[],false):=rfl
theorem zn0(h:l.length<=131072):SzOk (Ql l):=by
 constructor
 ·rw [zdm]
  have:=Lib.countB_le ⟨#[32]⟩ yup _ ⟨l.toArray⟩ (Nat.le_refl _)
  have h2:(⟨l.toArray⟩:ByteArray).size=l.length:=yvt
  omega
 ·intro u hu
  have key: ∀(k:Nat) (s:ByteArray),∀u∈Lib.splitB ⟨#[32]⟩ 0 k s,u.size<=s.size:=by
   intro k
   induction k with
   |zero=>intro s u hu;simp [Lib.splitB_zero] at hu;rw [hu];exact Nat.le_refl _
   |succ k ih=>
    intro s u hu
    unfold Lib.splitB at hu
    split at hu
    ·simp at hu;rw [hu];exact Nat.le_refl _
    ·simp only [List.mem_cons] at hu
     rcases hu with rfl|hu
     ·rw [ByteArray.size_extract];omega
     ·have:=ih _ u hu
      rw [ByteArray.size_extract] at this
      omega
  have h2:(⟨l.toArray⟩:ByteArray).size=l.length:=yvt
  have:=key _ _ u hu
  omega
def yit(W:World)(R:Except (Int×Int) (List (List Ic)))(r:List UInt8)(j:Nat)(w:World):Prop:=
 ∃f acc v xs,r.length+1<=f/\r.length<=131072/\zdo f r j acc=R/\zqk acc/\(j≠0->acc≠[])/\w.cell? ⟨W.heap.size,0,none⟩=some v/\w.shape? W.heap.size=some (72,1)/\w.frozen? ⟨W.heap.size,0,none⟩=false/\RowsAt W.heap.size w v acc xs/\Below W.heap.size W w/\
  w.cell? ⟨W.heap.size+1,0,none⟩=some .nilIface/\w.frozen? ⟨W.heap.size+1,0,none⟩=false/\w.shape? (W.heap.size+1)=some (45,1)
def yiu(W:World)(R:Except (Int×Int) (List (List Ic)))(bf:Nat)(w:World):Prop:=
 ∃er ln,R= .error (er,ln)/\w.cell? ⟨bf,0,none⟩=some (.int .i64 er)/\w.cell? ⟨bf,1,none⟩=some (.int .i64 ln)/\W.heap.size+1<bf/\Below W.heap.size W w/\
  w.cell? ⟨W.heap.size+1,0,none⟩=some .nilIface/\w.frozen? ⟨W.heap.size+1,0,none⟩=false/\W.heap.size+1<w.heap.size
section
variable{W:World}{R:Except (Int×Int) (List (List Ic))}{r:List UInt8}{j:Nat}{w:World}
theorem yel(hE:Env W)(h:yit W R r j w)(hr:r≠[]\/j=0):
  ∃l r' b,Lib.cut r [10]=(l,r',b)/\l.length<=r.length/\
   (b=true->r'.length<r.length/\ ∀n,Cl 49 #[ptr (w.heap.size+1),ptr W.heap.size] (((w.drewN n).alloc (.cells ((Ql l).map Value.string).toArray 9)).alloc (.cells #[.int .i64 (j+1), .slice (some ⟨w.heap.size,0,none⟩) (Ql l).length (Ql l).length] 150)) λe w2=>(e= .returned (.tuple #[])/\yit W R r' (j+1) w2)\/ ∃bf,e= .panicked (zga bf)/\yiu W R bf w2)/\
   (b=false->∀n bf w2,Fails 2 (j+1) (w.heap.size+1) (((w.drewN n).alloc (.cells ((Ql l).map Value.string).toArray 9)).alloc (.cells #[.int .i64 (j+1), .slice (some ⟨w.heap.size,0,none⟩) (Ql l).length (Ql l).length] 150)) (.panicked (zga bf)) w2->yiu W R bf w2):=by
 obtain ⟨f,acc,v,xs,hf,hr1,hR,hacc,hne,a1,a2,a3,a4,a5,a6,a7,a8⟩:=h
 obtain ⟨f,rfl⟩: ∃f',f=f'+1:=⟨f- 1,by omega⟩
 have hcond: ¬(r=[]/\j≠0):=λ⟨e1,e2⟩=>hr.elim (λh=>h e1) (λh=>e2 h)
 have hB:W.heap.size<=w.heap.size:=a5.size
 have lt1:W.heap.size<w.heap.size:=Qd a2
 have lt2:W.heap.size+1<w.heap.size:=Qd a8
 have hl:=zql r 10
 generalize hcu:Lib.cut r [10]=q
 obtain ⟨l,r',b⟩:=q
 rw [hcu] at hl
 simp only at hl
 have hworld: ∀n,∃w1,w1=((w.drewN n).alloc (.cells ((Ql l).map Value.string).toArray 9)).alloc (.cells #[.int .i64 (j+1), .slice (some ⟨w.heap.size,0,none⟩) (Ql l).length (Ql l).length] 150)/\Below w.heap.size w w1/\LineAt w1 (w.heap.size+1) (j+1) w.heap.size (Ql l)/\w1.shape? w.heap.size=some (9,(Ql l).length):=by
  intro n
  refine ⟨_,rfl,((zjp w.heap.size w n).alloc (Nat.le_refl _) _).alloc yun _,zbq (w:=w.drewN n),?_⟩
  refine (Jw (Below.heap_alloc _ _ _ yun)).trans ?_
  have:=Fi (w.drewN n) ((Ql l).map Value.string).toArray 9
  rw [show ((Ql l).map Value.string).toArray.size=(Ql l).length from by simp] at this
  exact this
 -- what a fault in this line comes to
 have hfall: ∀(w1:World) (er:Int) (bf:Nat) (w2:World),Below w.heap.size w w1->R= .error (er,(j:Int)+1)->Fails er (j+1) (w.heap.size+1) w1 (.panicked (zga bf)) w2->yiu W R bf w2:=by
  rintro w1 er bf w2 hb hR' ⟨bf',e1,e2,e3,e4,e5⟩
  have:bf'=bf:=by simpa [zga] using e1.symm
  subst this
  have hs:=hb.size
  have hc:Chg (Jo (w.heap.size+1)) w w2:=(Chg.of_below hb).trans e5
  refine ⟨er,(j:Int)+1,hR',e3,e4,by omega,a5.trans (hc.below hB (λk i e=>by omega)),(hc.cell _ 0 lt2 (λe=>by omega)).trans a6,(hc.frozen _ 0 lt2).trans a7,Nat.lt_of_lt_of_le lt2 hc.size⟩
 refine ⟨l,r',b,rfl,hl,?_,?_⟩
 ·rintro rfl
  have hr0:r≠[]:=λe=>by rw [e,zzo] at hcu;simp at hcu
  have hlt:=(z17 hcu hr0).1
  refine ⟨hlt,λn=>?_⟩
  obtain ⟨w1,hw1,hb,hL,hws⟩:=hworld n
  rw [<-hw1]
  have hc1:Chg (λ_ _=>False) w w1:=Chg.of_below hb
  have hE1:Env w1:=(hE.keep (M:=λk _=>W.heap.size<=k) ((Chg.of_below (a5.trans (hb.mono hB)))) (λk i hk e=>by have:=hE.lo;omega))
  have s2:=(hc1.shape _ lt1).trans a2
  have s8:=(hc1.shape _ lt2).trans a8
  have hR2:R=match Gj (Ql l) acc with| .ok acc'=>zdo f r' (j+1) acc'| .error er=> .error (er,(j:Int)+1):=by rw [<-hR];simp only [zdo,if_neg hcond,hcu]
  refine (yfu (Nat.le_trans hB hb.size) hE.lo hL yum hws ((hc1.cell _ 0 lt1 (λe=>e)).trans a1) s2 ((hc1.frozen _ 0 lt1).trans a3) (a4.keep hc1 (λ_ _ _ e=>e)) hacc.1 (λc hc=>(hacc.2 c hc).1) hE1 (zn0 yum)).mono ?_
  intro e w2 h2
  cases hg:Gj (Ql l) acc with
  |error er=>
   rw [hg] at h2 hR2
   right
   obtain ⟨bf,he,h3⟩:=h2.thru (Chg.refl _ w1)
   exact ⟨bf,he,hfall w1 er bf w2 hb hR2 h3⟩
  |ok acc'=>
   rw [hg] at h2 hR2
   left
   obtain ⟨rfl,v',xs',c1,c2,c3⟩:=h2
   have lt1':=Nat.lt_of_lt_of_le lt1 hb.size
   have lt2':=Nat.lt_of_lt_of_le lt2 hb.size
   have nt: ¬yc6 w1 W.heap.size (w.heap.size+1) W.heap.size (W.heap.size+1) 0:=by
    rintro (e|e|e)
    ·omega
    ·omega
    ·exact z72 s8 yup yup e.2
   obtain ⟨ok1,ok2⟩:=zu8 hg hacc
   refine ⟨rfl,f,acc',v',xs',by omega,by omega,hR2.symm,ok1,λ_=>ok2,c1,(c3.shape _ lt1').trans s2,(c3.frozen _ 0 lt1').trans ((hc1.frozen _ 0 lt1).trans a3),c2,(a5.trans (hb.mono hB)).trans (c3.below (Nat.le_trans hB hb.size) ?_),(c3.cell _ 0 lt2' nt).trans ((hc1.cell _ 0 lt2 (λe=>e)).trans a6),(c3.frozen _ 0 lt2').trans ((hc1.frozen _ 0 lt2).trans a7),(c3.shape _ lt2').trans s8⟩
   rintro k i (e|e|e)
   ·omega
   ·omega
   ·exact e.1
 ·rintro rfl n bf w2 hF
  obtain ⟨w1,hw1,hb,_,_⟩:=hworld n
  rw [<-hw1] at hF
  have hR2:R= .error (2,(j:Int)+1):=by rw [<-hR];simp only [zdo,if_neg hcond,hcu]
  exact hfall w1 2 bf w2 hb hR2 hF
end
def zu9(s:ByteArray):Except (Int×Int) (List (List Ic)):=if 131072<s.size then .error (1,0) else zdo (s.size+2) s.data.toList 0 []
def FaultAt(w:World)(bf:Nat)(er ln:Int):Prop:=w.cell? ⟨bf,0,none⟩=some (.int .i64 er)/\w.cell? ⟨bf,1,none⟩=some (.int .i64 ln)
theorem zgc(W:World)(s:ByteArray)(most:Int)(tk:Value)(hs:most<(s.size:Int)):
  Cl 36 #[.string s, .int .i64 most,tk] W λe w'=>∃bf,e= .returned (.iface 66 (ptr bf))/\W.heap.size<bf/\FaultAt w' bf 1 0/\Below W.heap.size W w':=by
 go_enter_defers Tryz.func36,Tryz.ntmps36
 go_wp2
 have hsz:(W.alloc (.cells #[.iface 66 (ptr (W.heap.size+1))] 45)).heap.size=W.heap.size+1:=yun
 have c0:=World.cell?_alloc_new (W.alloc (.cells #[.iface 66 (ptr (W.heap.size+1))] 45)) #[.int .i64 1, .int .i64 0] 70 0
 have c1:=World.cell?_alloc_new (W.alloc (.cells #[.iface 66 (ptr (W.heap.size+1))] 45)) #[.int .i64 1, .int .i64 0] 70 1
 rw [hsz] at c0 c1
 refine ⟨.iface 66 (ptr (W.heap.size+1)),?_,W.heap.size+1,rfl,by omega,⟨c0,c1⟩,((Below.refl _ W).alloc (Nat.le_refl _) _).alloc yun _⟩
 simp [results,Tryz.results36,go_sem]
theorem z86(W:World)(s:ByteArray)(Post:Nat->World->Prop)
  (hread:Hid (Cl 36 #[.string s, .int .i64 131072, .func (.func 49) #[] #[ptr W.heap.size]] (W.alloc (.cells #[.slice none 0 0] 72)) λe w'=>∃bf,e= .returned (.iface 66 (ptr bf))/\Post bf w')):
  Cl 31 #[.string s] W λe w'=>∃bf,e= .returned (.tuple #[.slice none 0 0, .iface 66 (ptr bf)])/\Post bf w':=by
 have hmf: ∀(fn:Fn) (first cap:Array Value) (w:World),(Instr.makeFunc fn first cap).run Tryz.prog w= .ok (.func fn first cap) w:=λ_ _ _ _=>rfl
 go_enter Tryz.func31,Tryz.ntmps31
 go_wp2_with fail
 refine hread.out.mono ?_
 rintro e w1 ⟨bf,rfl,hp⟩
 have HP:=hid hp
 clear hp hread
 go_wp2
 go_ret2
 exact ⟨bf,rfl,HP.out⟩
theorem yfw(W:World)(s:ByteArray)(Post:Nat->World->Prop)
  (hread:Hid (Cl 31 #[.string s] W λe w'=>∃bf,e= .returned (.tuple #[.slice none 0 0, .iface 66 (ptr bf)])/\Post bf w')):
  Cl 22 #[.string s] W λe w'=>∃bf,e= .returned (.tuple #[.pointer none, .iface 66 (ptr bf)])/\Post bf w':=by
 go_enter Tryz.func22,Tryz.ntmps22
 go_wp2_with fail
 refine hread.out.mono ?_
 rintro e w1 ⟨bf,rfl,hp⟩
 have HP:=hid hp
 clear hp hread
 go_wp2
 go_ret2
 exact ⟨bf,rfl,HP.out⟩
theorem FaultAt.keep{w':World}{M:Nat->Nat->Prop}(h:FaultAt w bf er ln)(hc:Chg M w w')(hM: ∀i,¬M bf i):FaultAt w' bf er ln:=
 ⟨(hc.cell bf 0 (blt h.1) (hM 0)).trans h.1,(hc.cell bf 1 (blt h.2) (hM 1)).trans h.2⟩
theorem yas(hE:Env W)(s:ByteArray):
  Cl 31 #[.string s] W λe w'=>match zu9 s with
   | .ok cs=>∃a k c xs,e= .returned (.tuple #[.slice a k c, .nilIface])/\RowsAt W.heap.size w' (.slice a k c) cs xs/\zqk cs/\cs≠[]/\Below W.heap.size W w'
   | .error (er,ln)=>∃bf,e= .returned (.tuple #[.slice none 0 0, .iface 66 (ptr bf)])/\W.heap.size<=bf/\FaultAt w' bf er ln/\Below W.heap.size W w':=by
 have hsz:(W.alloc (.cells #[.slice none 0 0] 72)).heap.size=W.heap.size+1:=yun
 have hbA:Below W.heap.size W (W.alloc (.cells #[.slice none 0 0] 72)):=(Below.refl _ W).alloc (Nat.le_refl _) _
 by_cases hlong:131072<s.size
 ·rw [show zu9 s= .error (1,0) from by unfold zu9;rw [if_pos hlong]]
  refine (z86 W s (λbf w'=>W.heap.size<=bf/\FaultAt w' bf 1 0/\Below W.heap.size W w') ((zgc _ s 131072 _ yum).mono ?_)).mono ?_
  ·rintro e w' ⟨bf,rfl,h1,h2,h3⟩
   rw [hsz] at h1
   exact ⟨bf,rfl,by omega,h2,hbA.trans (h3.mono yun)⟩
  ·rintro e w' ⟨bf,rfl,h⟩
   exact ⟨bf,rfl,h⟩
 have hs': ∀l:List UInt8,l.length<=s.size->(⟨l.toArray⟩:ByteArray).size<4294967281:=λl hl=>by
  have:(⟨l.toArray⟩:ByteArray).size=l.length:=yvt
  omega
 have hlen:s.data.toList.length=s.size:=yv3
 have hgc:zu9 s=zdo (s.size+2) s.data.toList 0 []:=by unfold zu9;rw [if_neg hlong]
 obtain ⟨m,hm⟩:=hE.max
 have hmx: ∀r j w,yit W (zu9 s) r j w->w.cell? ⟨1,0,none⟩=some (.int .i64 m):=by
  rintro r j w ⟨f,acc,v,xs,hf,hr1,hR,hacc,hne,a1,a2,a3,a4,a5,a6,a7,a8⟩
  exact (a5.cell (p:=⟨1,0,none⟩) (show 1<W.heap.size by have:=hE.lo;omega)).trans hm
 have k:=ya9 (W.alloc (.cells #[.slice none 0 0] 72)) s 131072 49 W.heap.size (yit W (zu9 s)) (yiu W (zu9 s)) yum yum yc7 ?_ ?_ ?_ ?_ ?_ ?_
 ·rw [hsz] at k
  cases hR:zu9 s with
  |ok cs=>
   refine (yaa W s (λw'=>∃a k c xs,w'.cell? ⟨W.heap.size,0,none⟩=some (.slice a k c)/\RowsAt W.heap.size w' (.slice a k c) cs xs/\zqk cs/\cs≠[]/\Below W.heap.size W w') (k.mono ?_)).mono ?_
   ·rintro e w' (⟨rfl,j,w1,hj,⟨f,acc,v,xs,hf,hr1,hR',hacc,hne,a1,a2,a3,a4,a5,a6,a7,a8⟩,rfl⟩|⟨bf,w2,_,⟨er,ln,hbad,_⟩,_⟩)
    ·obtain ⟨f,rfl⟩: ∃f',f=f'+1:=⟨f- 1,by omega⟩
     rw [hR] at hR'
     simp only [zdo,ne_eq,hj,not_false_eq_true,and_self,if_true,Except.ok.injEq] at hR'
     subst hR'
     obtain ⟨a,kk,c,rfl⟩: ∃a kk c,v= .slice a kk c:=by
      rcases a4.own.2 with ⟨e1,e2⟩|⟨g',cap',cur,e1,_⟩
      ·exact ⟨_,_,_,e1⟩
      ·exact ⟨_,_,_,e1⟩
     have hset:Chg (λq i=>q=W.heap.size+1/\i=0) w1 (w1.setCell ⟨W.heap.size+1,0,none⟩ .nilIface):=(Chg.refl _ w1).setCell (λ_=>⟨rfl,rfl⟩) _
     have cb:=(hset.cell W.heap.size 0 (Qd a2) (λe=>by omega)).trans a1
     refine ⟨rfl,⟨a,kk,c,xs,cb,a4.keep hset ?_,hacc,hne hj,a5.trans (hset.below a5.size ?_)⟩,a,kk,c,cb⟩
     ·rintro q i hq ⟨rfl,_⟩
      exact z72 a8 yup yup hq
     ·rintro q i ⟨rfl,_⟩
      omega
    ·rw [hR] at hbad
     simp at hbad
   ·rintro e w' ⟨a,kk,c,rfl,h1,a',k',c',xs,h2,h3,h4,h5,h6⟩
    rw [h1] at h2
    simp only [Option.some.injEq,Value.slice.injEq] at h2
    obtain ⟨rfl,rfl,rfl⟩:=h2
    exact ⟨a,kk,c,xs,rfl,h3,h4,h5,h6⟩
  |error q=>
   obtain ⟨er,ln⟩:=q
   refine (z86 W s (λbf w'=>W.heap.size<=bf/\FaultAt w' bf er ln/\Below W.heap.size W w') (k.mono ?_)).mono ?_
   ·rintro e w' (⟨rfl,j,w1,hj,⟨f,acc,v,xs,hf,hr1,hR',_⟩,rfl⟩|⟨bf,w2,rfl,⟨er',ln',hbad,b1,b2,b3,b4,b5,b6,b7⟩,rfl⟩)
    ·obtain ⟨f,rfl⟩: ∃f',f=f'+1:=⟨f- 1,by omega⟩
     rw [hR] at hR'
     simp [zdo,hj] at hR'
    ·rw [hR] at hbad
     simp at hbad
     obtain ⟨rfl,rfl⟩:=hbad
     have hc:Chg (λq i=>q=W.heap.size+1/\i=0) w2 ((w2.alloc (.cells #[ptr bf] 145)).setCell ⟨W.heap.size+1,0,none⟩ (.iface 66 (ptr bf))):=((Chg.refl _ w2).alloc _).setCell (λ_=>⟨rfl,rfl⟩) _
     exact ⟨bf,rfl,by omega,FaultAt.keep ⟨b1,b2⟩ hc (λi e=>by omega),b4.trans (hc.below b4.size (λq i e=>by omega))⟩
   ·rintro e w' ⟨bf,rfl,h⟩
    exact ⟨bf,rfl,h⟩
 ·-- at the start
  refine ⟨s.size+2,[], .slice none 0 0,[],by omega,by omega,hgc.symm,⟨by simp,λc hc=>by simp at hc⟩,λh=>absurd rfl h,?_,?_,?_,⟨yei _ _,?_,?_,?_,?_⟩,((Below.refl _ W).alloc (Nat.le_refl _) _).alloc yun _,?_,?_,?_⟩
  ·exact (World.cell?_alloc_past _ _ _ yun).trans (World.cell?_alloc_new W _ _ 0)
  ·exact (Jw (Below.heap_alloc _ _ _ yun)).trans (Fi W _ _)
  ·exact (World.frozen?_alloc_past _ _ _ yun).trans yun
  ·intro i iv hi;simp at hi
  ·intro i j iv jv _ hi;simp at hi
  ·intro g hg;simp [Value.ownBlock] at hg
  ·intro i iv hi;simp at hi
  ·rw [<-hsz];exact World.cell?_alloc_new _ _ _ 0
  ·rw [<-hsz];simp
  ·rw [<-hsz];exact Fi _ _ _
 ·intro r j w hr hi
  exact Tryz.strings_Cut ⟨r.toArray⟩ ⟨#[10]⟩ m w (hs' r hr) (hmx r j w hi)
 ·intro r j w l n hi hl
  have hmw:w.cell? ⟨1,0,none⟩=some (.int .i64 m):=hmx r j w hi
  have hk:=Tryz.strings_Split ⟨l.toArray⟩ ⟨#[32]⟩ m (w.drewN n) (hs' l hl) hmw yup
  rw [zdm]
  exact hk
 ·intro r j w hi hr
  exact yel hE hi hr
 ·rintro r j w ⟨f,acc,v,xs,hf,hr1,hR,hacc,hne,a1,a2,a3,a4,a5,a6,a7,a8⟩
  rw [hsz]
  exact ⟨a6,a7⟩
 ·rintro bf w ⟨er,ln,hbad,b1,b2,b3,b4,b5,b6,b7⟩
  rw [hsz]
  exact ⟨b7,b5,b6⟩
theorem yc9(W:World)(s:ByteArray)(hread:Hid (Cl 31 #[.string s] W λ_ _=>False)):
  Cl 22 #[.string s] W λ_ _=>False:=by
 go_enter Tryz.func22,Tryz.ntmps22
 go_wp2_with fail
 refine hread.out.mono ?_
 intro e w1 h
 exact h.elim
theorem yem(hE:Env W)(s:ByteArray):
  Cl 22 #[.string s] W λe w'=>match zu9 s with
   | .ok cs=>∃bm,e= .returned (.tuple #[ptr bm, .nilIface])/\MRep (λk=>W.heap.size<=k) w' bm (cs.map λc=>(Th.init,c)) (λ_=>0)/\zqk cs/\Below W.heap.size W w'
   | .error (er,ln)=>∃bf,e= .returned (.tuple #[.pointer none, .iface 66 (ptr bf)])/\W.heap.size<=bf/\FaultAt w' bf er ln/\Below W.heap.size W w':=by
 have k:=yas hE s
 cases hR:zu9 s with
 |ok cs=>
  rw [hR] at k
  by_cases hok:zqk cs/\cs≠[]
  ·refine (yej W s cs.length (by have:=hok.1.1;omega) (λg w1=>∃cap xs,RowsAt W.heap.size w1 (.slice (some ⟨g,0,none⟩) cs.length cap) cs xs/\Below W.heap.size W w1) (yh6 W cs) (k.mono ?_) ?_ ?_).mono ?_
   ·rintro e w1 ⟨a,k,c,xs,rfl,h1,_,_,h2⟩
    rcases h1.own.2 with ⟨_,e⟩|⟨g,cap,cur,e1,_,_,e4,_⟩
    ·exact absurd (List.length_eq_zero_iff.1 e) hok.2
    ·cases e1
     exact ⟨g,c,rfl,e4,c,xs,h1,h2⟩
   ·rintro g w1 ⟨cap,xs,h1,h2⟩
    exact yc8 h1 h2
   ·intro g bm k w1 h1 h2
    exact yek h1 h2
   ·rintro e w1 ⟨g,bm,rfl,h1⟩
    have:=yfv h1 (List.length_pos_iff.2 hok.2)
    exact ⟨bm,rfl,this.1,hok.1,this.2⟩
  ·exact (yc9 W s (k.mono λe w' ⟨_,_,_,_,_,_,h1,h2,_⟩=>absurd ⟨h1,h2⟩ hok)).mono λe w' h=>h.elim
 |error q=>
  obtain ⟨er,ln⟩:=q
  rw [hR] at k
  refine (yfw W s (λbf w'=>W.heap.size<=bf/\FaultAt w' bf er ln/\Below W.heap.size W w') k).mono ?_
  rintro e w' ⟨bf,rfl,h⟩
  exact ⟨bf,rfl,h⟩
theorem zn1(hE:Env w)(hb:FaultAt w bf er ln):
  Cl 21 #[.iface 66 (ptr bf)] w λe w'=>e= .returned (.tuple #[.int .i64 er, .int .i64 ln])/\Below w.heap.size w w':=by
 have hlt:bf<w.heap.size:=blt hb.1
 have HE:=hid hE
 have HB:=hid hb
 clear hE hb
 go_enter Tryz.func21,Tryz.ntmps21
 go_wp2_with fail
 have hs1:(w.alloc (.cells #[.pointer none] 66)).heap.size=w.heap.size+1:=yun
 have hb2:Below w.heap.size w ((w.alloc (.cells #[.pointer none] 66)).alloc (.cells #[.int .i64 0] 35)):=((Below.refl _ w).alloc (Nat.le_refl _) _).alloc yun _
 have hg:((w.alloc (.cells #[.pointer none] 66)).alloc (.cells #[.int .i64 0] 35)).cell? ⟨0,0,none⟩=some (.iface 172 (.agg #[.pointer (some ⟨10,45,none⟩)])):=(HE.out.below hb2).et
 have ht0:((w.alloc (.cells #[.pointer none] 66)).alloc (.cells #[.int .i64 0] 35)).cell? ⟨w.heap.size,0,none⟩=some (.pointer none):=(World.cell?_alloc_past _ _ _ yum).trans (World.cell?_alloc_new w _ _ 0)
 have hf0:((w.alloc (.cells #[.pointer none] 66)).alloc (.cells #[.int .i64 0] 35)).frozen? ⟨w.heap.size,0,none⟩=false:=(World.frozen?_alloc_past _ _ _ yum).trans yun
 have key:Cl 30 #[.iface 66 (ptr bf), .iface 68 (.pointer (some ⟨w.heap.size,0,none⟩))] ((w.alloc (.cells #[.pointer none] 66)).alloc (.cells #[.int .i64 0] 35)) λev w'=>ev= .returned (.bool true)/\w'.cell? ⟨w.heap.size,0,none⟩=some (.pointer (some ⟨bf,0,none⟩))/\w'.cell? ⟨bf,0,none⟩=some (.int .i64 er)/\w'.cell? ⟨bf,1,none⟩=some (.int .i64 ln)/\Below w.heap.size w w':=by
  refine (as_hit ⟨bf,0,none⟩ ⟨w.heap.size,0,none⟩ (.pointer none) _ hg ht0 hf0).mono ?_
  rintro e w' ⟨rfl,rfl⟩
  generalize hW2:(w.alloc (.cells #[.pointer none] 66)).alloc (.cells #[.int .i64 0] 35)=W2 at*
  have c9:Chg (λ_ (_:Nat)=>False) W2 ((((W2.alloc (.cells #[.pointer (some ⟨w.heap.size,0,none⟩)] 68)).alloc (.cells #[.pointer (some ⟨10,68,none⟩), .pointer (some ⟨W2.heap.size,0,none⟩), .int .u64 150] 126)).alloc (.cells #[.pointer (some ⟨10,68,none⟩), .pointer (some ⟨W2.heap.size,0,none⟩), .int .u64 150] 126)).alloc (.cells #[.pointer (some ⟨bf,0,none⟩)] 66)):=((((Chg.refl _ W2).alloc _).alloc _).alloc _).alloc _
  have c1:=(c9.mono (M':=λk (_:Nat)=>k=w.heap.size) (λ_ _ _ e=>e.elim)).setCell (b:=w.heap.size) (o:=0) (λ_=>rfl) (.pointer (some ⟨bf,0,none⟩))
  have hl2:bf<W2.heap.size:=Nat.lt_of_lt_of_le hlt hb2.size
  have hl3:w.heap.size<W2.heap.size:=blt ht0
  have e0:=(hb2.cell (p:=⟨bf,0,none⟩) hlt).trans HB.out.1
  have e1:=(hb2.cell (p:=⟨bf,1,none⟩) hlt).trans HB.out.2
  exact ⟨rfl,Qg ((c9.cell w.heap.size 0 hl3 (λe=>e)).trans ht0) rfl,(c1.cell bf 0 hl2 yum).trans e0,(c1.cell bf 1 hl2 yum).trans e1,hb2.trans (c1.below hb2.size (λk i e=>by omega))⟩
 clear hg ht0 hf0 hb2 hs1
 have HK:=hid key
 clear key
 refine HK.out.mono ?_
 rintro e w1 ⟨rfl,k1,k2,k3,k4⟩
 have K4:=hid k4
 clear k4 HK
 go_wp2
 go_region
 all_goals
  go_wp2
  go_ret2
  exact ⟨rfl,⟨K4.out.os,K4.out.tape,K4.out.output,K4.out.size,K4.out.block⟩⟩
theorem yen(hE:Env W)(s:ByteArray):
  Cl 15 #[.string s] W λe w'=>match zu9 s with
   | .ok cs=>∃bm,e= .returned (.tuple #[ptr bm, .int .i64 0, .int .i64 0])/\MRep (λk=>W.heap.size<=k) w' bm (cs.map λc=>(Th.init,c)) (λ_=>0)/\zqk cs/\Below W.heap.size W w'
   | .error (er,ln)=>e= .returned (.tuple #[.pointer none, .int .i64 er, .int .i64 ln])/\Below W.heap.size W w':=by
 have k:=yem hE s
 have HE:=hid hE
 clear hE
 cases hR:zu9 s with
 |ok cs=>
  rw [hR] at k
  have K:=hid k
  clear k
  go_enter Tryz.func15,Tryz.ntmps15
  go_wp2_with fail
  refine K.out.mono ?_
  rintro e W1 ⟨bm,rfl,h1,ha,b1⟩
  have H1:=hid h1
  have B1:=hid b1
  have HA:=hid ha
  clear h1 b1 ha K
  go_wp2_with fail
  refine (zu7 W1).mono ?_
  rintro e W2 ⟨rfl,b2⟩
  have B2:=hid b2
  clear b2
  go_wp2
  go_ret3
  exact ⟨bm,rfl,H1.out.below B2.out,HA.out,B1.out.trans (B2.out.mono B1.out.size)⟩
 |error q=>
  obtain ⟨er,ln⟩:=q
  rw [hR] at k
  have K:=hid k
  clear k
  go_enter Tryz.func15,Tryz.ntmps15
  go_wp2_with fail
  refine K.out.mono ?_
  rintro e W1 ⟨bf,rfl,h0,h1,b1⟩
  have H1:=hid h1
  have B1:=hid b1
  clear h1 b1 K
  go_wp2_with fail
  refine (zn1 (HE.out.keep (Chg.of_below (M:=λ_ _=>False) (B1.out.mono (Nat.le_refl _))) (λ_ _ _ e=>e)) H1.out).mono ?_
  rintro e W2 ⟨rfl,b2⟩
  have B2:=hid b2
  clear b2
  go_wp2
  go_ret3
  exact ⟨rfl,B1.out.trans (B2.out.mono B1.out.size)⟩
end Go.Proofs.YtkenoofmkbghiaaGreatDoor
