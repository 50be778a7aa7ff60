import Derived.Test.YtphcopbffecceaaGreatDoorP02
import Derived.Deep.OwnRows
import Derived.Laws.IdiomCopy
import Derived.Defers
import Derived.Recover
import Derived.Deep.RegionLaw
import Derived.Test.YtphcopbffecceaaGreatDoorAs
import Derived.Deep.RegionHeldLaw
set_option maxRecDepth 100000
set_option maxHeartbeats 2000000
namespace Go.Proofs.YtphcopbffecceaaGreatDoor
open Go.RowKit
variable{u:ByteArray}{W w w1:World}{ws ws1:List ByteArray}{l:List UInt8}{P:Program}{ops:Array Oper}{a:Act}{Q:Exit->Act->World->Prop}{bf fuel r:Nat}{er ln:Int}{md:Region.Mode}{S:World->Prop}{listed:Array Bool}
def zqi(u:ByteArray):Option Nat:=(List.range 12).find? λj=>decide (Jc j=u)
theorem zhj{k:Nat}(h:zqi u=some k):k<12/\Jc k=u:=
 ⟨by simpa using List.mem_of_find?_eq_some h,by simpa using List.find?_some h⟩
theorem zdk(h:zqi u=none): ∀j,j<12->Jc j≠u:=by
 intro j hj
 have:=List.find?_eq_none.1 h j ya4
 simpa using this
def zbm(u:ByteArray)(ws:List ByteArray):Option (Ic×List ByteArray):=
 match zqi u with
 |some k=>gop k ws
 |none=>
  if u=zyl then zly ws else if u=zf9 then Ia ws else if u=zae then Xq ws else if u=zqd then zdj ws else if u=ze9 then Fh ws else if u=zff then zfh ws
  else if u=zzh then zqg ws else if u=zzi then zqh ws else if u=wJz then gjz ws else if u=zjn then zgb ws else if u=znx then znz ws else none
section
variable{w:World}{bl bw:Nat}{n:Int}{ws:List ByteArray}
theorem zzk(h:u≠⟨l.toArray⟩):(u.toList==l)=false:=by
 have:=Oz h
 rwa [show (ByteArray.mk l.toArray).toList=l from by rw [ByteArray.toList_eq]] at this
end
def okI(i:Ic):Prop:=i.d<8/\i.a.ok/\i.b.ok/\i.c.ok/\(i.k=2\/i.k=3\/i.k=4\/i.k=5\/i.k=6\/i.k=7\/i.k=8\/i.k=10\/i.k=0\/(i.k=1/\i.op<12)\/i.k=9)
section
variable{w:World}{b bm:Nat}{iv ov:Value}{T:Th}{m:Nat->Int}
end
section
variable{D:Nat->Prop}{w:World}{bm:Nat}{A:List (Th×List Ic)}{m:Nat->Int}
end
def nm(n:Int):Vl:=⟨false,n⟩
def zzl(x:Nat):Ic:={k:=3,op:=0,d:=0,a:=nm x,b:=nm 1,c:=nm 0,n:=0}
def z16(y:Nat):Ic:={k:=2,op:=0,d:=0,a:=nm y,b:=nm 0,c:=nm 0,n:=0}
def z4w:Ic:={k:=7,op:=0,d:=0,a:=⟨true,0⟩,b:=nm 0,c:=nm 0,n:=0}
def z4x:Ic:={k:=10,op:=0,d:=0,a:=nm 0,b:=nm 0,c:=nm 0,n:=10}
def Th.init:Th:=⟨λ_=>0,0,[],[],0⟩
section
variable{D:Nat->Prop}{w:World}{bm:Nat}{A:List (Th×List Ic)}{m:Nat->Int}
end
def zlz(x y:Nat):List Ic:=[zzl x,z16 y,z4w,z4x]
def A0:List (Th×List Ic):=[(Th.init,zlz 1 2),(Th.init,zlz 2 1)]
theorem zu7(w:World):
  Cl 9 #[.nilIface] w λe w'=>e= .returned (.tuple #[.int .i64 0, .int .i64 0])/\Below w.heap.size w w':=by
 go_enter Tryz.func9,Tryz.ntmps9
 go_wp2
 go_ret2
 exact ⟨rfl,((Below.refl _ w).alloc (Nat.le_refl _) _).alloc yaj _⟩
def Gj(ws:List ByteArray)(acc:List (List Ic)):Except Int (List (List Ic)):=
 match ws with
 |[]=> .error 2
 |u::us=>
  if u=Vj then (match us with
   |[]=>if acc.length=3 then .error 5 else .ok (acc++[[]])
   |_::_=> .error 2)
  else match zbm u us with
   |none=> .error 2
   |some (_,_::_)=> .error 2
   |some (ic,[])=>match acc.getLast? with
    |none=> .error 3
    |some c=>if c.length=4000 then .error 5 else .ok (acc.dropLast++[c++[ic]])
section
variable{B bl bw bt:Nat}{n:Int}{W:World}{v:Value}{acc:List (List Ic)}{xs:List Value}{ws:List ByteArray}
end
def Ql(l:List UInt8):List ByteArray:=Lib.splitB ⟨#[32]⟩ 0 (Lib.countB ⟨l.toArray⟩ ⟨#[32]⟩) ⟨l.toArray⟩
theorem zdm(l:List UInt8):(Ql l).length=Lib.countB ⟨l.toArray⟩ ⟨#[32]⟩+1:=Lib.splitB_all ⟨#[32]⟩ yal 0 _ _ rfl
theorem z17{r r':List UInt8}{sep:UInt8}(h:Lib.cut r [sep]=(l,r',true))(h0:r≠[]):r'.length<r.length/\l.length<=r.length:=by
 unfold Lib.cut at h
 have hl:0<r.length:=List.length_pos_iff.2 h0
 split at h
 ·simp only [Prod.mk.injEq,and_true] at h
  obtain ⟨rfl,rfl⟩:=h
  constructor
  ·simp only [List.length_drop,List.length_cons,List.length_nil];omega
  ·simp only [List.length_take];omega
 ·simp at h
theorem zjp(B:Nat)(w:World)(n:Nat):Below B w (w.drewN n):=⟨rfl,rfl,rfl,Nat.le_refl _,λ_ _=>rfl⟩
theorem zbq{n:Int}:
  LineAt ((w.alloc (.cells ((Ql l).map Value.string).toArray 9)).alloc (.cells #[.int .i64 n, .slice (some ⟨w.heap.size,0,none⟩) (Ql l).length (Ql l).length] 159)) (w.heap.size+1) n w.heap.size (Ql l):=by
 have hs:(w.alloc (.cells ((Ql l).map Value.string).toArray 9)).heap.size=w.heap.size+1:=yaj
 refine ⟨?_,?_,⟨0,(Ql l).length,Nat.le_refl _,?_,?_⟩,?_,by omega,by simp;omega⟩
 ·have e:((w.alloc (.cells ((Ql l).map Value.string).toArray 9)).alloc (.cells #[.int .i64 n, .slice (some ⟨w.heap.size,0,none⟩) (Ql l).length (Ql l).length] 159)).heap[w.heap.size+1]?=some (.cells #[.int .i64 n, .slice (some ⟨w.heap.size,0,none⟩) (Ql l).length (Ql l).length] 159):=by
   rw [<-hs];show (Array.push _ _)[_]?=_;exact Array.getElem?_push_size
  unfold World.shape?
  rw [e]
  rfl
 ·rw [<-hs];exact (World.cell?_alloc_new _ _ _ 0).trans rfl
 ·rw [<-hs];exact (World.cell?_alloc_new _ _ _ 1).trans rfl
 ·intro j hj
  rw [World.cell?_alloc_past _ _ _ yaj,World.cell?_alloc_new]
  simp [hj]
 ·rw [<-hs];simp
theorem zjq(p:Addr)(w:World):
  CallsD Tryz.prog 49 #[.pointer (some p)] .returning w λe u' w'=>e= .returned (.tuple #[])/\u'= .returning/\w'=w:=by
 refine callsD_of_wpS Tryz.func49 rfl λc₀ cs hu=>?_
 apply wpS_seq
 apply wpS_region
 simp [wpOpsS,go_sem,recoverD,hu,Tryz.ntmps49,Exit.thenS]
 apply wpS_of_wp
 go_wp2
 cases c₀
 simp_all [bodyPostS,results,Tryz.results49]
def zzm:Value->Nat| .string b=>b.size|_=>0
theorem zjr(p:Addr)(bf:Nat)(u:Value)(w:World)(hc:(w.alloc (.cells #[.pointer (some ⟨bf,0,none⟩)] 153)).cell? p=some u)(hz:(w.alloc (.cells #[.pointer (some ⟨bf,0,none⟩)] 153)).frozen? p=false):
  CallsD Tryz.prog 49 #[.pointer (some p)] (.panicking (zga bf)) w λe u' w'=>e= .returned (.tuple #[])/\u'= .panicking [{v:= .iface 153 (.agg #[.pointer (some ⟨bf,0,none⟩)]),recovered:=true}]/\w'=((w.alloc (.cells #[.pointer (some ⟨bf,0,none⟩)] 153)).setCell p (.iface 64 (.pointer (some ⟨bf,0,none⟩)))):=by
 have hta: ∀x w,(Instr.typeAssert (.iface 153 x) 20 153 true).run Tryz.prog w= .ok (.tuple #[x, .bool true]) w:=λ_ _=>by kernel_rfl
 refine callsD_of_wpS Tryz.func49 rfl λc₀ cs hu=>?_
 apply wpS_seq
 apply wpS_region
 simp [wpOpsS,go_sem,recoverD,hu,Tryz.ntmps49,Exit.thenS]
 apply wpS_of_wp
 go_wp2
 cases c₀
 simp_all [bodyPostS,results,Tryz.results49]
theorem zqj{o:Oper}{K:Act->World->Prop}{E:Prop}(hgd:o.guard=none)(s x:Operand)(t:TypeId)
  (ho:o.op= .call {callee:= .builtin .append,args:=#[s,x],argTypes:=#[t,t]})
  (e:TypeId) (i:TypeInfo) (z:Value) (bytes:Nat) (ht:P.underlying t=some (.slice e)) (hi:P.info? e=some i) (hz:i.zero=some z) (hsize:i.size=1) (hby:i.bytes=bytes) (hzs:z.cells.size=1)
  (v:Value) (n:Nat) (xs:List Value) (hs:a.eval s=v) (hown:w.ownsRow 0 e 1 v n xs) (ad:Addr) (u:Value) (hx:a.eval x= .slice (some ad) 1 1) (hu: ∀j u',[u][j]?=some u'->w.cell? (ad.add j)=some u') (hu1:u.oneCell'=true) (h63:n+1<=maxLen) (hbytes:(n+1)*bytes<=140737488355328)
  (h: ∀g cap w',w'.ownsRow 0 e 1 (.slice (some ⟨g,0,none⟩) (n+1) cap) (n+1) (xs++[u])->Chg (λk _=>v.ownBlock=some k) w w'->(v.ownBlock=some g\/g=w.heap.size)->K (a.put o.dst (.slice (some ⟨g,0,none⟩) (n+1) cap)) w'):
  if Region.wanted o (yielded ops a.tmps)=true then Oper.wp P o a w K Q else E:=by
 have hw:Region.wanted o (yielded ops a.tmps)=true:=by simp [Region.wanted,hgd]
 rw [if_pos hw]
 obtain ⟨g,cap,w',hr,h2,h3,h4⟩:=zlx (P:=P) w t o.type e i z bytes ht hi hz hsize hby hzs v n xs hown ad u hu hu1 h63 hbytes
 unfold Oper.wp execOp
 simp only [ho,resolve,invoke,builtin,Sem.run_bind,Sem.run_pure,Result.andThen_ok,List.map_toArray,List.map_cons,List.map_nil,hs,hx,hr]
 exact h g cap w' h2 h3 h4
theorem Fi(w:World)(cs:Array Value)(t:TypeId):(w.alloc (.cells cs t)).shape? w.heap.size=some (t,cs.size):=z87
section
variable{W:World}{wd:Nat->ByteArray}{cs:List (List Ic)}{r:List UInt8}{j:Nat}{w:World}
end
theorem zhk(h:Jt u=some r):r<8:=by
 unfold Jt at h
 split at h
 ·split at h
  ·rename_i hc;simp at h;omega
  ·simp at h
 ·simp at h
theorem zdn(h:zhi ws=some (r,ws1)):r<8:=by
 cases ws with
 |nil=>simp [zhi] at h
 |cons u ws=>
  simp [zhi] at h
  obtain ⟨r',h1,rfl,_⟩:=h
  exact zhk h1
theorem Gz{x:Vl}(h:zbp ws=some (x,ws1)):x.ok:=by
 cases ws with
 |nil=>simp [zbp] at h
 |cons u ws=>
  simp only [zbp] at h
  split at h
  ·rename_i r hr
   simp at h
   obtain ⟨rfl,_⟩:=h
   intro _
   have:=zhk hr
   show (0:Int)<=(r:Int)/\(r:Int)<8
   omega
  ·simp at h
   obtain ⟨v,_,rfl,_⟩:=h
   intro h
   simp at h
theorem zc1{c:Vl×Int}(h:Ez ws=some (c,ws1)):c.1.ok:=by
 unfold Ez at h
 cases h1:zbp ws with
 |none=>simp [h1] at h
 |some q=>
  cases h2:zco q.2 with
  |none=>simp [h1,h2] at h
  |some q2=>
   simp [h1,h2] at h
   obtain ⟨rfl,_⟩:=h
   exact Gz (ws1:=q.2) h1
theorem z18(v:Int):(⟨false,v⟩:Vl).ok:=λh=>by simp at h
theorem zzn{ic:Ic}(h:zbm u ws=some (ic,ws1)):okI ic:=by
 have z:=z18 0
 unfold zbm at h
 split at h
 ·rename_i k hk
  have hop:=(zhj hk).1
  unfold gop at h
  cases h1:zhi ws with
  |none=>simp [h1] at h
  |some p1=>
   cases h2:zbp p1.2 with
   |none=>simp [h1,h2] at h
   |some p2=>
    cases h3:zbp p2.2 with
    |none=>simp [h1,h2,h3] at h
    |some p3=>
     simp [h1,h2,h3] at h
     obtain ⟨rfl,_⟩:=h
     exact ⟨zdn (ws1:=p1.2) h1,Gz (ws1:=p2.2) h2,Gz (ws1:=p3.2) h3,z, .inr (.inr (.inr (.inr (.inr (.inr (.inr (.inr (.inr (.inl ⟨rfl,hop⟩)))))))))⟩
 ·split at h
  ·unfold zly at h
   cases h1:zhi ws with
   |none=>simp [h1] at h
   |some p1=>
    cases h2:zbp p1.2 with
    |none=>simp [h1,h2] at h
    |some p2=>
     simp [h1,h2] at h
     obtain ⟨rfl,_⟩:=h
     exact ⟨zdn (ws1:=p1.2) h1,Gz (ws1:=p2.2) h2,z,z, .inr (.inr (.inr (.inr (.inr (.inr (.inr (.inr (.inl rfl))))))))⟩
  split at h
  ·unfold Ia at h
   cases h1:zhi ws with
   |none=>simp [h1] at h
   |some p1=>
    cases h2:Ez p1.2 with
    |none=>simp [h1,h2] at h
    |some p2=>
     simp [h1,h2] at h
     obtain ⟨rfl,_⟩:=h
     exact ⟨zdn (ws1:=p1.2) h1,zc1 (ws1:=p2.2) h2,z,z, .inl rfl⟩
  split at h
  ·unfold Xq at h
   cases h1:Ez ws with
   |none=>simp [h1] at h
   |some p1=>
    cases h2:zbp p1.2 with
    |none=>simp [h1,h2] at h
    |some p2=>
     simp [h1,h2] at h
     obtain ⟨rfl,_⟩:=h
     exact ⟨show 0<8 by decide,zc1 (ws1:=p1.2) h1,Gz (ws1:=p2.2) h2,z, .inr (.inl rfl)⟩
  split at h
  ·unfold zdj at h
   cases h1:zhi ws with
   |none=>simp [h1] at h
   |some p1=>
    cases h2:Ez p1.2 with
    |none=>simp [h1,h2] at h
    |some p2=>
     cases h3:zbp p2.2 with
     |none=>simp [h1,h2,h3] at h
     |some p3=>
      cases h4:zbp p3.2 with
      |none=>simp [h1,h2,h3,h4] at h
      |some p4=>
       simp [h1,h2,h3,h4] at h
       obtain ⟨rfl,_⟩:=h
       exact ⟨zdn (ws1:=p1.2) h1,zc1 (ws1:=p2.2) h2,Gz (ws1:=p3.2) h3,Gz (ws1:=p4.2) h4, .inr (.inr (.inl rfl))⟩
  split at h
  ·unfold Fh at h
   cases h1:zhi ws with
   |none=>simp [h1] at h
   |some p1=>
    cases h2:Ez p1.2 with
    |none=>simp [h1,h2] at h
    |some p2=>
     cases h3:zbp p2.2 with
     |none=>simp [h1,h2,h3] at h
     |some p3=>
      simp [h1,h2,h3] at h
      obtain ⟨rfl,_⟩:=h
      exact ⟨zdn (ws1:=p1.2) h1,zc1 (ws1:=p2.2) h2,Gz (ws1:=p3.2) h3,z, .inr (.inr (.inr (.inl rfl)))⟩
  split at h
  ·simp [zfh] at h
   obtain ⟨rfl,_⟩:=h
   exact ⟨show 0<8 by decide,z,z,z, .inr (.inr (.inr (.inr (.inl rfl))))⟩
  split at h
  ·unfold zqg at h
   cases h1:zbp ws with
   |none=>simp [h1] at h
   |some p1=>
    simp [h1] at h
    obtain ⟨rfl,_⟩:=h
    exact ⟨show 0<8 by decide,Gz (ws1:=p1.2) h1,z,z, .inr (.inr (.inr (.inr (.inr (.inl rfl)))))⟩
  split at h
  ·unfold zqh at h
   cases h1:gIn 0 4000 ws with
   |none=>simp [h1] at h
   |some p1=>
    simp [h1] at h
    obtain ⟨rfl,_⟩:=h
    exact ⟨show 0<8 by decide,z,z,z, .inr (.inr (.inr (.inr (.inr (.inr (.inl rfl))))))⟩
  split at h
  ·unfold gjz at h
   cases h1:zbp ws with
   |none=>simp [h1] at h
   |some p1=>
    cases h2:gIn 0 4000 p1.2 with
    |none=>simp [h1,h2] at h
    |some p2=>
     simp [h1,h2] at h
     obtain ⟨rfl,_⟩:=h
     exact ⟨show 0<8 by decide,Gz (ws1:=p1.2) h1,z,z, .inr (.inr (.inr (.inr (.inr (.inr (.inr (.inr (.inr (.inr rfl)))))))))⟩
  split at h
  ·unfold zgb at h
   cases h1:gIn 1 9 ws with
   |none=>simp [h1] at h
   |some p1=>
    simp [h1] at h
    obtain ⟨rfl,_⟩:=h
    exact ⟨show 0<8 by decide,z,z,z, .inr (.inr (.inr (.inr (.inr (.inr (.inr (.inl rfl)))))))⟩
  split at h
  ·simp [znz] at h
   obtain ⟨rfl,_⟩:=h
   exact ⟨show 0<8 by decide,z,z,z, .inr (.inr (.inr (.inr (.inr (.inr (.inr (.inl rfl)))))))⟩
  ·simp at h
def zqk(acc:List (List Ic)):Prop:=acc.length<=3/\ ∀c∈acc,c.length<=4000/\ ∀i∈c,okI i
theorem zu8{acc acc':List (List Ic)}(h:Gj ws acc= .ok acc')(ha:zqk acc):zqk acc'/\acc'≠[]:=by
 unfold Gj at h
 split at h
 ·simp at h
 ·split at h
  ·split at h
   ·split at h
    ·simp at h
    ·simp at h
     subst h
     refine ⟨⟨?_,?_⟩,by simp⟩
     ·have:=ha.1;simp;omega
     ·intro c hc
      simp at hc
      rcases hc with hc|rfl
      ·exact ha.2 c hc
      ·exact ⟨by simp,λi hi=>by simp at hi⟩
   ·simp at h
  ·split at h
   ·simp at h
   ·simp at h
   ·rename_i ic hi
    split at h
    ·simp at h
    ·rename_i c hc
     split at h
     ·simp at h
     ·rename_i hne
      simp at h
      subst h
      have hm:c∈acc:=List.mem_of_getLast? hc
      refine ⟨⟨?_,?_⟩,by simp⟩
      ·have h0:acc≠[]:=List.ne_nil_of_mem hm
       have:=List.length_pos_iff.2 h0
       have:=ha.1
       simp;omega
      ·intro d hd
       simp at hd
       rcases hd with hd|rfl
       ·exact ha.2 d ((List.dropLast_sublist acc).subset hd)
       ·have h1:=(ha.2 c hm).1
        refine ⟨by simp;omega,λi hi'=>?_⟩
        simp at hi'
        rcases hi' with hi'|rfl
        ·exact (ha.2 c hm).2 i hi'
        ·exact zzn hi
def zdo:Nat->List UInt8->Nat->List (List Ic)->Except (Int×Int) (List (List Ic))
 |0,_,_,acc=> .ok acc
 |f+1,r,j,acc=>if r=[]/\j≠0 then .ok acc else match Lib.cut r [10] with
  |(_,_,false)=> .error (2,j+1)
  |(l,r',true)=>match Gj (Ql l) acc with
   | .ok acc'=>zdo f r' (j+1) acc'
   | .error er=> .error (er,j+1)
theorem zql(r:List UInt8)(c:UInt8):(Lib.cut r [c]).1.length<=r.length:=by
 unfold Lib.cut
 split
 ·simp only [List.length_take];omega
 ·exact Nat.le_refl _
theorem zzo(c:UInt8):Lib.cut [] [c]=([],[],false):=rfl
theorem zn0(h:l.length<=131072):SzOk (Ql l):=by
 constructor
 ·rw [zdm]
  have:=Lib.countB_le ⟨#[32]⟩ yal _ ⟨l.toArray⟩ (Nat.le_refl _)
  have h2:(⟨l.toArray⟩:ByteArray).size=l.length:=ybv
  omega
 ·intro u hu
  have key: ∀(k:Nat) (s:ByteArray),∀u∈Lib.splitB ⟨#[32]⟩ 0 k s,u.size<=s.size:=by
   intro k
   induction k with
   |zero=>intro s u hu;simp [Lib.splitB_zero] at hu;rw [hu];exact Nat.le_refl _
   |succ k ih=>
    intro s u hu
    unfold Lib.splitB at hu
    split at hu
    ·simp at hu;rw [hu];exact Nat.le_refl _
    ·simp only [List.mem_cons] at hu
     rcases hu with rfl|hu
     ·rw [ByteArray.size_extract];omega
     ·have:=ih _ u hu
      rw [ByteArray.size_extract] at this
      omega
  have h2:(⟨l.toArray⟩:ByteArray).size=l.length:=ybv
  have:=key _ _ u hu
  omega
section
variable{W:World}{R:Except (Int×Int) (List (List Ic))}{r:List UInt8}{j:Nat}{w:World}
end
def zu9(s:ByteArray):Except (Int×Int) (List (List Ic)):=if 131072<s.size then .error (1,0) else zdo (s.size+2) s.data.toList 0 []
def FaultAt(w:World)(bf:Nat)(er ln:Int):Prop:=w.cell? ⟨bf,0,none⟩=some (.int .i64 er)/\w.cell? ⟨bf,1,none⟩=some (.int .i64 ln)
theorem zgc(W:World)(s:ByteArray)(most:Int)(tk:Value)(hs:most<(s.size:Int)):
  Cl 28 #[.string s, .int .i64 most,tk] W λe w'=>∃bf,e= .returned (.iface 64 (ptr bf))/\W.heap.size<bf/\FaultAt w' bf 1 0/\Below W.heap.size W w':=by
 go_enter_defers Tryz.func28,Tryz.ntmps28
 go_wp2
 have hsz:(W.alloc (.cells #[.iface 64 (ptr (W.heap.size+1))] 44)).heap.size=W.heap.size+1:=yaj
 have c0:=World.cell?_alloc_new (W.alloc (.cells #[.iface 64 (ptr (W.heap.size+1))] 44)) #[.int .i64 1, .int .i64 0] 68 0
 have c1:=World.cell?_alloc_new (W.alloc (.cells #[.iface 64 (ptr (W.heap.size+1))] 44)) #[.int .i64 1, .int .i64 0] 68 1
 rw [hsz] at c0 c1
 refine ⟨.iface 64 (ptr (W.heap.size+1)),?_,W.heap.size+1,rfl,by omega,⟨c0,c1⟩,((Below.refl _ W).alloc (Nat.le_refl _) _).alloc yaj _⟩
 simp [results,Tryz.results28,go_sem]
theorem FaultAt.keep{w':World}{M:Nat->Nat->Prop}(h:FaultAt w bf er ln)(hc:Chg M w w')(hM: ∀i,¬M bf i):FaultAt w' bf er ln:=
 ⟨(hc.cell bf 0 (blt h.1) (hM 0)).trans h.1,(hc.cell bf 1 (blt h.2) (hM 1)).trans h.2⟩
theorem zn1(hE:Env w)(hb:FaultAt w bf er ln):
  Cl 9 #[.iface 64 (ptr bf)] w λe w'=>e= .returned (.tuple #[.int .i64 er, .int .i64 ln])/\Below w.heap.size w w':=by
 have hlt:bf<w.heap.size:=blt hb.1
 have HE:=hid hE
 have HB:=hid hb
 clear hE hb
 go_enter Tryz.func9,Tryz.ntmps9
 go_wp2_with fail
 have hs1:(w.alloc (.cells #[.pointer none] 64)).heap.size=w.heap.size+1:=yaj
 have hb2:Below w.heap.size w ((w.alloc (.cells #[.pointer none] 64)).alloc (.cells #[.int .i64 0] 26)):=((Below.refl _ w).alloc (Nat.le_refl _) _).alloc yaj _
 have hg:((w.alloc (.cells #[.pointer none] 64)).alloc (.cells #[.int .i64 0] 26)).cell? ⟨0,0,none⟩=some (.iface 182 (.agg #[.pointer (some ⟨10,44,none⟩)])):=(HE.out.below hb2).et
 have ht0:((w.alloc (.cells #[.pointer none] 64)).alloc (.cells #[.int .i64 0] 26)).cell? ⟨w.heap.size,0,none⟩=some (.pointer none):=(World.cell?_alloc_past _ _ _ yai).trans (World.cell?_alloc_new w _ _ 0)
 have hf0:((w.alloc (.cells #[.pointer none] 64)).alloc (.cells #[.int .i64 0] 26)).frozen? ⟨w.heap.size,0,none⟩=false:=(World.frozen?_alloc_past _ _ _ yai).trans yaj
 have key:Cl 17 #[.iface 64 (ptr bf), .iface 66 (.pointer (some ⟨w.heap.size,0,none⟩))] ((w.alloc (.cells #[.pointer none] 64)).alloc (.cells #[.int .i64 0] 26)) λev w'=>ev= .returned (.bool true)/\w'.cell? ⟨w.heap.size,0,none⟩=some (.pointer (some ⟨bf,0,none⟩))/\w'.cell? ⟨bf,0,none⟩=some (.int .i64 er)/\w'.cell? ⟨bf,1,none⟩=some (.int .i64 ln)/\Below w.heap.size w w':=by
  refine (as_hit ⟨bf,0,none⟩ ⟨w.heap.size,0,none⟩ (.pointer none) _ hg ht0 hf0).mono ?_
  rintro e w' ⟨rfl,rfl⟩
  generalize hW2:(w.alloc (.cells #[.pointer none] 64)).alloc (.cells #[.int .i64 0] 26)=W2 at*
  have c9:Chg (λ_ (_:Nat)=>False) W2 ((((W2.alloc (.cells #[.pointer (some ⟨w.heap.size,0,none⟩)] 66)).alloc (.cells #[.pointer (some ⟨10,66,none⟩), .pointer (some ⟨W2.heap.size,0,none⟩), .int .u64 150] 130)).alloc (.cells #[.pointer (some ⟨10,66,none⟩), .pointer (some ⟨W2.heap.size,0,none⟩), .int .u64 150] 130)).alloc (.cells #[.pointer (some ⟨bf,0,none⟩)] 64)):=((((Chg.refl _ W2).alloc _).alloc _).alloc _).alloc _
  have c1:=(c9.mono (M':=λk (_:Nat)=>k=w.heap.size) (λ_ _ _ e=>e.elim)).setCell (b:=w.heap.size) (o:=0) (λ_=>rfl) (.pointer (some ⟨bf,0,none⟩))
  have hl2:bf<W2.heap.size:=Nat.lt_of_lt_of_le hlt hb2.size
  have hl3:w.heap.size<W2.heap.size:=blt ht0
  have e0:=(hb2.cell (p:=⟨bf,0,none⟩) hlt).trans HB.out.1
  have e1:=(hb2.cell (p:=⟨bf,1,none⟩) hlt).trans HB.out.2
  exact ⟨rfl,Qg ((c9.cell w.heap.size 0 hl3 (λe=>e)).trans ht0) rfl,(c1.cell bf 0 hl2 yai).trans e0,(c1.cell bf 1 hl2 yai).trans e1,hb2.trans (c1.below hb2.size (λk i e=>by omega))⟩
 clear hg ht0 hf0 hb2 hs1
 have HK:=hid key
 clear key
 refine HK.out.mono ?_
 rintro e w1 ⟨rfl,k1,k2,k3,k4⟩
 have K4:=hid k4
 clear k4 HK
 go_wp2
 go_region
 all_goals
  go_wp2
  go_ret2
  exact ⟨rfl,⟨K4.out.os,K4.out.tape,K4.out.output,K4.out.size,K4.out.block⟩⟩
open Go.ChangeShapes Go.WideShapes Go.ChangeAt Go.WideMaps Go.WideElems Go.RowKit
theorem gEs:Tryz.prog.globalNamed "strconv.ErrSyntax" =some 6:=yak
theorem gEr:Tryz.prog.globalNamed "strconv.ErrRange" =some 7:=yak
theorem gEt:Tryz.prog.globalNamed "errors.errorType" =some 0:=yak
theorem tEs:(Tryz.prog.globals[6]?).map (·.type)=some 44:=yak
theorem tEr:(Tryz.prog.globals[7]?).map (·.type)=some 44:=yak
theorem z4y:(Tryz.prog.cutTypes.find? (·.1== "internal/reflectlite.rtype")).map (·.2)=some 182:=yak
theorem z19:((List.range 343).filter λt=>Tryz.prog.rowNamed t [101,114,114,111,114])=[44]:=yak
theorem zqm:Tryz.prog.types.size=343:=yak
theorem zva{H:Type}{enc:TypeId×Value->H}{base:Nat}{sp:Nat->Bool}{held:Bool}{t:TypeId}{cs:List Value}{x:DataW H×List MemPlace}{ms:Array (String×TypeId)}(ht:P.underlying t=some (.interface ms))(h:DataW.trod enc P w base sp held fuel t cs=some x):
  cs=[.nilIface]\/ ∃te pe,cs=[.iface te pe]:=by
 cases fuel with
 |zero=>simp [DataW.trod] at h
 |succ n=>
  unfold DataW.trod at h
  rw [ht] at h
  match cs,h with
  |[],h=>simp at h
  |[v],h=>
   cases v with
   |nilIface=>exact .inl rfl
   |iface te pe=>exact .inr ⟨te,pe,rfl⟩
   |_=>simp at h
  |_::_::_,h=>simp at h
theorem zym{n:String}{d:DataW Unit}{g:Nat}(hg:Tryz.prog.globalNamed n=some g)(ht:(Tryz.prog.globals[g]?).map (·.type)=some 44)(h:laidMet Tryz.prog [(n,d)] W): ∃ev,W.cell? ⟨g,0,none⟩=some ev/\(ev= .nilIface\/ ∃te pe,ev= .iface te pe):=by
 obtain ⟨ps,⟨g0,t0,cs0,f0,p0,q0,hg0,ht0,hv0,hd0,_,_⟩,_,_⟩:=h
 obtain rfl:=Option.some.inj (hg.symm.trans hg0)
 obtain rfl:=Option.some.inj (ht.symm.trans ht0)
 have hc:=World.var?_cell hg0 hv0 0
 rcases zva Tryz.underlying44 hd0 with e|⟨te,pe,e⟩
 ·rw [Array.eq_one_of_toList e] at hc
  exact ⟨_,by simpa using hc, .inl rfl⟩
 ·rw [Array.eq_one_of_toList e] at hc
  exact ⟨_,by simpa using hc, .inr ⟨te,pe,rfl⟩⟩
theorem zqn{l:List (String×DataW Unit)}(hf:l.filter (λx=>x.1== "errors.errorType")=[("errors.errorType",Rows.laid_errors_errorType)])(h:laidMetH Tryz.prog l W):W.cell? ⟨0,0,none⟩=some (.iface 182 (.agg #[.pointer (some ⟨10,44,none⟩)])):=by
 have h1:=h.filter (λx=>x.1== "errors.errorType")
 rw [hf] at h1
 have h':laidMet Tryz.prog [] W/\handlesMet Tryz.prog [("errors.errorType",Rows.laid_errors_errorType)] W:=h1
 obtain ⟨name,u,ty,e1,e2,e3,e4,e5⟩:=h'.2 _ (List.mem_singleton.2 rfl)
 have en:name=[101,114,114,111,114]:=(Option.some.inj e1).symm
 subst en
 obtain rfl:=Option.some.inj (z4y.symm.trans e2)
 have hm:ty∈(List.range 343).filter λt=>Tryz.prog.rowNamed t [101,114,114,111,114]:=List.mem_filter.2 ⟨List.mem_range.2 (by rw [<-zqm];exact e3),e4⟩
 rw [z19] at hm
 obtain rfl:=List.mem_singleton.1 hm
 have hh:typeHandle Tryz.prog 44= .pointer (some ⟨10,44,none⟩):=yak
 rw [hh] at e5
 simpa using World.var?_cell gEt e5 0
theorem z2a{l:List (String×DataW Unit)}(hS:W.ShapedOpen Tryz.prog)(hL:laidMetH Tryz.prog l W)
  (f1:l.filter (λx=>x.1== "commits/ops.words")=[("commits/ops.words",Rows.laid_commits_ops_words)]) (f2:l.filter (λx=>x.1== "errors.errorType")=[("errors.errorType",Rows.laid_errors_errorType)])
  (f3:l.filter (λx=>x.1== "strconv.ErrSyntax")=[("strconv.ErrSyntax",Rows.laid_strconv_ErrSyntax)]) (f4:l.filter (λx=>x.1== "strconv.ErrRange")=[("strconv.ErrRange",Rows.laid_strconv_ErrRange)]):Env W:=by
 have h3:=hL.filter (λx=>x.1== "strconv.ErrSyntax")
 rw [f3,MakeChecks.laidMetH_plain _ _ _ yak] at h3
 have h4:=hL.filter (λx=>x.1== "strconv.ErrRange")
 rw [f4,MakeChecks.laidMetH_plain _ _ _ yak] at h4
 have hlast:9<W.heap.size:=by
  have hsome:(((begin Tryz.prog (λ_ _=>0) default).world.heap[9]?).bind Obj.row?).isSome=true:=yak
  obtain ⟨⟨zero,t⟩,h0⟩:=Option.isSome_iff_exists.1 hsome
  obtain ⟨cs,hh,_⟩:=hS.1 9 zero t (of_decide_eq_true yak) h0
  exact (Array.getElem?_eq_some_iff.1 hh).1
 exact ⟨by omega,zqa hS,znw f1 hL,zym gEs tEs h3,zym gEr tEr h4,zqn f2 hL⟩
theorem Qa(i:Nat){oi:Oper}{v:Value}{a':Act}
  (hi:ops[i]?=some oi:=by rfl) (hy:YieldsIf P ops S oi v a:=by exact .inl ⟨by rfl,by intro w hSw;(try dsimp only at hSw);go_simp;try (with_reducible rfl)⟩) (hS:S w:=by assumption)
  (ha:a.put oi.dst v=a':=by simp only [Act.put,List.setIfInBounds_toArray];rfl)
  (hs:Region.noSelect ops=true:=by kernel_rfl) (hf:Region.free md ops listed i=true:=by kernel_rfl) (hr:(Region.ready md ops listed).contains i=true:=by kernel_rfl) (hQ: ∀c a w,Q (.panic c) (a.put oi.dst v) w->Q (.panic c) a w:=by exact λ_ _ _ h=>h)
  (h:wpAnyH P md ops Q S fuel (listed.setIfInBounds i true) a' w):wpAnyH P md ops Q S (fuel+1) listed a w:=by
 subst ha
 exact wpAnyH_take hi hs hf hr hQ hy hS h
theorem z6u(rs:List Nat)(h:AllReadyH P md ops Q S fuel listed a w rs)(hr:Region.ready md ops listed=rs:=by kernel_rfl)(hne:rs≠[]:=by simp):wpAnyH P md ops Q S (fuel+1) listed a w:=wpAnyH_ready hr hne h
section
variable{p:Prop}
theorem z7i(h:p:=by (try dsimp only);(first|go_keep|(refine ⟨(Qb (.inl n1)).trans ?_,(Qb (.inl n2)).trans ?_,(Qb (.inl n3)).trans ?_⟩<;>assumption))):p:=h
theorem z7n(h:p:=by (try dsimp only);(first|go_keep|exact (Qb (.inl ncb)).trans (by assumption))):p:=h
theorem z7t(h:p:=by (try dsimp only);(first|exact ⟨f0,f5⟩|exact ⟨H2.out.keep (br,0,ptr bp) (by simp),H2.out.keep (bp,1, .int .i64 c) (by simp)⟩|go_keep)):p:=h
theorem z70(h:p:=by (try dsimp only);(first|exact d3|exact H1.out.keep (bw,1, .string x) (by simp)|go_keep)):p:=h
end
def small(b:UInt8):Bool:=decide (97<=b.toNat)&&decide (b.toNat<=122)
def Vo(u:ByteArray):Bool:=decide (0<u.size)&&(decide (u.size<=6)&&u.data.toList.all small)
structure PV where
 name:ByteArray
 num:Int
def pvV(x:PV):Value:= .agg #[.string x.name, .int .i64 x.num]
def gNm:List ByteArray->Option (ByteArray×List ByteArray)
 |[]=>none
 |u::ws=>if Vo u=true then some (u,ws) else none
def gPV:List ByteArray->Option (PV×List ByteArray)
 |[]=>none
 |u::ws=>if Vo u=true then some (⟨u,0⟩,ws) else (Qk u).map λv=>(⟨ByteArray.empty,v⟩,ws)
section
variable{w:World}{bl bw:Nat}{n:Int}{ws ws1:List ByteArray}
theorem zl0(h:u.data.toList.all small=true)(j:Nat)(hj:j<u.size):97<=u[j].toNat/\u[j].toNat<=122:=by
 have:=List.all_eq_true.1 h u[j] (by
  have:u[j]=u.data.toList[j]'(by simpa using hj):=ycs
  rw [this]
  exact List.getElem_mem _)
 simpa [small] using this
theorem zl1(h:u.data.toList.all small=false): ∃k,∃hk:k<u.size,(u[k].toNat<97\/122<u[k].toNat)/\ ∀j (h:j<u.size),j<k->97<=u[j].toNat/\u[j].toNat<=122:=by
 have hex: ∃k,∃hk:k<u.size,u[k].toNat<97\/122<u[k].toNat:=by
  obtain ⟨x,hx,hs⟩:=List.all_eq_false.1 h
  obtain ⟨k,hk,rfl⟩:=List.getElem_of_mem hx
  have hk':k<u.size:=by simpa using hk
  refine ⟨k,hk',?_⟩
  have:u[k]=u.data.toList[k]:=ycs
  rw [this]
  simp [small] at hs
  simp
  omega
 classical
 obtain ⟨k,hk⟩: ∃k,(∃hk:k<u.size,u[k].toNat<97\/122<u[k].toNat)/\ ∀j,j<k->¬∃hk:j<u.size,u[j].toNat<97\/122<u[j].toNat:=by
  have: ∀n,(∃k,k<n/\ ∃hk:k<u.size,u[k].toNat<97\/122<u[k].toNat)->∃k,(∃hk:k<u.size,u[k].toNat<97\/122<u[k].toNat)/\ ∀j,j<k->¬∃hk:j<u.size,u[j].toNat<97\/122<u[j].toNat:=by
   intro n
   induction n with
   |zero=>rintro ⟨k,hk,_⟩;omega
   |succ n ih=>
    rintro ⟨k,hk,h⟩
    by_cases hlt: ∃k,k<n/\ ∃hk:k<u.size,u[k].toNat<97\/122<u[k].toNat
    ·exact ih hlt
    ·have:k=n:=by
      by_cases h':k<n
      ·exact absurd ⟨k,h',h⟩ hlt
      ·omega
     subst this
     exact ⟨k,h,λj hj hh=>hlt ⟨j,hj,hh⟩⟩
  obtain ⟨k,hk⟩:=hex
  exact this (k+1) ⟨k,by omega,hk⟩
 obtain ⟨⟨hlt,hb⟩,hf⟩:=hk
 refine ⟨k,hlt,hb,λj hj hjk=>?_⟩
 have:=hf j hjk
 have h2: ¬(u[j].toNat<97\/122<u[j].toNat):=λh=>this ⟨hj,h⟩
 omega
theorem zjs(w:World)(u:ByteArray)(h:u.size=0\/6<u.size):
  Cl 108 #[.string u] w λe w'=>e= .returned (.bool false)/\w'=w:=by
 by_cases h0:u.size=0
 ·have he:u.toList.isEmpty=true:=by
   rw [ByteArray.toList_eq]
   have:u.data.toList=[]:=List.length_eq_zero_iff.1 (by simpa using h0)
   rw [this];rfl
  go_enter Tryz.func108,Tryz.ntmps108
  go_wp2
  go_ret
  exact ⟨rfl,rfl⟩
 ·have he:u.toList.isEmpty=false:=Ey yai
  have h6:(6:Int)<(u.size:Int):=yai
  go_enter Tryz.func108,Tryz.ntmps108
  go_wp2
  go_ret
  exact ⟨rfl,rfl⟩
theorem zn2(w:World)(u:ByteArray)(h0:0<u.size)(h6:u.size<=6)(hd:Hid (∀j (h:j<u.size),97<=u[j].toNat/\u[j].toNat<=122)):
  Cl 108 #[.string u] w λe w'=>e= .returned (.bool true)/\w'=w:=by
 have he:u.toList.isEmpty=false:=Ey yai
 have h6': ¬(6:Int)<(u.size:Int):=yai
 go_enter Tryz.func108,Tryz.ntmps108
 go_wp2
 go_loopw [13] (λv wr=>∃k:Nat,k<=u.size/\v= .int .i64 k/\wr=w) (λv _=>u.size- (intOf v).toNat)
 case atStart=>exact ⟨0,by omega,rfl,rfl⟩
 case round=>
  obtain ⟨k,hk,rfl,rfl⟩:=hrel
  by_cases hlt:k<u.size
  ·exact z79
  ·have hlt': ¬(k:Int)<(u.size:Int):=by omega
   go_wp2
   go_ret
   exact ⟨rfl,rfl⟩
theorem zqo(w:World)(u:ByteArray)(h0:0<u.size)(h6:u.size<=6)(k0:Nat)(hk0:k0<u.size)(hb:u[k0].toNat<97\/122<u[k0].toNat)(hd:Hid (∀j (h:j<u.size),j<k0->97<=u[j].toNat/\u[j].toNat<=122)):
  Cl 108 #[.string u] w λe w'=>e= .returned (.bool false)/\w'=w:=by
 have he:u.toList.isEmpty=false:=Ey yai
 have h6': ¬(6:Int)<(u.size:Int):=yai
 go_enter Tryz.func108,Tryz.ntmps108
 go_wp2
 go_loopw [13] (λv wr=>∃k:Nat,k<=k0/\v= .int .i64 k/\wr=w) (λv _=>u.size- (intOf v).toNat)
 case atStart=>exact ⟨0,by omega,rfl,rfl⟩
 case round=>exact z7s
theorem Fj(w:World)(u:ByteArray):Cl 108 #[.string u] w λe w'=>e= .returned (.bool (Vo u))/\w'=w:=by
 by_cases h0:u.size=0\/6<u.size
 ·have e:Vo u=false:=by
   unfold Vo
   rcases h0 with h|h
   ·have: ¬0<u.size:=by omega
    simp [this]
   ·have: ¬u.size<=6:=by omega
    simp [this]
  rw [e]
  exact zjs w u h0
 ·have h1:0<u.size:=by omega
  have h6:u.size<=6:=yai
  have e:Vo u=u.data.toList.all small:=by unfold Vo;simp [h1,h6]
  rw [e]
  cases ha:u.data.toList.all small with
  |true=>exact zn2 w u h1 h6 (zl0 ha)
  |false=>
   obtain ⟨k,hk,hb,hd⟩:=zl1 ha
   exact zqo w u h1 h6 k hk hb hd
theorem zcp(h:LineAt w bl n bw ws)(hz:SzOk ws):
  Cl 77 #[ptr bl] w λe w'=>Rds bl n bw w ((gNm ws).map λp=>(.string p.1,p.2)) e w':=by
 have H:=hid h
 clear h
 cases ws with
 |nil=>
  go_enter Tryz.func77,Tryz.ntmps77
  go_wp2_with fail
  refine (Fg H.out).mono ?_
  rintro e w1 ⟨bf,rfl,h1⟩
  exact ⟨rfl,bf,rfl,h1⟩
 |cons u ws=>
  cases hr:Vo u with
  |true=>
   have e:((gNm (u::ws)).map λp=>((.string p.1:Value),p.2))=some (.string u,ws):=by simp [gNm,hr]
   rw [e]
   go_enter Tryz.func77,Tryz.ntmps77
   go_wp2_with fail
   refine (Ve H.out hz.len).mono ?_
   rintro e w1 ⟨rfl,h1,c1⟩
   have H1:=hid h1
   have C1:=hid c1
   clear h1 c1
   go_wp2_with fail
   refine (Fj w1 u).mono ?_
   rintro e w2 ⟨rfl,rfl⟩
   rw [hr]
   go_wp2
   go_ret
   exact ⟨rfl,H1.out,C1.out⟩
  |false=>
   have e:((gNm (u::ws)).map λp=>((.string p.1:Value),p.2))=none:=by simp [gNm,hr]
   rw [e]
   go_enter Tryz.func77,Tryz.ntmps77
   go_wp2_with fail
   refine (Ve H.out hz.len).mono ?_
   rintro e w1 ⟨rfl,h1,c1⟩
   have H1:=hid h1
   have C1:=hid c1
   clear h1 c1
   go_wp2_with fail
   refine (Fj w1 u).mono ?_
   rintro e w2 ⟨rfl,rfl⟩
   rw [hr]
   go_wp2_with fail
   refine (Jv H1.out 2).mono ?_
   intro e w3 h3
   obtain ⟨bf,rfl,h4⟩:=h3.after C1.out
   exact ⟨rfl,bf,rfl,h4⟩
abbrev pvW(w:World):World:=w.alloc (.cells #[.string ⟨#[]⟩, .int .i64 0] 202)
structure PvRes(bl:Nat)(w w1:World):Prop where
 c0:w1.cell? ⟨w.heap.size,0,none⟩=some (.string ⟨#[]⟩)
 c1:w1.cell? ⟨w.heap.size,1,none⟩=some (.int .i64 0)
 f0:w1.frozen? ⟨w.heap.size,0,none⟩=false
 f1:w1.frozen? ⟨w.heap.size,1,none⟩=false
 lt:w.heap.size<w1.heap.size
 chg:Chg (Jo bl) w w1
theorem zqp(hb:bl<w.heap.size)(c:Chg (Jo bl) (pvW w) w1):PvRes bl w w1:=by
 have hs:(pvW w).heap.size=w.heap.size+1:=by simp [pvW]
 have h1:=c.size
 have k: ∀o,w1.cell? ⟨w.heap.size,o,none⟩=(pvW w).cell? ⟨w.heap.size,o,none⟩:=λo=>c.cell _ _ yai (λe=>by omega)
 have kf: ∀o,w1.frozen? ⟨w.heap.size,o,none⟩=(pvW w).frozen? ⟨w.heap.size,o,none⟩:=λo=>c.frozen _ _ yai
 exact ⟨(k 0).trans (World.cell?_alloc_new _ _ _ 0),(k 1).trans (World.cell?_alloc_new _ _ _ 1),(kf 0).trans (by simp [pvW]),(kf 1).trans (by simp [pvW]),by omega,((Chg.refl _ w).alloc _).trans c⟩
theorem PvRes.done(h:PvRes bl w w1)(a b:Value):(World.setCell (w1.setCell ⟨w.heap.size,0,none⟩ a) ⟨w.heap.size,1,none⟩ b).cell? ⟨w.heap.size,0,none⟩=some a/\(World.setCell (w1.setCell ⟨w.heap.size,0,none⟩ a) ⟨w.heap.size,1,none⟩ b).cell? ⟨w.heap.size,1,none⟩=some b/\Chg (Jo bl) w ((w1.setCell ⟨w.heap.size,0,none⟩ a).setCell ⟨w.heap.size,1,none⟩ b)/\Chg (λk _=>k=w.heap.size) w1 ((w1.setCell ⟨w.heap.size,0,none⟩ a).setCell ⟨w.heap.size,1,none⟩ b):=
 ⟨(Qb yai).trans (Qg h.c0 rfl),Qg ((Qb yai).trans h.c1) rfl,(h.chg.setCell (λe=>absurd e (Nat.lt_irrefl _)) a).setCell (λe=>absurd e (Nat.lt_irrefl _)) b,((Chg.refl (λk _=>k=w.heap.size) w1).setCell (λ_=>rfl) a).setCell (λ_=>rfl) b⟩
theorem LineAt.done(h:LineAt w1 bl n bw ws)(hb:bl<w.heap.size)(hw:bw<w.heap.size)(c:Chg (λk _=>k=w.heap.size) w1 W):LineAt W bl n bw ws:=h.keep c (λ_ e=>by omega) (λ_ e=>by omega)
theorem Oh(h:LineAt w bl n bw ws)(hE:Hid (Env w))(hbl:10<=bl)(hz:SzOk ws):
  Cl 82 #[ptr bl] w λe w'=>Rds bl n bw w ((gPV ws).map λp=>(pvV p.1,p.2)) e w':=by
 have hlt:=h.lt
 have hltw:=h.ltw
 have bel:Below w.heap.size w (pvW w):=(Below.refl _ w).alloc (Nat.le_refl _) _
 have H:=hid (h.below bel)
 have E1:=hid (hE.out.below bel)
 have A0:=hid ((Chg.refl (Jo bl) w).alloc (.cells #[.string ⟨#[]⟩, .int .i64 0] 202))
 clear h bel
 cases ws with
 |nil=>
  go_enter Tryz.func82,Tryz.ntmps82
  go_wp2_with fail
  refine (Fg H.out).mono ?_
  intro e w3 h3
  obtain ⟨bf,rfl,h4⟩:=h3.after A0.out
  exact ⟨rfl,bf,rfl,h4⟩
 |cons u ws=>
  cases hr:Vo u with
  |true=>
   have e:((gPV (u::ws)).map λp=>(pvV p.1,p.2))=some (.agg #[.string u, .int .i64 0],ws):=by simp [gPV,hr,pvV]
   rw [e]
   go_enter Tryz.func82,Tryz.ntmps82
   go_wp2_with fail
   refine (Ve H.out hz.len).mono ?_
   rintro e w1 ⟨rfl,h1,c1⟩
   have H1:=hid h1
   have hp:=zqp hlt c1
   have HP:=hid hp
   obtain ⟨d0,d1,g0,g1,gl,_⟩:=hp
   clear h1 c1
   go_wp2_with fail
   refine (Fj w1 u).mono ?_
   rintro e w2 ⟨rfl,rfl⟩
   rw [hr]
   go_wp2
   obtain ⟨z0,z1,z2,z3⟩:=HP.out.done (.string u) (.int .i64 0)
   refine ⟨rfl, .agg #[.string u, .int .i64 0],?_,rfl,H1.out.done hlt hltw z3,z2⟩
   clear z2 z3
   generalize (w2.setCell ⟨w.heap.size,0,none⟩ (.string u)).setCell ⟨w.heap.size,1,none⟩ (.int .i64 0)=W' at*
   simp [results,Tryz.results82,go_sem,z0,z1]
  |false=>
   cases hv:Qk u with
   |some v=>
    have e:((gPV (u::ws)).map λp=>(pvV p.1,p.2))=some (.agg #[.string ByteArray.empty, .int .i64 v],ws):=by simp [gPV,hr,hv,pvV]
    rw [e]
    go_enter Tryz.func82,Tryz.ntmps82
    go_wp2_with fail
    refine (Ve H.out hz.len).mono ?_
    rintro e w1 ⟨rfl,h1,c1⟩
    have H1:=hid h1
    have C1:=hid c1
    clear h1 c1
    go_wp2_with fail
    refine (Fj w1 u).mono ?_
    rintro e w2 ⟨rfl,rfl⟩
    rw [hr]
    go_wp2_with fail
    refine (Og (E1.out.line C1.out hbl) u hz.head).mono ?_
    rintro e w2 ⟨rfl,b2⟩
    have H2:=hid (H1.out.below b2)
    have hp:=zqp hlt (C1.out.trans (Chg.of_below b2))
    have HP:=hid hp
    obtain ⟨d0,d1,g0,g1,gl,_⟩:=hp
    clear b2 H1 C1
    rw [hv]
    go_wp2
    obtain ⟨z0,z1,z2,z3⟩:=HP.out.done (.string ⟨#[]⟩) (.int .i64 v)
    refine ⟨rfl, .agg #[.string ByteArray.empty, .int .i64 v],?_,rfl,H2.out.done hlt hltw z3,z2⟩
    clear z2 z3
    generalize (w2.setCell ⟨w.heap.size,0,none⟩ (.string ⟨#[]⟩)).setCell ⟨w.heap.size,1,none⟩ (.int .i64 v)=W' at*
    simp [results,Tryz.results82,go_sem,z0,z1]
    rfl
   |none=>
    have e:((gPV (u::ws)).map λp=>(pvV p.1,p.2))=none:=by simp [gPV,hr,hv]
    rw [e]
    go_enter Tryz.func82,Tryz.ntmps82
    go_wp2_with fail
    refine (Ve H.out hz.len).mono ?_
    rintro e w1 ⟨rfl,h1,c1⟩
    have H1:=hid h1
    have C1:=hid c1
    clear h1 c1
    go_wp2_with fail
    refine (Fj w1 u).mono ?_
    rintro e w2 ⟨rfl,rfl⟩
    rw [hr]
    go_wp2_with fail
    refine (Og (E1.out.line C1.out hbl) u hz.head).mono ?_
    rintro e w2 ⟨rfl,b2⟩
    have H2:=hid (H1.out.below b2)
    have C2:=hid (A0.out.trans (C1.out.trans (Chg.of_below b2)))
    clear b2 H1 C1
    rw [hv]
    go_wp2_with fail
    refine (Jv H2.out 2).mono ?_
    intro e w3 h3
    obtain ⟨bf,rfl,h4⟩:=h3.after C2.out
    exact ⟨rfl,bf,rfl,h4⟩
end
end Go.Proofs.YtphcopbffecceaaGreatDoor
