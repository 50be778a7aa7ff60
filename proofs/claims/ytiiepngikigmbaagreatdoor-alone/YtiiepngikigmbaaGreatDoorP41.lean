import Derived.Test.YtiiepngikigmbaaGreatDoorP19
set_option maxRecDepth 100000
set_option maxHeartbeats 1000000
namespace Go.Proofs.YtiiepngikigmbaaGreatDoor
open Go.RowKit
variable{N:Nat}{A:List (Th×List Ic)}{ws ws1:List ByteArray}{cs:List (List Ic)}
def okL(i:Ic):Prop:=i.k=8\/i.k=9->0<=i.n
theorem yeo{lo hi v:Int}(h:gIn lo hi ws=some (v,ws1)):lo<=v:=by
 unfold gIn at h
 cases h1:zco ws with
 |none=>simp [h1] at h
 |some q=>
  simp [h1] at h
  obtain ⟨⟨a,_⟩,rfl⟩:=h
  exact a
theorem yfy{u:ByteArray}{ic:Ic}(h:zbm u ws=some (ic,ws1)):okL ic:=by
 unfold zbm at h
 split at h
 ·unfold gop at h
  cases h1:zhi ws with
  |none=>simp [h1] at h
  |some p1=>
   cases h2:zbp p1.2 with
   |none=>simp [h1,h2] at h
   |some p2=>exact yk9
 ·split at h
  ·unfold zly at h
   cases h1:zhi ws with
   |none=>simp [h1] at h
   |some p1=>exact ylb
  split at h
  ·unfold Ia at h
   cases h1:zhi ws with
   |none=>simp [h1] at h
   |some p1=>
    cases h2:Ez p1.2 with
    |none=>simp [h1,h2] at h
    |some p2=>
     simp [h1,h2] at h
     obtain ⟨rfl,_⟩:=h
     intro hk;simp at hk
  split at h
  ·unfold Xq at h
   cases h1:Ez ws with
   |none=>simp [h1] at h
   |some p1=>exact ylb
  split at h
  ·unfold zdj at h
   cases h1:zhi ws with
   |none=>simp [h1] at h
   |some p1=>
    cases h2:Ez p1.2 with
    |none=>simp [h1,h2] at h
    |some p2=>
     cases h3:zbp p2.2 with
     |none=>simp [h1,h2,h3] at h
     |some p3=>
      cases h4:zbp p3.2 with
      |none=>simp [h1,h2,h3,h4] at h
      |some p4=>
       simp [h1,h2,h3,h4] at h
       obtain ⟨rfl,_⟩:=h
       intro hk;simp at hk
  split at h
  ·unfold Fh at h
   cases h1:zhi ws with
   |none=>simp [h1] at h
   |some p1=>
    cases h2:Ez p1.2 with
    |none=>simp [h1,h2] at h
    |some p2=>exact yk9
  split at h
  ·simp [zfh] at h
   obtain ⟨rfl,_⟩:=h
   intro hk;simp at hk
  split at h
  ·unfold zqg at h
   cases h1:zbp ws with
   |none=>simp [h1] at h
   |some p1=>
    simp [h1] at h
    obtain ⟨rfl,_⟩:=h
    intro hk;simp at hk
  split at h
  ·unfold zqh at h
   cases h1:gIn 0 4000 ws with
   |none=>simp [h1] at h
   |some p1=>
    simp [h1] at h
    obtain ⟨rfl,_⟩:=h
    intro _;exact yeo (ws1:=p1.2) h1
  split at h
  ·unfold gjz at h
   cases h1:zbp ws with
   |none=>simp [h1] at h
   |some p1=>
    cases h2:gIn 0 4000 p1.2 with
    |none=>simp [h1,h2] at h
    |some p2=>
     simp [h1,h2] at h
     obtain ⟨rfl,_⟩:=h
     intro _;exact yeo (ws1:=p2.2) h2
  split at h
  ·unfold zgb at h
   cases h1:gIn 1 9 ws with
   |none=>simp [h1] at h
   |some p1=>
    simp [h1] at h
    obtain ⟨rfl,_⟩:=h
    intro hk;simp at hk
  split at h
  ·simp [znz] at h
   obtain ⟨rfl,_⟩:=h
   intro hk;simp at hk
  ·simp at h
def yhm(acc:List (List Ic)):Prop:=∀c∈acc,∀i∈c,okL i
theorem yep{acc acc':List (List Ic)}(h:Gj ws acc= .ok acc')(ha:yhm acc):yhm acc':=by
 unfold Gj at h
 split at h
 ·simp at h
 ·split at h
  ·split at h
   ·split at h
    ·simp at h
    ·simp at h
     subst h
     intro c hc
     simp at hc
     rcases hc with hc|rfl
     ·exact ha c hc
     ·intro i hi;simp at hi
   ·simp at h
  ·split at h
   ·simp at h
   ·simp at h
   ·rename_i ic hi
    split at h
    ·simp at h
    ·rename_i c hc
     split at h
     ·simp at h
     ·simp at h
      subst h
      have hm:c∈acc:=List.mem_of_getLast? hc
      intro d hd
      simp at hd
      rcases hd with hd|rfl
      ·exact ha d ((List.dropLast_sublist acc).subset hd)
      ·intro i hi'
       simp at hi'
       rcases hi' with hi'|rfl
       ·exact ha c hm i hi'
       ·exact yfy hi
theorem yba: ∀(f:Nat) (r:List UInt8) (j:Nat) (acc cs:List (List Ic)),zdo f r j acc= .ok cs->yhm acc->yhm cs
 |0,r,j,acc,cs,h,ha=>by simp [zdo] at h;exact h▸ha
 |f+1,r,j,acc,cs,h,ha=>by
  unfold zdo at h
  split at h
  ·simp at h;exact h▸ha
  ·split at h
   ·simp at h
   ·split at h
    ·rename_i acc' hg
     exact yba f _ _ acc' cs h (yep hg ha)
    ·simp at h
theorem yeq{s:ByteArray}(h:zu9 s= .ok cs):yhm cs:=by
 unfold zu9 at h
 split at h
 ·simp at h
 ·exact yba _ _ _ _ _ h (λc hc=>by simp at hc)
def Fine(N:Nat)(A:List (Th×List Ic)):Prop:=∀p∈A,0<=p.1.pl/\p.2.length<=4000/\(∀i∈p.2,okI i/\okL i)/\p.1.out.length<=N
theorem Fine.ok(h:Fine N A)(hN:N<1099511627776):okA A:=λp hp=>
 ⟨(h p hp).1,(h p hp).2.1,λi hi=>((h p hp).2.2.1 i hi).1,by have:=(h p hp).2.2.2;omega⟩
def yer(T:Th)(R:Th×(Nat->Int)):Prop:=0<=R.1.pl/\R.1.out.length<=T.out.length+1
theorem ybj{T:Th}{c:Prop} [Decidable c]{a b:Th×(Nat->Int)}(ha:c->yer T a)(hb: ¬c->yer T b):yer T (if c then a else b):=by
 by_cases h:c
 ·rw [if_pos h];exact ha h
 ·rw [if_neg h];exact hb h
theorem yfz(i:Ic)(T:Th)(m:Nat->Int)(hp:0<=T.pl)(hl:okL i):0<=(doI i T m).1.pl/\(doI i T m).1.out.length<=T.out.length+1:=by
 show yer T (doI i T m)
 have z: ∀(r:Nat->Int) (q:List (Int×Int)) (s:Int) (m':Nat->Int),yer T (⟨r,T.pl,q,T.out,s⟩,m'):=λ_ _ _ _=>⟨hp,Nat.le_succ _⟩
 unfold doI
 refine ybj (λ_=>ybj (λ_=>z _ _ _ _) (λ_=>z _ _ _ _)) (λ_=>?_)
 refine ybj (λ_=>ybj (λ_=>z _ _ _ _) (λ_=>z _ _ _ _)) (λ_=>?_)
 refine ybj (λ_=>ybj (λ_=>ybj (λ_=>z _ _ _ _) (λ_=>z _ _ _ _)) (λ_=>z _ _ _ _)) (λ_=>?_)
 refine ybj (λ_=>ybj (λ_=>z _ _ _ _) (λ_=>z _ _ _ _)) (λ_=>?_)
 refine ybj (λ_=>z _ _ _ _) (λ_=>?_)
 refine ybj (λ_=>⟨hp,by simp⟩) (λ_=>?_)
 refine ybj (λh=>⟨hl (.inl h),Nat.le_succ _⟩) (λ_=>?_)
 refine ybj (λ_=>z _ _ _ _) (λ_=>?_)
 refine ybj (λ_=>?_) (λ_=>?_)
 ·cases opV i.op (i.a.of T) (i.b.of T) with
  |some v=>exact z _ _ _ _
  |none=>exact z _ _ _ _
 refine ybj (λh=>ybj (λ_=>⟨hl (.inr h),Nat.le_succ _⟩) (λ_=>⟨hp,Nat.le_succ _⟩)) (λ_=>z _ _ _ _)
theorem ydg(T:Th)(m:Nat->Int)(c:List Ic)(hp:0<=T.pl)(hl: ∀i∈c,okL i):0<=(z6w T m c).1.pl/\(z6w T m c).1.out.length<=T.out.length+1:=by
 unfold z6w
 split
 ·split
  ·rename_i i hi
   have:=yfz i {T with pl:=T.pl+1} m (by show 0<=T.pl+1;omega) (hl i (List.mem_of_getElem? hi))
   exact this
  ·exact ⟨hp,by simp⟩
 ·exact ⟨hp,by simp⟩
theorem Fine.step(h:Fine N A)(m:Nat->Int)(i:Nat):Fine (N+1) (z7b A m i).1:=by
 unfold z7b
 split
 ·exact λp hp=>⟨(h p hp).1,(h p hp).2.1,(h p hp).2.2.1,by have:=(h p hp).2.2.2;omega⟩
 ·rename_i q hq
  have hqm:q∈A:=List.mem_of_getElem? hq
  intro p hp
  rcases List.mem_or_eq_of_mem_set hp with hp|rfl
  ·exact ⟨(h p hp).1,(h p hp).2.1,(h p hp).2.2.1,by have:=(h p hp).2.2.2;omega⟩
  ·have hs:=ydg q.1 m q.2 (h q hqm).1 (λi hi=>((h q hqm).2.2.1 i hi).2)
   exact ⟨hs.1,(h q hqm).2.1,(h q hqm).2.2.1,by have:=(h q hqm).2.2.2;have:=hs.2;show (z6w q.1 m q.2).1.out.length<=_;omega⟩
theorem Fine.flush(h:Fine N A)(m:Nat->Int)(i:Nat):Fine N (z69 A m i).1:=by
 unfold z69
 split
 ·exact h
 ·rename_i q hq
  have hqm:q∈A:=List.mem_of_getElem? hq
  intro p hp
  rcases List.mem_or_eq_of_mem_set hp with hp|rfl
  ·exact h p hp
  ·have e1:(z6y q.1 m).1.pl=q.1.pl/\(z6y q.1 m).1.out=q.1.out:=by unfold z6y;split<;>exact ⟨rfl,rfl⟩
   exact ⟨by show 0<=(z6y q.1 m).1.pl;rw [e1.1];exact (h q hqm).1,(h q hqm).2.1,(h q hqm).2.2.1,by show (z6y q.1 m).1.out.length<=N;rw [e1.2];exact (h q hqm).2.2.2⟩
theorem Fine.steps(h:Fine N A)(m:Nat->Int)(i:Nat): ∀k,Fine (N+k) (z9i A m i k).1
 |0=>h
 |k+1=>(Fine.steps h m i k).step _ i
theorem Fine.mono{M:Nat}(h:Fine N A)(hNM:N<=M):Fine M A:=λp hp=>⟨(h p hp).1,(h p hp).2.1,(h p hp).2.2.1,Nat.le_trans (h p hp).2.2.2 hNM⟩
theorem yes(h:zqk cs)(hl:yhm cs):Fine 0 (cs.map λc=>(Th.init,c)):=by
 intro p hp
 simp at hp
 obtain ⟨c,hc,rfl⟩:=hp
 exact ⟨by simp [Th.init],(h.2 c hc).1,λi hi=>⟨(h.2 c hc).2 i hi,hl c hc i hi⟩,by simp [Th.init]⟩
theorem yjp{D Dx:Nat->Prop}{w w1:World}{bx:Nat}{Ax:List (Th×List Ic)}{mx:Nat->Int}(h:MRep Dx w bx Ax mx)(hc:Chg (λk _=>D k\/w.heap.size<=k) w w1)(hd: ∀k,Dx k->¬D k)(hlt: ∀k,Dx k->k<w.heap.size):MRep Dx w1 bx Ax mx:=
 h.keep hc (λk hk _ i e=>e.elim (hd k hk) (λe=>by have:=hlt k hk;omega))
section
variable{D:Nat->Prop}{w:World}{bm:Nat}{A:List (Th×List Ic)}{m:Nat->Int}{ts:List Tr}
theorem ydh(h:MAt D w bm m ts)(i:Nat)(hi:ts.length<=i):
  Cl 19 #[ptr bm, .int .i64 i] w λe w'=>e= .returned (.int .i64 10)/\w'=w:=by
 obtain ⟨bt,cap,h1,h3⟩:=h.slot
 clear h h3
 go_enter Tryz.func19,Tryz.ntmps19
 go_wp2_with fail
 refine (yee bm bt _ cap i h1 hi).mono ?_
 rintro e w' ⟨rfl,rfl⟩
 go_wp2
 go_ret
 exact ⟨rfl,rfl⟩
theorem yac(v:Int)(i:Nat)(hs:Hid (Cl 19 #[ptr bm, .int .i64 i] w λe w'=>e= .returned (.int .i64 v)/\w'=w)):
  Cl 11 #[ptr bm, .int .i64 i] w λe w'=>e= .returned (.int .i64 v)/\w'=w:=by
 go_enter Tryz.func11,Tryz.ntmps11
 go_wp2_with fail
 refine hs.out.mono ?_
 rintro e w' ⟨rfl,rfl⟩
 go_wp2
 go_ret
 exact ⟨rfl,rfl⟩
theorem yci(h:MRep D w bm A m)(i:Nat):
  Cl 11 #[ptr bm, .int .i64 i] w λe w'=>e= .returned (.int .i64 (z7c A i))/\w'=w:=by
 obtain ⟨ts,h1,h2⟩:=h
 have hl:ts.length=A.length:=by rw [<-h2];simp
 by_cases hi:i<ts.length
 ·have e:z7c A i=ts[i].T.st:=by unfold z7c;rw [<-h2];simp [hi]
  rw [e]
  exact yac _ i (ybv h1 i hi)
 ·have e:z7c A i=10:=by unfold z7c;rw [List.getElem?_eq_none yl5];rfl
  rw [e]
  exact yac _ i (ydh h1 i yl5)
end
end Go.Proofs.YtiiepngikigmbaaGreatDoor
