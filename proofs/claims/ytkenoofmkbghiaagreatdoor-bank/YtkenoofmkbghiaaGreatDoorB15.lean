import Derived.Test.YtkenoofmkbghiaaGreatDoorB14
set_option maxRecDepth 100000
set_option maxHeartbeats 1000000
namespace Go.Proofs.YtkenoofmkbghiaaGreatDoor
open Go.RowKit
variable{N i:Nat}{A:List (Th×List Ic)}{W w:World}{ws ws1:List ByteArray}{l:List (String×DataW Unit)}{cs:List (List Ic)}
open Go.ChangeShapes Go.WideShapes Go.ChangeAt Go.WideMaps Go.WideElems Go.RowKit
theorem gEs:Tryz.prog.globalNamed "strconv.ErrSyntax" =some 6:=yug
theorem gEr:Tryz.prog.globalNamed "strconv.ErrRange" =some 7:=yug
theorem gEt:Tryz.prog.globalNamed "errors.errorType" =some 0:=yug
theorem tEs:(Tryz.prog.globals[6]?).map (·.type)=some 45:=yug
theorem tEr:(Tryz.prog.globals[7]?).map (·.type)=some 45:=yug
theorem z4y:(Tryz.prog.cutTypes.find? (·.1== "internal/reflectlite.rtype")).map (·.2)=some 172:=yug
theorem z19:((List.range 381).filter λt=>Tryz.prog.rowNamed t [101,114,114,111,114])=[45]:=yug
theorem zqm:Tryz.prog.types.size=381:=yug
theorem zva{H:Type}{enc:TypeId×Value->H}{P:Program}{base fuel:Nat}{sp:Nat->Bool}{held:Bool}{t:TypeId}{cs:List Value}{x:DataW H×List MemPlace}{ms:Array (String×TypeId)}(ht:P.underlying t=some (.interface ms))(h:DataW.trod enc P w base sp held fuel t cs=some x):
  cs=[.nilIface]\/ ∃te pe,cs=[.iface te pe]:=by
 cases fuel with
 |zero=>simp [DataW.trod] at h
 |succ n=>
  unfold DataW.trod at h
  rw [ht] at h
  match cs,h with
  |[],h=>simp at h
  |[v],h=>
   cases v with
   |nilIface=>exact .inl rfl
   |iface te pe=>exact .inr ⟨te,pe,rfl⟩
   |_=>simp at h
  |_::_::_,h=>simp at h
theorem zym{n:String}{d:DataW Unit}{g:Nat}(hg:Tryz.prog.globalNamed n=some g)(ht:(Tryz.prog.globals[g]?).map (·.type)=some 45)(h:laidMet Tryz.prog [(n,d)] W): ∃ev,W.cell? ⟨g,0,none⟩=some ev/\(ev= .nilIface\/ ∃te pe,ev= .iface te pe):=by
 obtain ⟨ps,⟨g0,t0,cs0,f0,p0,q0,hg0,ht0,hv0,hd0,_,_⟩,_,_⟩:=h
 obtain rfl:=Option.some.inj (hg.symm.trans hg0)
 obtain rfl:=Option.some.inj (ht.symm.trans ht0)
 have hc:=World.var?_cell hg0 hv0 0
 rcases zva Tryz.underlying45 hd0 with e|⟨te,pe,e⟩
 ·rw [Array.eq_one_of_toList e] at hc
  exact ⟨_,by simpa using hc, .inl rfl⟩
 ·rw [Array.eq_one_of_toList e] at hc
  exact ⟨_,by simpa using hc, .inr ⟨te,pe,rfl⟩⟩
theorem zqn(hf:l.filter (λx=>x.1== "errors.errorType")=[("errors.errorType",Rows.laid_errors_errorType)])(h:laidMetH Tryz.prog l W):W.cell? ⟨0,0,none⟩=some (.iface 172 (.agg #[.pointer (some ⟨10,45,none⟩)])):=by
 have h1:=h.filter (λx=>x.1== "errors.errorType")
 rw [hf] at h1
 have h':laidMet Tryz.prog [] W/\handlesMet Tryz.prog [("errors.errorType",Rows.laid_errors_errorType)] W:=h1
 obtain ⟨name,u,ty,e1,e2,e3,e4,e5⟩:=h'.2 _ (List.mem_singleton.2 rfl)
 have en:name=[101,114,114,111,114]:=(Option.some.inj e1).symm
 subst en
 obtain rfl:=Option.some.inj (z4y.symm.trans e2)
 have hm:ty∈(List.range 381).filter λt=>Tryz.prog.rowNamed t [101,114,114,111,114]:=List.mem_filter.2 ⟨List.mem_range.2 (by rw [<-zqm];exact e3),e4⟩
 rw [z19] at hm
 obtain rfl:=List.mem_singleton.1 hm
 have hh:typeHandle Tryz.prog 45= .pointer (some ⟨10,45,none⟩):=yug
 rw [hh] at e5
 simpa using World.var?_cell gEt e5 0
theorem z2a(hS:W.ShapedOpen Tryz.prog)(hL:laidMetH Tryz.prog l W)
  (f1:l.filter (λx=>x.1== "commits/ops.words")=[("commits/ops.words",Rows.laid_commits_ops_words)]) (f2:l.filter (λx=>x.1== "errors.errorType")=[("errors.errorType",Rows.laid_errors_errorType)])
  (f3:l.filter (λx=>x.1== "strconv.ErrSyntax")=[("strconv.ErrSyntax",Rows.laid_strconv_ErrSyntax)]) (f4:l.filter (λx=>x.1== "strconv.ErrRange")=[("strconv.ErrRange",Rows.laid_strconv_ErrRange)]):Env W:=by
 have h3:=hL.filter (λx=>x.1== "strconv.ErrSyntax")
 rw [f3,MakeChecks.laidMetH_plain _ _ _ yug] at h3
 have h4:=hL.filter (λx=>x.1== "strconv.ErrRange")
 rw [f4,MakeChecks.laidMetH_plain _ _ _ yug] at h4
 have hlast:9<W.heap.size:=by
  have hsome:(((begin Tryz.prog (λ_ _=>0) default).world.heap[9]?).bind Obj.row?).isSome=true:=yug
  obtain ⟨⟨zero,t⟩,h0⟩:=Option.isSome_iff_exists.1 hsome
  obtain ⟨cs,hh,_⟩:=hS.1 9 zero t (of_decide_eq_true yug) h0
  exact (Array.getElem?_eq_some_iff.1 hh).1
 exact ⟨by omega,zqa hS,znw f1 hL,zym gEs tEs h3,zym gEr tEr h4,zqn f2 hL⟩
section
variable{D:Nat->Prop}{w:World}{bm:Nat}{A:List (Th×List Ic)}{m:Nat->Int}
theorem ydb(hi:A.length<=i):z7b A m i=(A,m):=by unfold z7b;rw [List.getElem?_eq_none hi]
theorem ybz(hi:A.length<=i):z69 A m i=(A,m):=by unfold z69;rw [List.getElem?_eq_none hi]
theorem ydc{ts:List Tr}(h:MAt D w bm m ts)(i:Nat)(hi:ts.length<=i):
  Cl 23 #[ptr bm, .int .i64 i] w λe w'=>e= .returned (.tuple #[])/\w'=w:=by
 obtain ⟨bt,cap,h1,h3⟩:=h.slot
 clear h h3
 go_enter Tryz.func23,Tryz.ntmps23
 go_wp2_with fail
 refine (yee bm bt _ cap i h1 hi).mono ?_
 rintro e w' ⟨rfl,rfl⟩
 go_wp2
 go_end0
 exact ⟨rfl,rfl⟩
theorem ydd(h:MRep D w bm A m)(hD: ∀k,w.heap.size<=k->D k)(hok:okA A)(i:Nat):
  Cl 24 #[ptr bm, .int .i64 i] w λe w'=>e= .returned (.tuple #[])/\(MRep D w' bm (z7b A m i).1 (z7b A m i).2/\Chg (λk _=>D k) w w'):=by
 by_cases hi:i<A.length
 ·exact yh2 h hD hok i hi
 ·rw [ydb (Nat.le_of_not_lt hi)]
  obtain ⟨ts,h1,h2⟩:=h
  have hl:ts.length=A.length:=by rw [<-h2];simp
  refine (yef h1 i yue).mono ?_
  rintro e w' ⟨rfl,rfl⟩
  exact ⟨rfl,⟨ts,h1,h2⟩,Chg.refl _ _⟩
theorem yb0(h:MRep D w bm A m)(hD: ∀k,w.heap.size<=k->D k)(i:Nat):
  Cl 23 #[ptr bm, .int .i64 i] w λe w'=>e= .returned (.tuple #[])/\(MRep D w' bm (z69 A m i).1 (z69 A m i).2/\Chg (λk _=>D k) w w'):=by
 by_cases hi:i<A.length
 ·exact yg1 h hD i hi
 ·rw [ybz (Nat.le_of_not_lt hi)]
  obtain ⟨ts,h1,h2⟩:=h
  have hl:ts.length=A.length:=by rw [<-h2];simp
  refine (ydc h1 i yue).mono ?_
  rintro e w' ⟨rfl,rfl⟩
  exact ⟨rfl,⟨ts,h1,h2⟩,Chg.refl _ _⟩
theorem yde(h:MRep D w bm A m)(hD: ∀k,w.heap.size<=k->D k)(i:Nat)(n:Nat)(hn:(n:Int)<=1000000)(hok: ∀k,k<n->okA (z9i A m i k).1):
  Cl 17 #[ptr bm, .int .i64 i, .int .i64 n] w λe w'=>e= .returned (.tuple #[])/\MRep D w' bm (z9i A m i n).1 (z9i A m i n).2/\Chg (λk _=>D k) w w':=by
 have HK:=hid hok
 have HD:=hid hD
 have H:=hid h
 clear hok hD h
 go_enter Tryz.func17,Tryz.ntmps17
 go_wp2
 go_loopw [7] (λv wr=>∃k:Nat,k<=n/\v= .int .i64 k/\Hid (MRep D wr bm (z9i A m i k).1 (z9i A m i k).2/\Chg (λk _=>D k) w wr)) (λv _=>n- (intOf v).toNat)
 case atStart=>exact ⟨0,Nat.zero_le _,rfl,H.out,Chg.refl _ _⟩
 case round=>
  obtain ⟨k,hk,rfl,hr⟩:=hrel
  by_cases hlt:k<n
  ·have hlt':(k:Int)<(n:Int):=by omega
   go_wp2_with fail
   refine (ydd hr.out.1 (λj hj=>HD.out j (Nat.le_trans hr.out.2.size hj)) (HK.out k hlt) i).mono ?_
   rintro e w1 ⟨rfl,h1⟩
   have H1:=hid h1
   clear h1
   go_wp2
   go_roundw
   case rel=>exact ⟨k+1,by omega,by go_num,H1.out.1,hr.out.2.trans H1.out.2⟩
   case measure=>simp [intOf];omega
  ·have hk':k=n:=by omega
   subst hk'
   have hlt': ¬(k:Int)<(k:Int):=yue
   go_wp2
   go_end0
   exact ⟨rfl,hr.out⟩
theorem yb1(h:MRep D w bm A m)(hD: ∀k,w.heap.size<=k->D k)(i:Nat):
  Cl 16 #[ptr bm, .int .i64 i] w λe w'=>e= .returned (.tuple #[])/\MRep D w' bm (z69 A m i).1 (z69 A m i).2/\Chg (λk _=>D k) w w':=by
 have HS:=hid (yb0 h hD i)
 clear h hD
 go_enter Tryz.func16,Tryz.ntmps16
 go_wp2_with fail
 refine HS.out.mono ?_
 rintro e w1 ⟨rfl,hr⟩
 have HR:=hid hr
 clear hr HS
 go_wp2
 go_end0
 exact ⟨rfl,HR.out⟩
def ydf(c n:Int):Int:=if c<0 then (wrap64 (-wrap64 (c+1))).tmod n else c%n
theorem yfx(c n:Int)(hc:-9223372036854775808<=c)(hn:0<n):0<=ydf c n/\ydf c n<n:=by
 unfold ydf
 split
 ·rename_i hlt
  have h0:=z99 c hc hlt
  refine ⟨Int.tmod_nonneg n h0,?_⟩
  rw [Int.tmod_eq_emod_of_nonneg h0]
  exact Int.emod_lt_of_pos _ hn
 ·exact ⟨Int.emod_nonneg _ yue,Int.emod_lt_of_pos _ hn⟩
theorem yg6(c n:Int)(w:World)(hn:0<n):
  Cl 11 #[.int .i64 c, .int .i64 n] w λe w'=>e= .returned (.int .i64 (ydf c n))/\w'=w:=by
 have hn0: ¬n=0:=yue
 have HN:=hid hn
 clear hn
 by_cases hlt:c<0
 ·rw [show ydf c n=(wrap64 (-wrap64 (c+1))).tmod n from if_pos hlt]
  go_enter Tryz.func11,Tryz.ntmps11
  go_wp2
  go_ret
  exact ⟨rfl,rfl⟩
 ·rw [show ydf c n=c%n from if_neg hlt]
  go_enter Tryz.func11,Tryz.ntmps11
  go_wp2
  go_ret
  exact ⟨rfl,rfl⟩
end
def okL(i:Ic):Prop:=i.k=8\/i.k=9->0<=i.n
theorem yeo{lo hi v:Int}(h:gIn lo hi ws=some (v,ws1)):lo<=v:=by
 unfold gIn at h
 cases h1:zco ws with
 |none=>simp [h1] at h
 |some q=>
  simp [h1] at h
  obtain ⟨⟨a,_⟩,rfl⟩:=h
  exact a
theorem yfy{u:ByteArray}{ic:Ic}(h:zbm u ws=some (ic,ws1)):okL ic:=by
 unfold zbm at h
 split at h
 ·unfold gop at h
  cases h1:zhi ws with
  |none=>simp [h1] at h
  |some p1=>
   cases h2:zbp p1.2 with
   |none=>simp [h1,h2] at h
   |some p2=>exact yth
 ·split at h
  ·unfold zly at h
   cases h1:zhi ws with
   |none=>simp [h1] at h
   |some p1=>exact ytj
  split at h
  ·unfold Ia at h
   cases h1:zhi ws with
   |none=>simp [h1] at h
   |some p1=>
    cases h2:Ez p1.2 with
    |none=>simp [h1,h2] at h
    |some p2=>
     simp [h1,h2] at h
     obtain ⟨rfl,_⟩:=h
     intro hk;simp at hk
  split at h
  ·unfold Xq at h
   cases h1:Ez ws with
   |none=>simp [h1] at h
   |some p1=>exact ytj
  split at h
  ·unfold zdj at h
   cases h1:zhi ws with
   |none=>simp [h1] at h
   |some p1=>
    cases h2:Ez p1.2 with
    |none=>simp [h1,h2] at h
    |some p2=>
     cases h3:zbp p2.2 with
     |none=>simp [h1,h2,h3] at h
     |some p3=>
      cases h4:zbp p3.2 with
      |none=>simp [h1,h2,h3,h4] at h
      |some p4=>
       simp [h1,h2,h3,h4] at h
       obtain ⟨rfl,_⟩:=h
       intro hk;simp at hk
  split at h
  ·unfold Fh at h
   cases h1:zhi ws with
   |none=>simp [h1] at h
   |some p1=>
    cases h2:Ez p1.2 with
    |none=>simp [h1,h2] at h
    |some p2=>exact yth
  split at h
  ·simp [zfh] at h
   obtain ⟨rfl,_⟩:=h
   intro hk;simp at hk
  split at h
  ·unfold zqg at h
   cases h1:zbp ws with
   |none=>simp [h1] at h
   |some p1=>
    simp [h1] at h
    obtain ⟨rfl,_⟩:=h
    intro hk;simp at hk
  split at h
  ·unfold zqh at h
   cases h1:gIn 0 4000 ws with
   |none=>simp [h1] at h
   |some p1=>
    simp [h1] at h
    obtain ⟨rfl,_⟩:=h
    intro _;exact yeo (ws1:=p1.2) h1
  split at h
  ·unfold gjz at h
   cases h1:zbp ws with
   |none=>simp [h1] at h
   |some p1=>
    cases h2:gIn 0 4000 p1.2 with
    |none=>simp [h1,h2] at h
    |some p2=>
     simp [h1,h2] at h
     obtain ⟨rfl,_⟩:=h
     intro _;exact yeo (ws1:=p2.2) h2
  split at h
  ·unfold zgb at h
   cases h1:gIn 1 9 ws with
   |none=>simp [h1] at h
   |some p1=>
    simp [h1] at h
    obtain ⟨rfl,_⟩:=h
    intro hk;simp at hk
  split at h
  ·simp [znz] at h
   obtain ⟨rfl,_⟩:=h
   intro hk;simp at hk
  ·simp at h
def yhm(acc:List (List Ic)):Prop:=∀c∈acc,∀i∈c,okL i
theorem yep{acc acc':List (List Ic)}(h:Gj ws acc= .ok acc')(ha:yhm acc):yhm acc':=by
 unfold Gj at h
 split at h
 ·simp at h
 ·split at h
  ·split at h
   ·split at h
    ·simp at h
    ·simp at h
     subst h
     intro c hc
     simp at hc
     rcases hc with hc|rfl
     ·exact ha c hc
     ·intro i hi;simp at hi
   ·simp at h
  ·split at h
   ·simp at h
   ·simp at h
   ·rename_i ic hi
    split at h
    ·simp at h
    ·rename_i c hc
     split at h
     ·simp at h
     ·simp at h
      subst h
      have hm:c∈acc:=List.mem_of_getLast? hc
      intro d hd
      simp at hd
      rcases hd with hd|rfl
      ·exact ha d ((List.dropLast_sublist acc).subset hd)
      ·intro i hi'
       simp at hi'
       rcases hi' with hi'|rfl
       ·exact ha c hm i hi'
       ·exact yfy hi
theorem yba: ∀(f:Nat) (r:List UInt8) (j:Nat) (acc cs:List (List Ic)),zdo f r j acc= .ok cs->yhm acc->yhm cs
 |0,r,j,acc,cs,h,ha=>by simp [zdo] at h;exact h▸ha
 |f+1,r,j,acc,cs,h,ha=>by
  unfold zdo at h
  split at h
  ·simp at h;exact h▸ha
  ·split at h
   ·simp at h
   ·split at h
    ·rename_i acc' hg
     exact yba f _ _ acc' cs h (yep hg ha)
    ·simp at h
theorem yeq{s:ByteArray}(h:zu9 s= .ok cs):yhm cs:=by
 unfold zu9 at h
 split at h
 ·simp at h
 ·exact yba _ _ _ _ _ h (λc hc=>by simp at hc)
def Fine(N:Nat)(A:List (Th×List Ic)):Prop:=∀p∈A,0<=p.1.pl/\p.2.length<=4000/\(∀i∈p.2,okI i/\okL i)/\p.1.out.length<=N
theorem Fine.ok(h:Fine N A)(hN:N<1099511627776):okA A:=λp hp=>
 ⟨(h p hp).1,(h p hp).2.1,λi hi=>((h p hp).2.2.1 i hi).1,by have:=(h p hp).2.2.2;omega⟩
def yer(T:Th)(R:Th×(Nat->Int)):Prop:=0<=R.1.pl/\R.1.out.length<=T.out.length+1
theorem ybj{T:Th}{c:Prop} [Decidable c]{a b:Th×(Nat->Int)}(ha:c->yer T a)(hb: ¬c->yer T b):yer T (if c then a else b):=by
 by_cases h:c
 ·rw [if_pos h];exact ha h
 ·rw [if_neg h];exact hb h
theorem yfz(i:Ic)(T:Th)(m:Nat->Int)(hp:0<=T.pl)(hl:okL i):0<=(doI i T m).1.pl/\(doI i T m).1.out.length<=T.out.length+1:=by
 show yer T (doI i T m)
 have z: ∀(r:Nat->Int) (q:List (Int×Int)) (s:Int) (m':Nat->Int),yer T (⟨r,T.pl,q,T.out,s⟩,m'):=λ_ _ _ _=>⟨hp,Nat.le_succ _⟩
 unfold doI
 refine ybj (λ_=>ybj (λ_=>z _ _ _ _) (λ_=>z _ _ _ _)) (λ_=>?_)
 refine ybj (λ_=>ybj (λ_=>z _ _ _ _) (λ_=>z _ _ _ _)) (λ_=>?_)
 refine ybj (λ_=>ybj (λ_=>ybj (λ_=>z _ _ _ _) (λ_=>z _ _ _ _)) (λ_=>z _ _ _ _)) (λ_=>?_)
 refine ybj (λ_=>ybj (λ_=>z _ _ _ _) (λ_=>z _ _ _ _)) (λ_=>?_)
 refine ybj (λ_=>z _ _ _ _) (λ_=>?_)
 refine ybj (λ_=>⟨hp,by simp⟩) (λ_=>?_)
 refine ybj (λh=>⟨hl (.inl h),Nat.le_succ _⟩) (λ_=>?_)
 refine ybj (λ_=>z _ _ _ _) (λ_=>?_)
 refine ybj (λ_=>?_) (λ_=>?_)
 ·cases opV i.op (i.a.of T) (i.b.of T) with
  |some v=>exact z _ _ _ _
  |none=>exact z _ _ _ _
 refine ybj (λh=>ybj (λ_=>⟨hl (.inr h),Nat.le_succ _⟩) (λ_=>⟨hp,Nat.le_succ _⟩)) (λ_=>z _ _ _ _)
theorem ydg(T:Th)(m:Nat->Int)(c:List Ic)(hp:0<=T.pl)(hl: ∀i∈c,okL i):0<=(z6w T m c).1.pl/\(z6w T m c).1.out.length<=T.out.length+1:=by
 unfold z6w
 split
 ·split
  ·rename_i i hi
   have:=yfz i {T with pl:=T.pl+1} m (by show 0<=T.pl+1;omega) (hl i (List.mem_of_getElem? hi))
   exact this
  ·exact ⟨hp,by simp⟩
 ·exact ⟨hp,by simp⟩
theorem Fine.step(h:Fine N A)(m:Nat->Int)(i:Nat):Fine (N+1) (z7b A m i).1:=by
 unfold z7b
 split
 ·exact λp hp=>⟨(h p hp).1,(h p hp).2.1,(h p hp).2.2.1,by have:=(h p hp).2.2.2;omega⟩
 ·rename_i q hq
  have hqm:q∈A:=List.mem_of_getElem? hq
  intro p hp
  rcases List.mem_or_eq_of_mem_set hp with hp|rfl
  ·exact ⟨(h p hp).1,(h p hp).2.1,(h p hp).2.2.1,by have:=(h p hp).2.2.2;omega⟩
  ·have hs:=ydg q.1 m q.2 (h q hqm).1 (λi hi=>((h q hqm).2.2.1 i hi).2)
   exact ⟨hs.1,(h q hqm).2.1,(h q hqm).2.2.1,by have:=(h q hqm).2.2.2;have:=hs.2;show (z6w q.1 m q.2).1.out.length<=_;omega⟩
theorem Fine.flush(h:Fine N A)(m:Nat->Int)(i:Nat):Fine N (z69 A m i).1:=by
 unfold z69
 split
 ·exact h
 ·rename_i q hq
  have hqm:q∈A:=List.mem_of_getElem? hq
  intro p hp
  rcases List.mem_or_eq_of_mem_set hp with hp|rfl
  ·exact h p hp
  ·have e1:(z6y q.1 m).1.pl=q.1.pl/\(z6y q.1 m).1.out=q.1.out:=by unfold z6y;split<;>exact ⟨rfl,rfl⟩
   exact ⟨by show 0<=(z6y q.1 m).1.pl;rw [e1.1];exact (h q hqm).1,(h q hqm).2.1,(h q hqm).2.2.1,by show (z6y q.1 m).1.out.length<=N;rw [e1.2];exact (h q hqm).2.2.2⟩
theorem Fine.steps(h:Fine N A)(m:Nat->Int)(i:Nat): ∀k,Fine (N+k) (z9i A m i k).1
 |0=>h
 |k+1=>(Fine.steps h m i k).step _ i
theorem Fine.mono{M:Nat}(h:Fine N A)(hNM:N<=M):Fine M A:=λp hp=>⟨(h p hp).1,(h p hp).2.1,(h p hp).2.2.1,Nat.le_trans (h p hp).2.2.2 hNM⟩
theorem yes(h:zqk cs)(hl:yhm cs):Fine 0 (cs.map λc=>(Th.init,c)):=by
 intro p hp
 simp at hp
 obtain ⟨c,hc,rfl⟩:=hp
 exact ⟨by simp [Th.init],(h.2 c hc).1,λi hi=>⟨(h.2 c hc).2 i hi,hl c hc i hi⟩,by simp [Th.init]⟩
theorem yjp{D Dx:Nat->Prop}{w1:World}{bx:Nat}{Ax:List (Th×List Ic)}{mx:Nat->Int}(h:MRep Dx w bx Ax mx)(hc:Chg (λk _=>D k\/w.heap.size<=k) w w1)(hd: ∀k,Dx k->¬D k)(hlt: ∀k,Dx k->k<w.heap.size):MRep Dx w1 bx Ax mx:=
 h.keep hc (λk hk _ i e=>e.elim (hd k hk) (λe=>by have:=hlt k hk;omega))
def yj6(A:List (Th×List Ic))(t:Nat):List Int:=match A[t]? with|some p=>p.1.out|none=>[]
section
variable{D:Nat->Prop}{w:World}{bm:Nat}{A:List (Th×List Ic)}{m:Nat->Int}{ts:List Tr}
theorem ym1(h:MAt D w bm m ts)(i:Nat)(hi:ts.length<=i):
  Cl 18 #[ptr bm, .int .i64 i] w λe w'=>e= .returned (.slice none 0 0)/\w'=w:=by
 obtain ⟨bt,cap,h1,h3⟩:=h.slot
 clear h h3
 go_enter Tryz.func18,Tryz.ntmps18
 go_wp2_with fail
 refine (yee bm bt _ cap i h1 hi).mono ?_
 rintro e w' ⟨rfl,rfl⟩
 go_wp2
 go_ret
 exact ⟨rfl,rfl⟩
theorem ydh(h:MAt D w bm m ts)(i:Nat)(hi:ts.length<=i):
  Cl 19 #[ptr bm, .int .i64 i] w λe w'=>e= .returned (.int .i64 10)/\w'=w:=by
 obtain ⟨bt,cap,h1,h3⟩:=h.slot
 clear h h3
 go_enter Tryz.func19,Tryz.ntmps19
 go_wp2_with fail
 refine (yee bm bt _ cap i h1 hi).mono ?_
 rintro e w' ⟨rfl,rfl⟩
 go_wp2
 go_ret
 exact ⟨rfl,rfl⟩
theorem yac(v:Int)(i:Nat)(hs:Hid (Cl 19 #[ptr bm, .int .i64 i] w λe w'=>e= .returned (.int .i64 v)/\w'=w)):
  Cl 13 #[ptr bm, .int .i64 i] w λe w'=>e= .returned (.int .i64 v)/\w'=w:=by
 go_enter Tryz.func13,Tryz.ntmps13
 go_wp2_with fail
 refine hs.out.mono ?_
 rintro e w' ⟨rfl,rfl⟩
 go_wp2
 go_ret
 exact ⟨rfl,rfl⟩
theorem ym2(i:Nat)(hs:Hid (Cl 18 #[ptr bm, .int .i64 i] w λe w'=>e= .returned (.slice none 0 0)/\w'=w)):
  Cl 12 #[ptr bm, .int .i64 i] w λe w'=>e= .returned (.slice none 0 0)/\w'=w:=by
 go_enter Tryz.func12,Tryz.ntmps12
 go_wp2_with fail
 refine hs.out.mono ?_
 rintro e w' ⟨rfl,rfl⟩
 go_wp2
 go_ret
 exact ⟨rfl,rfl⟩
theorem yci(h:MRep D w bm A m)(i:Nat):
  Cl 13 #[ptr bm, .int .i64 i] w λe w'=>e= .returned (.int .i64 (z7c A i))/\w'=w:=by
 obtain ⟨ts,h1,h2⟩:=h
 have hl:ts.length=A.length:=by rw [<-h2];simp
 by_cases hi:i<ts.length
 ·have e:z7c A i=ts[i].T.st:=by unfold z7c;rw [<-h2];simp [hi]
  rw [e]
  exact yac _ i (ybv h1 i hi)
 ·have e:z7c A i=10:=by unfold z7c;rw [List.getElem?_eq_none yue];rfl
  rw [e]
  exact yac _ i (ydh h1 i yue)
theorem yn1(h:MRep D w bm A m)(hf:Fine N A)(hN:N<1099511627776)(i:Nat):
  Cl 12 #[ptr bm, .int .i64 i] w λe w'=>∃a,e= .returned (.slice a (yj6 A i).length (yj6 A i).length)/\Below w.heap.size w w'/\(yj6 A i=[]\/ ∃g,a=some ⟨g,0,none⟩/\w.heap.size<=g/\ ∀j (h:j<(yj6 A i).length),w'.cell? ⟨g,j,none⟩=some (.int .i64 (yj6 A i)[j])):=by
 by_cases hi:i<A.length
 ·have hp:=List.getElem?_eq_getElem hi
  have e:yj6 A i=(A[i]).1.out:=by unfold yj6;rw [hp]
  rw [e]
  refine (ynz h i A[i] hp (by have:=(hf _ (List.getElem_mem hi)).2.2.2;omega)).mono ?_
  rintro e w' ⟨rfl,h1,h2,h3⟩
  exact ⟨_,rfl,h1, .inr ⟨w.heap.size,rfl,Nat.le_refl _,h3⟩⟩
 ·have e:yj6 A i=[]:=by unfold yj6;rw [List.getElem?_eq_none yue]
  rw [e]
  obtain ⟨ts,h1,h2⟩:=h
  have hl:ts.length=A.length:=by rw [<-h2];simp
  refine (ym2 i (ym1 h1 i yue)).mono ?_
  rintro e w' ⟨rfl,rfl⟩
  exact ⟨none,rfl,Below.refl _ _, .inl rfl⟩
end
end Go.Proofs.YtkenoofmkbghiaaGreatDoor
