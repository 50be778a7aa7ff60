import Derived.Test.YtkenoofmkbghiaaGreatDoorB15
import Derived.Test.YtkenoofmkbghiaaGreatDoorB30
set_option maxRecDepth 100000
set_option maxHeartbeats 4000000
namespace Go.Proofs.YtkenoofmkbghiaaGreatDoor
open Go.RowKit
variable{N b' k n:Nat}{a:PV}{f to u:ByteArray}{P:Nat->Bool}
open Go.ChangeShapes Go.WideShapes Go.ChangeAt Go.WideMaps Go.WideElems Go.RowKit
theorem z55:Tryz.prog.globalNamed "internal/strconv.uint64pow10" =some 3:=yug
theorem z3q{W:World}{l:List (String×DataW Unit)}(hS:10<=W.heap.size)(hL:laidMetH Tryz.prog l W)
  (f:l.filter (λx=>x.1== "internal/strconv.uint64pow10")=[("internal/strconv.uint64pow10",Rows.laid_internal_strconv_uint64pow10)]):TabAt W:=by
 have h3:=hL.filter (λx=>x.1== "internal/strconv.uint64pow10")
 rw [f,MakeChecks.laidMetH_plain _ _ _ yug] at h3
 have h4:laidMet Tryz.prog (("internal/strconv.uint64pow10",Lib.tabData .u64 Lib.pow10Tab)::[]) W:=h3
 have h5:=Lib.tabIs_of_head (t:=314) (e:=304) (n:=20) z55 yug Tryz.underlying314 Tryz.underlying304 yug yug h4
 intro w hb
 have hlt:3<W.heap.size:=Nat.lt_of_lt_of_le yuh hS
 have e:=hb.block 3 hlt
 unfold Lib.TabIs World.var? at h5⊢
 rw [z55] at h5⊢
 simp only [Option.bind_some] at h5⊢
 rw [e]
 exact h5
structure yn0(nt bm:Nat)(Inv:Nat->Nat->World->Prop):Prop where
 mono: ∀{n n' j w},Inv n j w->n<=n'->Inv n' j w
 no: ∀{n j w},Inv n j w->Inv n 0 w
 fl: ∀n j w (t:Nat),t<nt->Inv n j w->Cl 16 #[ptr bm, .int .i64 t] w λe w'=>e= .returned (.tuple #[])/\Inv n j w'
 st: ∀n j w (t k:Nat),t<nt->k<=60->n+k<100000000000->Inv n j w->Cl 17 #[ptr bm, .int .i64 t, .int .i64 k] w λe w'=>e= .returned (.tuple #[])/\Inv (n+k) j w'
 ask: ∀n j w (t:Nat),t<nt->Inv n j w->Cl 13 #[ptr bm, .int .i64 t] w λe w'=>∃s,e= .returned (.int .i64 s)/\Inv n j w'/\(t=j->s≠0->Inv n (j+1) w')
theorem yok{z:Int}(h0:0<=z)(h1:z<1000000):wrap64 z=z:=yul
theorem ykf{q:Nat}(h:q<100000):wrap64 ((q:Int)+1)=((q+1:Nat):Int):=yok yue yue
section
variable{Inv:Nat->Nat->World->Prop}{bm:Nat}{w:World}
theorem yol(R:yn0 3 bm Inv)(h:Inv n 0 w)(hn:n<1000000000)(x:Addr)(len cap:Nat)(zs:List Int)(hln:len<=zs.length)(hlen:len<=4096)(hz: ∀n j w,Inv n j w->∀k (h:k<zs.length),w.cell? (x.add k)=some (.int .i64 zs[k]))(hwf: ∀z∈zs,-9223372036854775808<=z):
  Cl 7 #[ptr bm, .slice (some x) len cap, .int .i64 3] w λe w'=>e= .returned (.tuple #[])/\Inv (n+60*len) 0 w':=by
 have HR:=hid R
 have HZ:=hid hz
 have HW:=hid hwf
 have H:=hid h
 have HN:=hid hn
 clear hz hwf h hn R
 go_enter Tryz.func7,Tryz.ntmps7
 go_wp2
 go_loopw [6] (λv wr=>∃k:Nat,k<=len/\v= .int .i64 k/\Hid (Inv (n+60*k) 0 wr)) (λv _=>len- (intOf v).toNat)
 case atStart=>exact ⟨0,Nat.zero_le _,rfl,H⟩
 case round=>
  obtain ⟨k,hk,rfl,hr⟩:=hrel
  by_cases hlt:k<len
  ·have hlt':(k:Int)<(len:Int):=by omega
   have hlz:k<zs.length:=yue
   have hcz:wr.cell? (x.add k)=some (.int .i64 zs[k]):=HZ.out _ _ _ hr.out k hlz
   have hwz:Hid (-9223372036854775808<=zs[k]):=HW.out _ (List.getElem_mem hlz)
   generalize zs[k]=z at hcz hwz
   go_wp2_with fail
   refine (ym0 z 1073741824 _ hwz yuh).mono ?_
   rintro e w' ⟨y,rfl,y0,y1,rfl⟩
   obtain ⟨t,ht⟩:=Int.eq_ofNat_of_zero_le (show 0<=y%3 by omega)
   obtain ⟨q,hq⟩:=Int.eq_ofNat_of_zero_le (show 0<=1+y / 3 / 5%60 by omega)
   have HT:Hid (y%3=(t:Int)/\t<3):=⟨ht,by omega⟩
   have HQ:Hid (1+y / 3 / 5%60=(q:Int)/\q<=60):=⟨hq,by omega⟩
   clear ht hq
   by_cases hq:y / 3%5=0
   ·have hq':(y / 3%5==0)=true:=by simp [hq]
    go_wp2_with fail
    have kf:=HR.out.fl _ _ _ t HT.out.2 hr.out
    rw [<-HT.out.1] at kf
    refine kf.mono ?_
    rintro e w1 ⟨rfl,h1⟩
    have H1:=hid (HR.out.mono h1 (show n+60*k<=n+60*(k+1) by omega))
    clear h1 kf
    go_wp2
    go_roundw
    case rel=>exact ⟨k+1,by omega,by go_num,H1⟩
    case measure=>simp [intOf];omega
   ·have hq':(y / 3%5==0)=false:=by simp [hq]
    go_wp2_with fail
    have kf:=HR.out.st _ _ _ t q HT.out.2 HQ.out.2 (by have:=HQ.out.2;have:=HN.out;omega) hr.out
    rw [<-HT.out.1,<-HQ.out.1] at kf
    refine kf.mono ?_
    rintro e w1 ⟨rfl,h1⟩
    have H1:=hid (HR.out.mono h1 (show n+60*k+q<=n+60*(k+1) by have:=HQ.out.2;omega))
    clear h1 kf
    go_wp2
    go_roundw
    case rel=>exact ⟨k+1,by omega,by go_num,H1⟩
    case measure=>simp [intOf];omega
  ·have hk':k=len:=by omega
   subst hk'
   have hlt': ¬(k:Int)<(k:Int):=yue
   go_wp2
   go_end0
   exact ⟨rfl,hr.out⟩
theorem ymg(cap:Nat):Cl 7 #[ptr bm, .slice none 0 cap, .int .i64 3] w λe w'=>e= .returned (.tuple #[])/\w'=w:=by
 go_enter Tryz.func7,Tryz.ntmps7
 go_wp2
 go_loopw [6] (λv wr=>v= .int .i64 0/\wr=w) (λ_ _=>0)
 case atStart=>exact ⟨rfl,rfl⟩
 case round=>
  obtain ⟨rfl,rfl⟩:=hrel
  go_wp2
  go_end0
  exact ⟨rfl,rfl⟩
theorem yom(R:yn0 3 bm Inv)(h:Inv n 0 w)(hn:n<1000000000)(tu:Nat)(htu:tu<=2401):
  Cl 9 #[ptr bm, .int .i64 3, .int .i64 tu] w λe w'=>(e= .returned (.bool false)/\Inv (n+21609000) 0 w')\/(e= .returned (.bool true)/\Inv (n+21609000) 3 w'):=by
 have HR:=hid R
 have H:=hid h
 have HN:=hid hn
 have HTU:=hid htu
 clear h hn R htu
 go_enter Tryz.func9,Tryz.ntmps9
 go_wp2
 go_loopw [7] (λv wr=>∃k:Nat,k<=3000/\v= .int .i64 k/\Hid (Inv (n+7203*k) 0 wr)) (λv _=>3000- (intOf v).toNat)
 case atStart=>exact ⟨0,Nat.zero_le _,rfl,H⟩
 case round=>
  obtain ⟨k,hk,rfl,hr⟩:=hrel
  by_cases hkl:k<3000
  ·have hlt':(k:Int)<3000:=by omega
   go_wp2
   go_loopw [8,9] (λa t wv=>∃(j:Nat) (bb:Bool),j<=3/\t= .int .i64 j/\a= .bool bb/\Hid (Inv (n+7203*k+2401*j) (if bb=true then j else 0) wv)) (λ_ t _=>3- (intOf t).toNat)
   case atStart=>exact ⟨0,true,Nat.zero_le _,rfl,rfl,hr⟩
   case round=>
    obtain ⟨j,bb,hj,rfl,rfl,hr⟩:=hrel
    by_cases hjl:j<3
    ·have hjl':(j:Int)<3:=by omega
     go_wp2_with fail
     refine (HR.out.ask _ _ _ j hjl hr.out).mono ?_
     rintro e w' ⟨s,rfl,h1,h2⟩
     have H1:=hid h1
     have H2:=hid h2
     clear h1 h2 hr
     have hbs:(bb=true/\(s !=0)=true)\/(bb=true/\(s !=0)=false)\/bb=false:=by cases bb<;>cases h:(s !=0)<;>simp
     have key: ∀nb:Bool,(nb=true->bb=true/\s≠0)->Hid (Inv (n+7203*k+2401*j) (if nb=true then j+1 else 0) w'):=λnb hnb=>by
      cases nb with
      |false=>exact hid (HR.out.no H1.out)
      |true=>
       obtain ⟨rfl,hs⟩:=hnb rfl
       exact hid (H2.out rfl hs)
     rcases hbs with ⟨rfl,hs0⟩|⟨rfl,hs0⟩|rfl
     ·have K:=key true (λ_=>⟨rfl,by simpa using hs0⟩)
      clear key H1 H2
      go_wp2
      go_loopw [11] (λv wu=>∃q:Nat,q<=tu/\v= .int .i64 q/\Hid (Inv (n+7203*k+2401*j+q) (j+1) wu)) (λv _=>tu- (intOf v).toNat)
      case atStart=>exact ⟨0,Nat.zero_le _,rfl,K⟩
      case round=>
       obtain ⟨q,hq,rfl,hr⟩:=hrel
       by_cases hql:q<tu
       ·exact yr6
       ·have hqe:q=tu:=by omega
        subst hqe
        have hql': ¬(q:Int)<(q:Int):=yue
        go_wp2
        go_roundw
        case rel=>exact ⟨j+1,true,by omega,by go_num,rfl,hid (HR.out.mono hr.out (by have:=HTU.out;omega))⟩
        case measure=>simp [intOf];omega
     all_goals
      have K:=key false (λq=>by cases q)
      clear key H1 H2
      go_wp2
      go_loopw [11] (λv wu=>∃q:Nat,q<=tu/\v= .int .i64 q/\Hid (Inv (n+7203*k+2401*j+q) 0 wu)) (λv _=>tu- (intOf v).toNat)
      case atStart=>exact ⟨0,Nat.zero_le _,rfl,K⟩
      case round=>
       obtain ⟨q,hq,rfl,hr⟩:=hrel
       by_cases hql:q<tu
       ·exact yr6
       ·have hqe:q=tu:=by omega
        subst hqe
        have hql': ¬(q:Int)<(q:Int):=yue
        go_wp2
        go_roundw
        case rel=>exact ⟨j+1,false,by omega,by go_num,rfl,hid (HR.out.mono hr.out (by have:=HTU.out;omega))⟩
        case measure=>simp [intOf];omega
    ·have hj3:j=3:=by omega
     subst hj3
     cases bb
     ·go_wp2
      go_roundw
      case rel=>exact ⟨k+1,by omega,by go_num,hid (HR.out.mono hr.out yue)⟩
      case measure=>simp [intOf];omega
     ·go_wp2
      go_ret
      have h3:=HR.out.mono hr.out (show n+7203*k+2401*3<=n+21609000 by omega)
      exact .inr ⟨rfl,h3⟩
  ·have hk3:k=3000:=by omega
   subst hk3
   go_wp2
   go_ret
   exact .inl ⟨rfl,HR.out.mono hr.out yue⟩
end
theorem zg5(n:Nat)(h:n<256):(UInt8.ofNat n).toNat=n:=by
 rw [UInt8.toNat_ofNat']
 exact Nat.mod_eq_of_lt h
theorem zlq(u:Nat):Dig (Lib.decDigits u)/\Xi (Lib.decDigits u)=(u:Int)/\((Lib.decDigits u).head?=some 48->Lib.decDigits u=[48])/\Lib.decDigits u≠[]:=by
 induction u using Nat.strongRecOn with
 |_ u ih=>
  by_cases h:u<10
  ·rw [Lib.decDigits,dif_pos h]
   have e:=zg5 (48+u) yue
   refine ⟨λb hb=>?_,?_,λhh=>?_,by simp⟩
   ·rw [List.mem_singleton.1 hb,e];omega
   ·show 10*(0:Int)+(((UInt8.ofNat (48+u)).toNat:Int)- 48)=u
    rw [e];omega
   ·have hh:UInt8.ofNat (48+u)=48:=by simpa using hh
    rw [hh]
  ·obtain ⟨h1,h2,h3,h4⟩:=ih (u / 10) yue
   rw [Lib.decDigits,dif_neg h]
   have e:=zg5 (48+u%10) yue
   refine ⟨λb hb=>?_,?_,λhh=>?_,by simp⟩
   ·rcases List.mem_append.1 hb with hb|hb
    ·exact h1 b hb
    ·rw [List.mem_singleton.1 hb,e];omega
   ·rw [zig,h2,e];omega
   ·have h5:(Lib.decDigits (u / 10)).head?=some 48:=by
     cases hq:Lib.decDigits (u / 10) with
     |nil=>exact absurd hq h4
     |cons a r=>rw [hq] at hh;simpa using hh
    rw [h3 h5] at h2
    have:Xi [48]=0:=rfl
    omega
theorem zlr(n:Int)(h0:-9223372036854775808<=n)(h1:n<=9223372036854775807):Qk (dec n)=some n:=by
 unfold dec Lib.itoa
 by_cases h:n<0
 ·rw [if_pos h]
  obtain ⟨q1,q2,q3,q4⟩:=zlq n.natAbs
  have hne:(Lib.decDigits n.natAbs).head?≠some 48:=λe=>by
   rw [q3 e] at q2
   have:Xi [48]=0:=rfl
   omega
  rw [Xa q4 q1 hne (by rw [q2];omega),q2]
  congr 1
  omega
 ·rw [if_neg h]
  obtain ⟨q1,q2,q3,q4⟩:=zlq n.toNat
  rw [Zp q4 q1 q3 (by rw [q2];omega),q2]
  congr 1
  omega
def NoS(u:ByteArray):Prop:=∀b∈u.data.toList,b≠32/\b≠10
theorem zex(n:Int):NoS (dec n):=by
 intro b hb
 have hb:b∈Lib.itoa n:=by simpa [dec] using hb
 have hd: ∀u,b∈Lib.decDigits u->b≠32/\b≠10:=λu hb=>by
  have:=(zlq u).1 b hb
  refine ⟨λe=>?_,λe=>?_⟩<;>(rw [e] at this;exact absurd this yuh)
 unfold Lib.itoa at hb
 split at hb
 ·rcases List.mem_cons.1 hb with rfl|hb
  ·decide
  ·exact hd _ hb
 ·exact hd _ hb
theorem zjb(n:Nat)(k:Nat)(hk:n<10^(k+1)):(dec (n:Int)).size<=k+1:=by
 have:(dec (n:Int)).size=(Lib.decDigits n).length:=by
  unfold dec Lib.itoa
  rw [if_neg yue]
  simp [ByteArray.size]
 rw [this]
 clear this
 induction k generalizing n with
 |zero=>rw [Lib.decDigits,dif_pos (by simpa using hk)];simp
 |succ k ih=>
  by_cases h:n<10
  ·rw [Lib.decDigits,dif_pos h];simp
  ·rw [Lib.decDigits,dif_neg h,List.length_append,List.length_singleton]
   have:=ih (n / 10) (by rw [Nat.pow_succ] at hk;omega)
   omega
def VW(k:Nat)(u:ByteArray):Prop:=(∃v,∀ws,zbp (u::ws)=some (v,ws))/\NoS u/\u.size<=k
def RW(u:ByteArray):Prop:=(∃v,∀ws,zhi (u::ws)=some (v,ws))/\NoS u/\u.size<=2
def NW(k:Nat)(u:ByteArray):Prop:=(∃v,∀ws,zco (u::ws)=some (v,ws))/\NoS u/\u.size<=k
def TW(u:ByteArray):Prop:=(∃v,∀ws,gIn 0 4000 (u::ws)=some (v,ws))/\NoS u/\u.size<=4
theorem zzd(u:ByteArray)(ws:List ByteArray):zhi (u::ws)=(Jt u).map λr=>(r,ws):=rfl
theorem znp(u:ByteArray)(ws:List ByteArray):zco (u::ws)=(Qk u).map λv=>(v,ws):=rfl
theorem zui(u:ByteArray)(ws:List ByteArray):zbp (u::ws)=match Jt u with
  |some r=>some (⟨true,r⟩,ws)
  |none=>(Qk u).map λv=>(⟨false,v⟩,ws):=rfl
theorem RW.val(h:RW u):VW 2 u:=by
 obtain ⟨⟨r,hr⟩,h2⟩:=h
 refine ⟨⟨⟨true,r⟩,λws=>?_⟩,h2⟩
 have:=hr ws
 rw [zzd] at this
 obtain ⟨q,q1,q2⟩:=Option.map_eq_some_iff.1 this
 rw [zui,q1]
 simp at q2
 rw [q2]
theorem NW.val(h:NW k u):VW k u:=by
 obtain ⟨⟨r,hr⟩,h2⟩:=h
 cases hq:Jt u with
 |some v=>exact ⟨⟨⟨true,v⟩,λws=>by rw [zui,hq]⟩,h2⟩
 |none=>
  refine ⟨⟨⟨false,r⟩,λws=>?_⟩,h2⟩
  have:=hr ws
  rw [znp] at this
  obtain ⟨q,q1,q2⟩:=Option.map_eq_some_iff.1 this
  rw [zui,hq,q1]
  simp at q2
  simp [q2]
theorem VW.mono{k':Nat}(h:VW k u)(hk:k<=k'):VW k' u:=⟨h.1,h.2.1,Nat.le_trans h.2.2 hk⟩
theorem zuj(n:Int)(h0:-9223372036854775808<=n)(h1:n<=9223372036854775807):NW 21 (dec n):=
 ⟨⟨n,λws=>by rw [znp,zlr n h0 h1];rfl⟩,zex n,zaf n h0 h1⟩
theorem Xp(n:Nat)(k:Nat)(hk:n<10^(k+1))(hn:n<100000):NW (k+1) (dec (n:Int)):=
 ⟨⟨n,λws=>by rw [znp,zlr n yue yue];rfl⟩,zex n,zjb n k hk⟩
theorem zjc(n:Nat)(h:n<=4000):TW (dec (n:Int)):=by
 refine ⟨⟨n,λws=>?_⟩,zex n,zjb n 3 yue⟩
 unfold gIn
 rw [znp,zlr n yue yue]
 show (if (0:Int)<=n/\(n:Int)<=4000 then some ((n:Int),ws) else none)=_
 rw [if_pos yue]
theorem zls(n:Nat)(h:n<10):dec (n:Int)=⟨#[UInt8.ofNat (48+n)]⟩:=by
 unfold dec Lib.itoa
 rw [if_neg yue,show ((n:Int).toNat)=n by omega,Lib.decDigits_one yue]
theorem zey(n:Nat)(h:n<10):Zy (n:Int)=⟨#[114,UInt8.ofNat (48+n)]⟩:=by
 unfold Zy
 rw [zls n h]
 rfl
theorem zez(n:Nat)(h:n<8):RW (Zy (n:Int)):=by
 have e:=zey n yue
 have q:=zg5 (48+n) yue
 rw [e]
 refine ⟨⟨n,λws=>?_⟩,λb hb=>?_,Nat.le_refl _⟩
 ·rw [zzd]
  unfold Jt
  dsimp only
  rw [if_pos ⟨rfl,by rw [q];omega,by rw [q];omega⟩,q]
  simp
 ·have hb:b=114\/b=UInt8.ofNat (48+n):=by simpa using hb
  rcases hb with rfl|rfl
  ·decide
  ·refine ⟨λe=>?_,λe=>?_⟩<;>(rw [e] at q;have:(UInt8.toNat 32)=32:=rfl;have:(UInt8.toNat 10)=10:=rfl;omega)
theorem rw4:RW yR4:=(show Zy ((4:Nat):Int)=yR4 from zey 4 yue)▸zez 4 yue
theorem rw5:RW yR5:=(show Zy ((5:Nat):Int)=yR5 from zey 5 yue)▸zez 5 yue
theorem rw6:RW yR6:=(show Zy ((6:Nat):Int)=yR6 from zey 6 yue)▸zez 6 yue
theorem rw7:RW yR7:=(show Zy ((7:Nat):Int)=yR7 from zey 7 yue)▸zez 7 yue
theorem nw0:NW 1 y0:=(show dec ((0:Nat):Int)=y0 from zls 0 yue)▸Xp 0 0 yue yue
theorem nw1:NW 1 y1:=(show dec ((1:Nat):Int)=y1 from zls 1 yue)▸Xp 1 0 yue yue
theorem Zx(c:UInt8)(u:ByteArray)(us:List ByteArray):(Zt c (u::us)).data.toList=u.data.toList++(us.map λv=>c::v.data.toList).flatten:=by
 unfold Zt
 rw [List.map_cons,Lib.join_cons]
 unfold Lib.joinTail
 simp [Function.comp_def]
theorem zci(c:UInt8)(u:ByteArray)(us:List ByteArray):(Zt c (u::us)).size=u.size+(us.map λv=>v.size+1).sum:=by
 have h:(Zt c (u::us)).size=(Zt c (u::us)).data.toList.length:=yvu
 rw [h,Zx,List.length_append,List.length_flatten,List.map_map]
 congr 1
theorem znq(c:UInt8): ∀(us:List ByteArray) (u:ByteArray),(∀v∈u::us,c∉v.data.toList)->Xe c (Zt c (u::us)).data.toList=(u::us).map λv=>v.data.toList
 |[],u,h=>by
  rw [Zx]
  simp only [List.map_nil,List.flatten_nil,List.append_nil]
  rw [Iw c _ (h u yuf)]
  rfl
 |v::us,u,h=>by
  have e:(Zt c (u::v::us)).data.toList=u.data.toList++c::(Zt c (v::us)).data.toList:=by
   rw [Zx,Zx]
   simp
  rw [e,zc9 c _ _ (h u yuf),znq c us v λx hx=>h x (List.mem_cons_of_mem _ hx)]
  rfl
theorem zf4(u:ByteArray)(us:List ByteArray)(h: ∀v∈u::us,NoS v):Ql (Zt 32 (u::us)).data.toList=u::us:=by
 rw [Ix,znq 32 us u λv hv e=>(h v hv 32 e).1 rfl,List.map_map]
 exact List.map_id' _
theorem zp1(u:ByteArray)(us:List ByteArray)(h: ∀v∈u::us,NoS v):(10:UInt8)∉(Zt 32 (u::us)).data.toList:=by
 rw [Zx]
 intro hm
 rcases List.mem_append.1 hm with hm|hm
 ·exact (h u yuf 10 hm).2 rfl
 ·obtain ⟨l,hl,hm⟩:=List.mem_flatten.1 hm
  obtain ⟨v,hv,rfl⟩:=List.mem_map.1 hl
  rcases List.mem_cons.1 hm with e|hm
  ·cases e
  ·exact (h v (List.mem_cons_of_mem _ hv) 10 hm).2 rfl
def ze0(l:ByteArray):Prop:=(10:UInt8)∉l.data.toList/\ ∃u us,Ql l.data.toList=u::us/\u≠Vj/\(zbm u us).map (·.2)=some []
def InsW(c:Nat)(ws:List ByteArray):Prop:=∃u us,ws=u::us/\u≠Vj/\(zbm u us).map (·.2)=some []/\(∀v∈u::us,NoS v)/\u.size+(us.map λv=>v.size+1).sum+1<=c
def zyf(c:Nat)(ws:List ByteArray):Prop:=ws≠[]/\(∀t,TW t->InsW c (ws++[t]))/\(Zt 32 ws).size+6<=c
theorem InsW.line{c:Nat}{ws:List ByteArray}(h:InsW c ws):ze0 (Zt 32 ws)/\(Zt 32 ws).size+1<=c:=by
 obtain ⟨u,us,rfl,h1,h2,h3,h4⟩:=h
 exact ⟨⟨zp1 u us h3,u,us,zf4 u us h3,h1,h2⟩,by rw [zci];exact h4⟩
theorem zuk(ws:List ByteArray)(t:ByteArray)(h:ws≠[]):Zt 32 ws++(ySp++t)=Zt 32 (ws++[t]):=by
 cases ws with
 |nil=>exact absurd rfl h
 |cons u us=>
  apply ByteArray.ext
  apply Array.ext'
  rw [List.cons_append,Zx,ByteArray.data_append,Array.toList_append,Zx]
  simp
theorem zcj: ∀u∈[Qw,Qh,zdp,zp6,yJz,zaa,zvf,Xf,Yn,Ex,zj1],u≠Vj/\ ∀b∈u.data.toList,b≠32/\b≠10:=yuh
theorem z4f: ∀o,o<12->Jc o≠Vj/\(∀b∈(Jc o).data.toList,b≠32/\b≠10)/\(Jc o).size<=3:=yuh
section
variable{c ka kb kn kv:Nat}{r a b n v t:ByteArray}
theorem Zb(hr:RW r)(ha:VW ka a)(hn:NW kn n)(hc:ka+kn+10<=c):InsW c [Qw,r,a,n]:=by
 obtain ⟨⟨_,e1⟩,s1,z1⟩:=hr
 obtain ⟨⟨_,e2⟩,s2,z2⟩:=ha
 obtain ⟨⟨_,e3⟩,s3,z3⟩:=hn
 obtain ⟨k1,k2⟩:=zcj Qw yuf
 refine ⟨Qw,[r,a,n],rfl,k1,?_,?_,?_⟩
 ·rw [show zbm Qw [r,a,n]=Ia [r,a,n] by kernel_rfl]
  simp only [Ia,Ez,e1,e2,e3,Option.bind_some,Option.map_some]
 ·exact ysw
 ·have:Qw.size=4:=rfl
  simp only [List.map_cons,List.map_nil,List.sum_cons,List.sum_nil]
  omega
theorem Vi(ha:VW ka a)(hn:NW kn n)(hv:VW kv v)(hc:ka+kn+kv+9<=c):InsW c [Qh,a,n,v]:=by
 obtain ⟨⟨_,e1⟩,s1,z1⟩:=ha
 obtain ⟨⟨_,e2⟩,s2,z2⟩:=hn
 obtain ⟨⟨_,e3⟩,s3,z3⟩:=hv
 obtain ⟨k1,k2⟩:=zcj Qh yuf
 refine ⟨Qh,[a,n,v],rfl,k1,?_,?_,?_⟩
 ·rw [show zbm Qh [a,n,v]=Xq [a,n,v] by kernel_rfl]
  simp only [Xq,Ez,e1,e2,e3,Option.bind_some,Option.map_some]
 ·exact ysw
 ·have:Qh.size=5:=rfl
  simp only [List.map_cons,List.map_nil,List.sum_cons,List.sum_nil]
  omega
theorem Ew(o:Nat)(ho:o<12)(hr:RW r)(ha:VW ka a)(hb:VW kb b)(hc:ka+kb+9<=c):InsW c [Jc o,r,a,b]:=by
 obtain ⟨⟨_,e1⟩,s1,z1⟩:=hr
 obtain ⟨⟨_,e2⟩,s2,z2⟩:=ha
 obtain ⟨⟨_,e3⟩,s3,z3⟩:=hb
 obtain ⟨k1,k2,k3⟩:=z4f o ho
 refine ⟨Jc o,[r,a,b],rfl,k1,?_,?_,?_⟩
 ·unfold zbm
  cases h:zqi (Jc o) with
  |none=>exact absurd rfl (zdk h o ho)
  |some k=>
   dsimp only
   simp only [gop,e1,e2,e3,Option.bind_some,Option.map_some]
 ·exact ysw
 ·simp only [List.map_cons,List.map_nil,List.sum_cons,List.sum_nil]
  omega
theorem zg6(hr:RW r)(ha:VW ka a)(hc:ka+8<=c):InsW c [zdp,r,a]:=by
 obtain ⟨⟨_,e1⟩,s1,z1⟩:=hr
 obtain ⟨⟨_,e2⟩,s2,z2⟩:=ha
 obtain ⟨k1,k2⟩:=zcj zdp yuf
 refine ⟨zdp,[r,a],rfl,k1,?_,?_,?_⟩
 ·rw [show zbm zdp [r,a]=zly [r,a] by kernel_rfl]
  simp only [zly,e1,e2,Option.bind_some,Option.map_some]
 ·exact yty
 ·have:zdp.size=3:=rfl
  simp only [List.map_cons,List.map_nil,List.sum_cons,List.sum_nil]
  omega
theorem zul(ha:VW ka a)(hc:ka+5<=c):InsW c [zp6,a]:=by
 obtain ⟨⟨_,e1⟩,s1,z1⟩:=ha
 obtain ⟨k1,k2⟩:=zcj zp6 yuf
 refine ⟨zp6,[a],rfl,k1,?_,?_,?_⟩
 ·rw [show zbm zp6 [a]=zqg [a] by kernel_rfl]
  simp only [zqg,e1,Option.map_some]
 ·exact yt2
 ·have:zp6.size=3:=rfl
  simp only [List.map_cons,List.map_nil,List.sum_cons,List.sum_nil]
  omega
theorem zum(ha:VW ka a)(ht:TW t)(hc:ka+9<=c):InsW c [yJz,a,t]:=by
 obtain ⟨⟨_,e1⟩,s1,z1⟩:=ha
 obtain ⟨⟨_,e2⟩,s2,z2⟩:=ht
 obtain ⟨k1,k2⟩:=zcj yJz yuf
 refine ⟨yJz,[a,t],rfl,k1,?_,?_,?_⟩
 ·rw [show zbm yJz [a,t]=gjz [a,t] by kernel_rfl]
  simp only [gjz,e1,e2,Option.bind_some,Option.map_some]
 ·exact yty
 ·have:yJz.size=2:=rfl
  simp only [List.map_cons,List.map_nil,List.sum_cons,List.sum_nil]
  omega
theorem zg7(ht:TW t)(hc:9<=c):InsW c [zaa,t]:=by
 obtain ⟨⟨_,e1⟩,s1,z1⟩:=ht
 obtain ⟨k1,k2⟩:=zcj zaa yuf
 refine ⟨zaa,[t],rfl,k1,?_,?_,?_⟩
 ·rw [show zbm zaa [t]=zqh [t] by kernel_rfl]
  simp only [zqh,e1,Option.map_some]
 ·exact yt2
 ·have:zaa.size=3:=rfl
  simp only [List.map_cons,List.map_nil,List.sum_cons,List.sum_nil]
  omega
theorem zyg(hr:RW r)(ha:VW ka a)(hn:NW kn n)(hv:VW kv v)(hc:ka+kn+kv+11<=c):InsW c [Xf,r,a,n,v]:=by
 obtain ⟨⟨_,e1⟩,s1,z1⟩:=hr
 obtain ⟨⟨_,e2⟩,s2,z2⟩:=ha
 obtain ⟨⟨_,e3⟩,s3,z3⟩:=hn
 obtain ⟨⟨_,e4⟩,s4,z4⟩:=hv
 obtain ⟨k1,k2⟩:=zcj Xf yuf
 refine ⟨Xf,[r,a,n,v],rfl,k1,?_,?_,?_⟩
 ·rw [show zbm Xf [r,a,n,v]=Fh [r,a,n,v] by kernel_rfl]
  simp only [Fh,Ez,e1,e2,e3,e4,Option.bind_some,Option.map_some]
 ·simp only [List.mem_cons,List.not_mem_nil,or_false,forall_eq_or_imp,forall_eq]
  exact ⟨k2,s1,s2,s3,s4⟩
 ·have:Xf.size=4:=rfl
  simp only [List.map_cons,List.map_nil,List.sum_cons,List.sum_nil]
  omega
theorem z1y(hr:RW r)(ha:VW ka a)(hn:NW kn n)(hv:VW kv v)(hb:VW kb b)(hc:ka+kn+kv+kb+11<=c):InsW c [zvf,r,a,n,v,b]:=by
 obtain ⟨⟨_,e1⟩,s1,z1⟩:=hr
 obtain ⟨⟨_,e2⟩,s2,z2⟩:=ha
 obtain ⟨⟨_,e3⟩,s3,z3⟩:=hn
 obtain ⟨⟨_,e4⟩,s4,z4⟩:=hv
 obtain ⟨⟨_,e5⟩,s5,z5⟩:=hb
 obtain ⟨k1,k2⟩:=zcj zvf yuf
 refine ⟨zvf,[r,a,n,v,b],rfl,k1,?_,?_,?_⟩
 ·rw [show zbm zvf [r,a,n,v,b]=zdj [r,a,n,v,b] by kernel_rfl]
  simp only [zdj,Ez,e1,e2,e3,e4,e5,Option.bind_some,Option.map_some]
 ·simp only [List.mem_cons,List.not_mem_nil,or_false,forall_eq_or_imp,forall_eq]
  exact ⟨k2,s1,s2,s3,s4,s5⟩
 ·have:zvf.size=3:=rfl
  simp only [List.map_cons,List.map_nil,List.sum_cons,List.sum_nil]
  omega
theorem zun:InsW 9 [Yn]:=⟨Yn,[],rfl,(zcj Yn yuf).1,by kernel_rfl,λv hv=>by rw [List.mem_singleton.1 hv];exact (zcj Yn yuf).2,by decide⟩
theorem znr:InsW 9 [Ex]:=⟨Ex,[],rfl,(zcj Ex yuf).1,by kernel_rfl,λv hv=>by rw [List.mem_singleton.1 hv];exact (zcj Ex yuf).2,by decide⟩
theorem z6s:dec 2=⟨#[50]⟩:=by
 unfold dec Lib.itoa
 rw [if_neg yue,show ((2:Int).toNat)=2 from rfl,Lib.decDigits_one yue]
 rfl
theorem zyh:InsW 9 [zj1,dec 2]:=by
 rw [z6s]
 obtain ⟨k1,k2⟩:=zcj zj1 yuf
 refine ⟨zj1,[⟨#[50]⟩],rfl,k1,by kernel_rfl,?_,by decide⟩
 simp only [List.mem_cons,List.not_mem_nil,or_false,forall_eq_or_imp,forall_eq]
 exact ⟨k2,by unfold NoS;decide⟩
theorem Fd(ha:VW ka a)(hc:ka+9<=c):zyf c [yJz,a]:=by
 refine ⟨by simp,λt ht=>zum ha ht hc,?_⟩
 have:=ha.2.2
 have:yJz.size=2:=rfl
 rw [zci]
 simp only [List.map_cons,List.map_nil,List.sum_cons,List.sum_nil]
 omega
theorem zns(hc:9<=c):zyf c [zaa]:=by
 refine ⟨by simp,λt ht=>zg7 ht hc,?_⟩
 have:zaa.size=3:=rfl
 rw [zci]
 simp only [List.map_nil,List.sum_nil]
 omega
end
def wt(P:Nat->Bool):Nat->List ByteArray->Nat
 |_,[]=>0
 |i,l::r=>l.size+cond (P i) 6 1+wt P (i+1) r
theorem zuo(P:Nat->Bool): ∀(L:List ByteArray) (i:Nat) (l:ByteArray),wt P i (L++[l])=wt P i L+(l.size+cond (P (i+L.length)) 6 1)
 |[],i,l=>by simp [wt]
 |a::r,i,l=>by
  simp only [List.cons_append,wt,List.length_cons]
  rw [zuo P r (i+1) l,show i+(r.length+1)=i+1+r.length by omega]
  omega
theorem zup{P':Nat->Bool}: ∀(L:List ByteArray) (i:Nat),(∀j,i<=j->j<i+L.length->P' j=P j)->wt P' i L=wt P i L
 |[],_,_=>rfl
 |a::r,i,h=>by
  simp only [wt]
  rw [h i (Nat.le_refl _) yuf,zup r (i+1) λj h1 h2=>h j yue (by rw [List.length_cons];omega)]
def ze1(P:Nat->Bool)(n:Nat):Nat->Bool:=λj=>P j&&!decide (j=n)
def zck(P:Nat->Bool)(n:Nat):Nat->Bool:=λj=>P j||decide (j=n)
theorem zbl{j:Nat}(h:j≠n):ze1 P n j=P j:=by simp [ze1,h]
theorem zg8(P:Nat->Bool)(n:Nat):ze1 P n n=false:=by simp [ze1]
theorem zze{P:Nat->Bool}: ∀(L:List ByteArray) (i n:Nat) (l l':ByteArray),L[n]?=some l->P (i+n)=true->l'.size<=l.size+5->wt (ze1 P (i+n)) i (L.set n l')<=wt P i L
 |[],_,_,_,_,h,_,_=>by simp at h
 |a::r,i,0,l,l',h,hp,hz=>by
  have h:a=l:=by simpa using h
  subst h
  simp only [List.set_cons_zero,wt]
  rw [zup (P:=P) r (i+1) λj h1 _=>zbl yue]
  have hp:P i=true:=hp
  have:=zg8 P i
  rw [show i+0=i from rfl,this,hp]
  simp only [cond_true,cond_false]
  omega
 |a::r,i,n+1,l,l',h,hp,hz=>by
  simp only [List.set_cons_succ,wt]
  have ih:=zze (P:=P) r (i+1) n l l' (by simpa using h) (by rw [show i+1+n=i+(n+1) by omega];exact hp) hz
  rw [show i+1+n=i+(n+1) by omega] at ih
  rw [zbl (show i≠i+(n+1) by omega)]
  omega
def z51(l:ByteArray):Prop:=∀t,TW t->ze0 (l++(ySp++t))
structure GoodP(P:Nat->Bool)(b:Nat)(L:List ByteArray):Prop where
 lt: ∀i,P i=true->i<L.length
 n9:9*L.length<=b
 ok:L.length<=4000->(∀i l,L[i]?=some l->(P i=true->z51 l)/\(P i=false->ze0 l))/\wt P 0 L<=b
section
variable{P:Nat->Bool}{b c:Nat}{L:List ByteArray}{ws:List ByteArray}
theorem GoodP.len(h:GoodP P b L):P L.length=false:=by
 cases e:P L.length with
 |false=>rfl
 |true=>exact absurd (h.lt _ e) (Nat.lt_irrefl _)
theorem GoodP.add(h:GoodP P b L)(hw:L.length<=4000->InsW c ws)(h9:9<=c):GoodP P (b+c) (L++[Zt 32 ws]) where
 lt:=λi hi=>by have:=h.lt i hi;rw [List.length_append];omega
 n9:=ywa
 ok:=λhl=>by
  rw [List.length_append,List.length_singleton] at hl
  obtain ⟨h1,h2⟩:=h.ok yue
  obtain ⟨q1,q2⟩:=(hw yue).line
  refine ⟨λi l hi=>?_,?_⟩
  ·by_cases c:i<L.length
   ·rw [List.getElem?_append_left c] at hi
    exact h1 i l hi
   ·have e:i=L.length:=by
     have:=(List.getElem?_eq_some_iff.1 hi).1
     rw [List.length_append,List.length_singleton] at this
     omega
    subst e
    have e:Zt 32 ws=l:=yu0
    rw [<-e]
    exact ⟨λq=>(by rw [h.len] at q;cases q),λ_=>q1⟩
  ·rw [zuo,Nat.zero_add,h.len]
   simp only [cond_false]
   omega
theorem GoodP.pend(h:GoodP P b L)(hw:zyf c ws)(h9:9<=c):GoodP (zck P L.length) (b+c) (L++[Zt 32 ws]) where
 lt:=λi hi=>by
  rw [List.length_append,List.length_singleton]
  by_cases e:i=L.length
  ·omega
  ·have:=h.lt i (by simpa [zck,e] using hi)
   omega
 n9:=ywa
 ok:=λhl=>by
  rw [List.length_append,List.length_singleton] at hl
  obtain ⟨h1,h2⟩:=h.ok yue
  obtain ⟨q0,q1,q2⟩:=hw
  have hp: ∀j,j<L.length->zck P L.length j=P j:=λj hj=>by simp [zck,show j≠L.length by omega]
  have hpl:zck P L.length L.length=true:=by simp [zck]
  refine ⟨λi l hi=>?_,?_⟩
  ·by_cases c:i<L.length
   ·rw [List.getElem?_append_left c] at hi
    rw [hp i c]
    exact h1 i l hi
   ·have e:i=L.length:=by
     have:=(List.getElem?_eq_some_iff.1 hi).1
     rw [List.length_append,List.length_singleton] at this
     omega
    subst e
    have e:Zt 32 ws=l:=yu0
    rw [<-e]
    refine ⟨λ_ t ht=>?_,λq=>by rw [hpl] at q;cases q⟩
    rw [zuk ws t q0]
    exact (q1 t ht).line.1
  ·rw [zuo,Nat.zero_add,hpl,zup (P:=P) L 0 λj _ hj=>hp j yue]
   simp only [cond_true]
   omega
theorem GoodP.land(h:GoodP P b L)(hn:P n=true):GoodP (ze1 P n) b (L.set n ((L[n]?).getD ⟨#[]⟩++(ySp++dec L.length))) where
 lt:=λi hi=>by
  rw [List.length_set]
  refine h.lt i ?_
  unfold ze1 at hi
  exact (Bool.and_eq_true_iff.1 hi).1
 n9:=by rw [List.length_set];exact h.n9
 ok:=λhl=>by
  rw [List.length_set] at hl
  obtain ⟨h1,h2⟩:=h.ok hl
  have hlt:=h.lt n hn
  have hT:=zjc L.length hl
  have hg:L[n]?=some L[n]:=List.getElem?_eq_getElem hlt
  have hp:=(h1 n L[n] hg).1 hn
  rw [hg,Option.getD_some]
  refine ⟨λi l hi=>?_,?_⟩
  ·by_cases e:i=n
   ·subst e
    rw [List.getElem?_set_self hlt] at hi
    rw [zg8,<-Option.some.inj hi]
    exact ⟨λq=>(by cases q),λ_=>hp _ hT⟩
   ·rw [List.getElem?_set_ne (λq=>e q.symm)] at hi
    rw [zbl e]
    exact h1 i l hi
  ·have:=zze (P:=P) L 0 n L[n] (L[n]++(ySp++dec L.length)) hg (by rw [Nat.zero_add];exact hn) (by
    have:=hT.2.2
    have e:ySp.size=1:=rfl
    rw [ByteArray.size_append,ByteArray.size_append]
    omega)
   rw [Nat.zero_add] at this
   omega
theorem GoodP.mono(h:GoodP P b L)(hb:b<=b'):GoodP P b' L:=⟨h.lt,Nat.le_trans h.n9 hb,λhl=>⟨(h.ok hl).1,Nat.le_trans (h.ok hl).2 hb⟩⟩
end
def pn(Q:Nat->Bool)(U T:List Nat):Nat->Bool:=λi=>Q i||(U.contains i||T.contains i)
def Ck.un(s:Ck)(u:Bool):List Nat:=if u=true then s.bk.undo else []
structure Good(u:Bool)(Q:Nat->Bool)(b:Nat)(s:Ck):Prop where
 g:GoodP (pn Q (s.un u) s.T) b s.L
 dis: ∀i,Q i=true->i∉s.un u/\i∉s.T
 nd:(s.un u++s.T).Nodup
 bl:s.bk.gets.length<=6/\s.bk.puts.length<=6/\s.bk.chgs.length<=4/\s.bk.again<=s.L.length
section
variable{u:Bool}{Q:Nat->Bool}{b c k:Nat}{s:Ck}{ws:List ByteArray}{x:Cx}
theorem Good.mono(h:Good u Q b s)(hb:b<=b'):Good u Q b' s:=⟨h.g.mono hb,h.dis,h.nd,h.bl⟩
theorem Good.fresh(h:Good u Q b s):Q s.L.length=false/\s.L.length∉s.un u/\s.L.length∉s.T:=by
 have:=h.g.len
 unfold pn at this
 simp only [Bool.or_eq_false_iff] at this
 exact ⟨this.1,by simpa using this.2.1,by simpa using this.2.2⟩
theorem Good.add(h:Good u Q b s)(hw:s.L.length<=4000->InsW c ws)(h9:9<=c):Good u Q (b+c) (s.add ws):=
 ⟨h.g.add hw h9,h.dis,h.nd,⟨h.bl.1,h.bl.2.1,h.bl.2.2.1,by have:=h.bl.2.2.2;rw [Qx];exact Nat.le_succ_of_le this⟩⟩
theorem z1z(n:Nat)(U T:List Nat):pn (zck Q n) U T=zck (pn Q U T) n:=by
 funext j
 show ((Q j||decide (j=n))||(U.contains j||T.contains j))=((Q j||(U.contains j||T.contains j))||decide (j=n))
 cases Q j<;>cases decide (j=n)<;>cases U.contains j<;>cases T.contains j<;>rfl
theorem Good.pend(h:Good u Q b s)(hw:zyf c ws)(h9:9<=c):Good u (zck Q s.L.length) (b+c) (s.add ws):=by
 obtain ⟨f1,f2,f3⟩:=h.fresh
 refine ⟨?_,λi hi=>?_,h.nd,⟨h.bl.1,h.bl.2.1,h.bl.2.2.1,by have:=h.bl.2.2.2;rw [Qx];exact Nat.le_succ_of_le this⟩⟩
 ·rw [z1z];exact h.g.pend hw h9
 ·by_cases e:i=s.L.length
  ·rw [e];exact ⟨f2,f3⟩
  ·exact h.dis i (by simpa [zck,e] using hi)
theorem Good.land(h:Good u (zck Q n) b s)(hn:Q n=false):Good u Q b (s.land n):=by
 have hq:zck Q n n=true:=by simp [zck]
 obtain ⟨d1,d2⟩:=h.dis n hq
 refine ⟨?_,λi hi=>h.dis i (by simp [zck,hi]),h.nd,⟨h.bl.1,h.bl.2.1,h.bl.2.2.1,by have:=h.bl.2.2.2;show _<=(s.L.set n _).length;rw [List.length_set];exact this⟩⟩
 have:=h.g.land (n:=n) (by unfold pn;rw [hq];rfl)
 have e:ze1 (pn (zck Q n) (s.un u) s.T) n=pn Q ((s.land n).un u) (s.land n).T:=by
  show _=pn Q (s.un u) s.T
  funext j
  by_cases e:j=n
  ·subst e
   rw [zg8]
   unfold pn
   rw [hn]
   have a1:(s.un u).contains j=false:=by simpa using d1
   have a2:s.T.contains j=false:=by simpa using d2
   rw [a1,a2]
   rfl
  ·rw [zbl e]
   unfold pn zck
   simp [e]
 rw [<-e]
 exact this
theorem Good.trapIf(h:Good u Q b s):Good u Q (b+11) s.trapIf:=by
 obtain ⟨f1,f2,f3⟩:=h.fresh
 have hp:=h.g.pend (c:=11) (Fd rw4.val (Nat.le_refl _)) yue
 refine ⟨?_,λi hi=>?_,?_,⟨h.bl.1,h.bl.2.1,h.bl.2.2.1,by have:=h.bl.2.2.2;show _<=(s.add _).L.length;rw [Qx];exact Nat.le_succ_of_le this⟩⟩
 ·have e:zck (pn Q (s.un u) s.T) s.L.length=pn Q (s.trapIf.un u) s.trapIf.T:=by
   show _=pn Q (s.un u) (s.T++[s.L.length])
   funext j
   unfold zck pn
   simp [Bool.or_assoc]
  rw [<-e]
  exact hp
 ·have:=h.dis i hi
  refine ⟨this.1,λhm=>?_⟩
  rcases List.mem_append.1 (show i∈s.T++[s.L.length] from hm) with hm|hm
  ·exact this.2 hm
  ·rw [List.mem_singleton.1 hm,f1] at hi;cases hi
 ·show (s.un u++(s.T++[s.L.length])).Nodup
  rw [<-List.append_assoc]
  refine List.nodup_append.2 ⟨h.nd,by simp,λa ha e he=>?_⟩
  rw [List.mem_singleton.1 he]
  rintro rfl
  exact (List.mem_append.1 ha).elim f2 f3
theorem Good.undoIf(h:Good true Q b s):Good true Q (b+11) s.undoIf:=by
 obtain ⟨f1,f2,f3⟩:=h.fresh
 have hp:=h.g.pend (c:=11) (Fd rw4.val (Nat.le_refl _)) yue
 have eu:s.undoIf.un true=s.bk.undo++[s.L.length]:=rfl
 have eu0:s.un true=s.bk.undo:=rfl
 refine ⟨?_,λi hi=>?_,?_,⟨h.bl.1,h.bl.2.1,h.bl.2.2.1,by have:=h.bl.2.2.2;show _<=(s.add _).L.length;rw [Qx];exact Nat.le_succ_of_le this⟩⟩
 ·have e:zck (pn Q (s.un true) s.T) s.L.length=pn Q (s.undoIf.un true) s.undoIf.T:=by
   rw [eu,eu0]
   show _=pn Q (s.bk.undo++[s.L.length]) s.T
   funext j
   unfold zck pn
   cases Q j<;>cases hu:s.bk.undo.contains j<;>cases ht:s.T.contains j<;>simp_all
  rw [<-e]
  exact hp
 ·have:=h.dis i hi
  refine ⟨λhm=>?_,this.2⟩
  rw [eu] at hm
  rcases List.mem_append.1 hm with hm|hm
  ·exact this.1 hm
  ·rw [List.mem_singleton.1 hm,f1] at hi;cases hi
 ·rw [eu]
  have hnd:=h.nd
  rw [eu0] at hnd f2
  show ((s.bk.undo++[s.L.length])++s.T).Nodup
  obtain ⟨n1,n2,n3⟩:=List.nodup_append.1 hnd
  refine List.nodup_append.2 ⟨List.nodup_append.2 ⟨n1,by simp,λa ha e he=>?_⟩,n2,λa ha e he=>?_⟩
  ·rw [List.mem_singleton.1 he]
   rintro rfl
   exact f2 ha
  ·rcases List.mem_append.1 ha with ha|ha
   ·exact n3 a ha e he
   ·rw [List.mem_singleton.1 ha]
    rintro rfl
    exact f3 he
theorem GoodP.lands: ∀(ns:List Nat) {P:Nat->Bool} {s:Ck},GoodP P b s.L->ns.Nodup->(∀n∈ns,P n=true)->GoodP (λj=>P j&&!ns.contains j) b (s.lands ns).L
 |[],P,s,h,_,_=>by simpa [Ck.lands] using h
 |n::r,P,s,h,hn,hp=>by
  have h1:GoodP (ze1 P n) b (s.land n).L:=h.land (hp n yuf)
  obtain ⟨n1,n2⟩:=List.nodup_cons.1 hn
  have h2:=GoodP.lands r (s:=s.land n) h1 n2 λi hi=>by
   have hin:i≠n:=λe=>n1 (by rw [<-e];exact hi)
   rw [zbl hin]
   exact hp i (List.mem_cons_of_mem _ hi)
  have e:(λj=>ze1 P n j&&!r.contains j)=λj=>P j&&!(n::r).contains j:=by
   funext j
   unfold ze1
   by_cases q:j=n
   ·subst q;simp
   ·simp [q]
  rw [e] at h2
  exact h2
theorem zcl: ∀(ns:List Nat) (s:Ck),(s.lands ns).T=s.T/\(s.lands ns).blk=s.blk/\(s.lands ns).L.length=s.L.length
 |[],_=>⟨rfl,rfl,rfl⟩
 |n::r,s=>by
  obtain ⟨h1,h2,h3⟩:=zcl r (s.land n)
  exact ⟨h1,h2,h3.trans (List.length_set ..)⟩
theorem zuq{s s':Ck}(h:s'.blk=s.blk):s'.bk=s.bk:=by unfold Ck.bk;rw [h]
theorem Good.landsU(h:Good true Q b s):Good false Q b (s.lands s.bk.undo):=by
 obtain ⟨k1,k2,k3⟩:=zcl s.bk.undo s
 have kb:=zuq k2
 obtain ⟨n1,n2,n3⟩:=List.nodup_append.1 (show (s.bk.undo++s.T).Nodup from h.nd)
 have hl:=GoodP.lands s.bk.undo h.g n1 λn hn=>by
  unfold pn
  have:(s.un true).contains n=true:=by show s.bk.undo.contains n=true;simpa using hn
  rw [this]
  simp
 refine ⟨?_,λi hi=>⟨by simp [Ck.un],by rw [k1];exact (h.dis i hi).2⟩,by rw [k1];simpa [Ck.un] using n2,by rw [kb,k3];exact h.bl⟩
 have e:(λj=>pn Q (s.un true) s.T j&&!s.bk.undo.contains j)=pn Q ((s.lands s.bk.undo).un false) (s.lands s.bk.undo).T:=by
  rw [k1]
  funext j
  show ((Q j||(s.bk.undo.contains j||s.T.contains j))&&!s.bk.undo.contains j)=(Q j||(false||s.T.contains j))
  cases hu:s.bk.undo.contains j with
  |false=>simp
  |true=>
   have hm:j∈s.bk.undo:=by simpa using hu
   have hq:Q j=false:=by
    cases e:Q j with
    |false=>rfl
    |true=>exact absurd hm (h.dis j e).1
   have ht:s.T.contains j=false:=by simpa using λe=>n3 j hm j e rfl
   rw [hq,ht]
   rfl
 rw [<-e]
 exact hl
theorem Xc{f:Nat->Ck->Ck}(hf: ∀i,i<N->∀b s,Good u Q b s->Good u Q (b+c) (f i s)): ∀(l:List Bool) (i b:Nat) (s:Ck),i+l.length<=N->Good u Q b s->Good u Q (b+c*l.length) (Qn f l i s)
 |[],_,_,_,_,h=>h
 |a::r,i,b,s,hl,h=>by
  simp only [Qn]
  rw [List.length_cons] at hl⊢
  have h1:Good u Q (b+c) (if a=true then f i s else s):=by
   split
   ·exact hf i yue b s h
   ·exact h.mono yue
  have:=Xc hf r (i+1) (b+c) _ yue h1
  rw [show b+c*(r.length+1)=b+c+c*r.length by rw [Nat.mul_add];omega]
  exact this
structure Cx.Fit(x:Cx):Prop where
 t:x.th<=2
 l:x.loc.length<=4
theorem zf5(hx:x.Fit)(k:Nat)(hk:k<=38):NW 3 (x.own (k:Int)):=by
 have:=hx.t
 unfold Cx.own
 rw [show (13+(x.th:Int)*39+(k:Int))=((13+x.th*39+k:Nat):Int) by omega]
 exact Xp _ 2 yue yue
theorem Xd(hx:x.Fit)(j k:Nat)(hk:j+k<=38):NW 3 (x.own ((j:Int)+(k:Int))):=by
 rw [show ((j:Int)+(k:Int))=((j+k:Nat):Int) by omega]
 exact zf5 hx _ hk
theorem zf6(k:Nat)(hk:k<=5):NW 2 (ze5 (k:Int)):=by
 unfold ze5
 rw [show (6+(k:Int))=((6+k:Nat):Int) by omega]
 exact Xp _ 1 yue yue
theorem zur(hx:x.Fit):NW 21 x.lock:=by
 have:=hx.t
 exact zuj _ yue yue
theorem zdh(hx:x.Fit)(v:ByteArray):RW (x.local v):=by
 have:=hx.l
 refine zez _ ?_
 unfold Cx.locI
 cases h:x.loc.findIdx? λy=>decide (y=v) with
 |none=>simp
 |some i=>
  have:=(List.findIdx?_eq_some_iff_getElem.1 h).1
  simp
  omega
theorem Sm(hx:x.Fit)(ha:a.ok):VW 21 (x.val a):=by
 unfold Cx.val
 split
 ·exact (zuj _ ha.2.1 ha.2.2).val
 ·exact (zdh hx _).val.mono yue
theorem zcm{a:ByteArray}(ha:VW k a)(n:Nat)(hn:n<=5)(h:Good u Q b s):Good u Q (b+(k+25)) (Zu a (n:Int) s):=by
 refine ((h.add (c:=k+12) (λ_=>Zb rw4 ha (zf6 n hn) (Nat.le_refl _)) yue).add (c:=13) (λ_=>Ew 10 yue rw4 rw4.val rw6.val yue) yue).mono yue
theorem Good.agn(h:Good u Q b s)(hl:s.L.length<=4000):TW (dec (s.bk.again:Int)):=zjc _ (by have:=h.bl.2.2.2;omega)
theorem zjd(hx:x.Fit){a:ByteArray}(ht:RW to)(ha:VW 21 a)(n:Nat)(hn:n<=5)(h:Good u Q b s):Good u Q (b+190) (x.readC to a (n:Int) s):=by
 have h1:=zcm ha n hn h
 have h2:=h1.add (c:=11) (ws:=[yJz,yR4,dec (s.bk.again:Int)]) (λhl=>zum rw4.val (h1.agn hl) yue) yue
 have h3:=h2.add (c:=32) (ws:=[Qw,yR5,a,dec (n:Int)]) (λ_=>Zb rw5 ha (Xp n 0 yue yue) yue) yue
 have h4:=zcm ha n hn h3
 have h5:=h4.add (c:=11) (ws:=[yJz,yR4,dec (s.bk.again:Int)]) (λhl=>zum rw4.val (h4.agn hl) yue) yue
 have h6:=h5.add (c:=34) (ws:=[Qh,a,x.own (12+(n:Int)),y1]) (λ_=>Vi ha (Xd hx 12 n yue) nw1.val yue) yue
 have h7:=h6.add (c:=10) (ws:=[zdp,to,yR5]) (λ_=>zg6 ht rw5.val yue) yue
 exact h7.mono yue
theorem zf7(hx:x.Fit)(ha:a.ok)(hf:x.varOk f)(h:Good u Q b s):Good u Q (b+85) (x.check f a s):=by
 obtain ⟨_,i,n,hv,hi,hn⟩:=hf
 have hvn:VW 1 (dec (n:Int)):=(Xp n 0 yue yue).val
 have hm:VW 2 yM1:=by
  have:=(zuj (-1) yue yue).val
  have e:dec (-1)=yM1:=by
   unfold dec Lib.itoa
   rw [if_pos yue,show ((-1:Int).natAbs)=1 from rfl,Lib.decDigits_one yue]
   rfl
  rw [e] at this
  exact ⟨this.1,this.2.1,Nat.le_refl _⟩
 unfold Cx.check
 dsimp only
 rw [hv]
 dsimp only
 split
 ·exact h.mono yue
 ·have h1:=h.add (c:=32) (ws:=[yLt,yR4,yM1,x.val a]) (λ_=>Ew 10 yue rw4 hm (Sm hx ha) yue) yue
  have h2:=h1.trapIf
  have h3:=h2.add (c:=31) (ws:=[yLt,yR4,x.val a,dec (n:Int)]) (λ_=>Ew 10 yue rw4 (Sm hx ha) hvn yue) yue
  exact h3.trapIf.mono yue
theorem zyi(hx:x.Fit)(ha:a.ok)(hf:x.varOk f)(h:Good u Q b s):Good u Q (b+363) (x.get to f a s):=by
 have h1:=zf7 hx ha hf h
 obtain ⟨_,i,n,hv,hi,hn⟩:=hf
 have hvl:=Sm hx ha
 have ht:=zdh hx to
 unfold Cx.get
 dsimp only
 rw [hv]
 dsimp only
 generalize x.check f a s=s1 at h1⊢
 split
 ·exact (zjd hx ht hvl i yue h1).mono yue
 ·have h2:=h1.add (c:=34) (ws:=[Qw,yR4,x.val a,x.own (6+(i:Int))]) (λ_=>Zb rw4 hvl (Xd hx 6 i yue) yue) yue
  have h3:=h2.pend (c:=11) (ws:=[yJz,yR4]) (Fd rw4.val (Nat.le_refl _)) yue
  have h4:=h3.add (c:=34) (ws:=[Qw,x.local to,x.val a,x.own (i:Int)]) (λ_=>Zb ht hvl (zf5 hx i yue) yue) yue
  have h5:=h4.pend (c:=9) (ws:=[zaa]) (zns (Nat.le_refl _)) yue
  have f1:=h2.fresh.1
  have f2:=h4.fresh.1
  generalize s1.add [Qw,yR4,x.val a,x.own (6+(i:Int))]=s2 at*
  generalize hs4:(s2.add [yJz,yR4]).add [Qw,x.local to,x.val a,x.own (i:Int)]=s4 at*
  have e1:s4.L.length=s2.L.length+2:=by rw [<-hs4,Qx,Qx]
  have f3:Q s4.L.length=false:=by
   unfold zck at f2
   exact (Bool.or_eq_false_iff.1 f2).1
  have ec:zck (zck Q s2.L.length) s4.L.length=zck (zck Q s4.L.length) s2.L.length:=by
   funext j
   unfold zck
   rw [Bool.or_assoc,Bool.or_assoc,Bool.or_comm (decide (j=s2.L.length))]
  rw [ec] at h5
  have h6:=h5.land (by unfold zck;rw [f1];simp;omega)
  have h7:=zjd hx ht hvl i yue h6
  exact (h7.land f3).mono yue
theorem zyj(hx:x.Fit){v:PV}(ha:a.ok)(hv:v.ok)(hf:x.varOk f)(h:Good u Q b s):Good u Q (b+207) (x.put f a v s):=by
 have h1:=zf7 hx ha hf h
 obtain ⟨_,i,n,hw,hi,hn⟩:=hf
 have hvl:=Sm hx ha
 unfold Cx.put
 dsimp only
 rw [hw]
 dsimp only
 have h2:=h1.add (c:=54) (ws:=[Qh,x.val a,x.own (i:Int),x.val v]) (λ_=>Vi hvl (zf5 hx i yue) (Sm hx hv) yue) yue
 have h3:=h2.add (c:=34) (ws:=[Qh,x.val a,x.own (6+(i:Int)),y1]) (λ_=>Vi hvl (Xd hx 6 i yue) nw1.val yue) yue
 have h4:=h3.add (c:=34) (ws:=[Qh,x.val a,x.own (12+(i:Int)),y0]) (λ_=>Vi hvl (Xd hx 12 i yue) nw0.val yue) yue
 exact h4.mono yue
theorem zyk(hx:x.Fit)(ha:a.ok)(h:Good u Q b s):Good u Q (b+47) (x.outC a s):=by
 have hvl:=Sm hx ha
 unfold Cx.outC
 split
 ·exact (h.add (c:=26) (λ_=>zul hvl yue) yue).mono yue
 ·have h2:=h.add (c:=35) (ws:=[Qh,yR7,x.own 24,x.val a]) (λ_=>Vi rw7.val (zf5 hx 24 yue) hvl yue) yue
  exact (h2.add (c:=12) (ws:=[yjq,yR7,yR7,y1]) (λ_=>Ew 0 yue rw7 rw7.val nw1.val yue) yue).mono yue
end
section
variable{u:Bool}{Q:Nat->Bool}{b c k:Nat}{s:Ck}{x:Cx}
theorem zus(hx:x.Fit)(i:Nat)(hi:i<6)(h:Good true Q b s):Good true Q (b+125) (x.lockC (i:Int) s):=by
 have h1:=h.add (c:=14) (ws:=[Qw,yR4,y0,x.own (6+(i:Int))]) (λ_=>Zb rw4 nw0.val (Xd hx 6 i yue) yue) yue
 have h2:=h1.pend (c:=11) (ws:=[yJz,yR4]) (Fd rw4.val (Nat.le_refl _)) yue
 have h3:=h2.add (c:=13) (ws:=[Qw,yR5,y0,ze5 (i:Int)]) (λ_=>Zb rw5 nw0.val (zf6 i yue) yue) yue
 have h4:=(h3.add (c:=13) (ws:=[yLt,yR4,yR5,yR6]) (λ_=>Ew 10 yue rw4 rw5.val rw6.val yue) yue).undoIf
 have h5:=h4.add (c:=15) (ws:=[Qh,y0,x.own (18+(i:Int)),yR5]) (λ_=>Vi nw0.val (Xd hx 18 i yue) rw5.val yue) yue
 have h6:=(h5.add (c:=37) (ws:=[zvf,yR4,y0,ze5 (i:Int),yR5,x.lock]) (λ_=>z1y rw4 nw0.val (zf6 i yue) rw5.val (zur hx).val yue) yue).undoIf
 exact (h6.land h1.fresh.1).mono yue
theorem zut(hx:x.Fit)(i:Nat)(hi:i<6)(h:Good true Q b s):Good true Q (b+62) (x.lookC (i:Int) s):=by
 have h1:=h.add (c:=14) (ws:=[Qw,yR4,y0,x.own (12+(i:Int))]) (λ_=>Zb rw4 nw0.val (Xd hx 12 i yue) yue) yue
 have h2:=h1.pend (c:=11) (ws:=[yJz,yR4]) (Fd rw4.val (Nat.le_refl _)) yue
 have h3:=(zcm nw0.val i yue h2).undoIf
 exact (h3.land h1.fresh.1).mono yue
theorem zp2(hx:x.Fit)(i:Nat)(hi:i<6)(h:Good u Q b s):Good u Q (b+66) (x.storeC (i:Int) s):=by
 have h1:=h.add (c:=14) (ws:=[Qw,yR4,y0,x.own (6+(i:Int))]) (λ_=>Zb rw4 nw0.val (Xd hx 6 i yue) yue) yue
 have h2:=h1.pend (c:=11) (ws:=[yJz,yR4]) (Fd rw4.val (Nat.le_refl _)) yue
 have h3:=h2.add (c:=14) (ws:=[Qw,yR4,y0,x.own (i:Int)]) (λ_=>Zb rw4 nw0.val (zf5 hx i yue) yue) yue
 have h4:=h3.add (c:=13) (ws:=[Qh,y0,dec (i:Int),yR4]) (λ_=>Vi nw0.val (Xp i 0 yue yue) rw4.val yue) yue
 have h5:=h4.add (c:=14) (ws:=[Qh,y0,ze5 (i:Int),yR5]) (λ_=>Vi nw0.val (zf6 i yue) rw5.val yue) yue
 exact (h5.land h1.fresh.1).mono yue
theorem zlt(hx:x.Fit)(i:Nat)(hi:i<6)(h:Good u Q b s):Good u Q (b+84) (x.unlockC (i:Int) s):=by
 have h0:=h.add (c:=13) (ws:=[Qw,yR4,y0,ze5 (i:Int)]) (λ_=>Zb rw4 nw0.val (zf6 i yue) yue) yue
 have h1:=h0.add (c:=32) (ws:=[yEq,yR4,yR4,x.lock]) (λ_=>Ew 11 yue rw4 rw4.val (zur hx).val yue) yue
 have h2:=h1.pend (c:=11) (ws:=[yJz,yR4]) (Fd rw4.val (Nat.le_refl _)) yue
 have h3:=h2.add (c:=14) (ws:=[Qw,yR4,y0,x.own (18+(i:Int))]) (λ_=>Zb rw4 nw0.val (Xd hx 18 i yue) yue) yue
 have h4:=h3.add (c:=14) (ws:=[Qh,y0,ze5 (i:Int),yR4]) (λ_=>Vi nw0.val (zf6 i yue) rw4.val yue) yue
 exact (h4.land h1.fresh.1).mono yue
theorem zuu(l:List Bool): ∀(i:Nat) (s:Ck),(Qn (λi=>x.unlockC i) l i s).bk=s.bk:=by
 induction l with
 |nil=>intro i s;rfl
 |cons a r ih=>
  intro i s
  simp only [Qn]
  rw [ih]
  split<;>rfl
theorem zuv(hx:x.Fit)(h:Good true Q b s):Good false Q (b+513) (x.undoC s):=by
 unfold Cx.undoC
 dsimp only
 have h1:=h.landsU
 have hb:(s.lands s.bk.undo).bk=s.bk:=zuq (zcl s.bk.undo s).2.1
 have hp:=h.bl.2.1
 have h2:=Xc (c:=84) (N:=6) (f:=λi=>x.unlockC i) (λi hi b s h=>zlt hx i hi h) s.bk.puts 0 b _ yue h1
 have ha:=h2.bl.2.2.2
 rw [zuu,hb] at ha
 have h3:=h2.add (c:=9) (ws:=[zaa,dec (s.bk.again:Int)]) (λhl=>zg7 (zjc _ yue) yue) yue
 exact h3.mono yue
theorem Good.toF(h:Good true Q b s)(hu:s.bk.undo=[]):Good false Q b s:=by
 have e:s.un true=s.un false:=hu
 exact ⟨e▸h.g,e▸h.dis,e▸h.nd,h.bl⟩
theorem zlu(hx:x.Fit)(h:Good true Q b s):Good false Q (b+2076) (x.commit s):=by
 have hp:=h.bl.2.1
 have hg:=h.bl.1
 have h1:=Xc (c:=125) (N:=6) (f:=λi=>x.lockC i) (λi hi b s h=>zus hx i hi h) s.bk.puts 0 b s yue h
 have h2:=h1.add (c:=15) (ws:=[Xf,yR5,y0,dec 12,y1]) (λ_=>zyg rw5 nw0.val (Xp 12 1 yue yue) nw1.val yue) yue
 have h3:=h2.add (c:=12) (ws:=[yjq,yR5,yR5,y1]) (λ_=>Ew 0 yue rw5 rw5.val nw1.val yue) yue
 have h4:=Xc (c:=62) (N:=6) (f:=λi=>x.lookC i) (λi hi b s h=>zut hx i hi h) s.bk.gets 0 _ _ yue h3
 have h5:=Xc (c:=66) (N:=6) (f:=λi=>x.storeC i) (λi hi b s h=>zp2 hx i hi h) s.bk.puts 0 _ _ yue h4
 have h6:=h5.add (c:=9) (ws:=[Yn]) (λ_=>zun) yue
 have h7:=h6.pend (c:=9) (ws:=[zaa]) (zns (Nat.le_refl _)) yue
 have h8:=zuv hx h7
 exact (h8.land h6.fresh.1).mono yue
theorem zuw(hx:x.Fit)(h:Good u Q b s):Good u Q (b+78) (x.give s):=by
 have h1:=h.add (c:=9) (ws:=[zdp,yR4,y0]) (λ_=>zg6 rw4 nw0.val yue) yue
 have h2:=h1.add (c:=13) (ws:=[yLt,yR5,yR4,yR7]) (λ_=>Ew 10 yue rw5 rw4.val rw7.val yue) yue
 have h3:=h2.pend (c:=11) (ws:=[yJz,yR5]) (Fd rw5.val (Nat.le_refl _)) yue
 have h4:=h3.add (c:=15) (ws:=[Qw,yR5,yR4,x.own 24]) (λ_=>Zb rw5 rw4.val (zf5 hx 24 yue) yue) yue
 have h5:=h4.add (c:=9) (ws:=[zp6,yR5]) (λ_=>zul rw5.val yue) yue
 have h6:=h5.add (c:=12) (ws:=[yjq,yR4,yR4,y1]) (λ_=>Ew 0 yue rw4 rw4.val nw1.val yue) yue
 have h7:=h6.add (c:=9) (ws:=[zaa,dec (((s.add [zdp,yR4,y0]).L.length:Nat):Int)]) (λhl=>zg7 (zjc _ (by simp only [Qx] at hl⊢;omega)) yue) yue
 exact (h7.land h2.fresh.1).mono yue
theorem zp3(hx:x.Fit)(h:Good u Q b s):Good u Q (b+318) (x.begin s):=by
 have hc:=h.bl.2.2.1
 have hp:=h.bl.2.1
 have hg:=h.bl.1
 have h1:=Xc (c:=15) (N:=4) (f:=λi s=>s.add [Qh,y0,x.own (32+(i:Int)),Zy (i:Int)]) (λi hi b s h=>h.add (λ_=>Vi nw0.val (Xd hx 32 i yue) (zez i yue).val yue) yue) s.bk.chgs 0 b s yue h
 have hb:=Zl (λi=>[Qh,y0,x.own (32+(i:Int)),Zy (i:Int)]) s.bk.chgs 0 s
 have hbk:=zuq hb
 simp only [Cx.begin]
 generalize Qn (λi s=>s.add [Qh,y0,x.own (32+(i:Int)),Zy (i:Int)]) s.bk.chgs 0 s=s1 at*
 have h2:Good u Q (b+15*s.bk.chgs.length) ({s1 with blk:=some {s.bk with again:=s1.L.length}}:Ck):=by
  have e:({s1 with blk:=some {s.bk with again:=s1.L.length}}:Ck).un u=s1.un u:=by
   unfold Ck.un
   rw [hbk]
   rfl
  refine ⟨?_,?_,?_,⟨hg,hp,hc,Nat.le_refl _⟩⟩
  ·rw [e];exact h1.g
  ·rw [e];exact h1.dis
  ·rw [e];exact h1.nd
 have h3:=Xc (c:=14) (N:=4) (f:=λi s=>s.add [Qw,Zy (i:Int),y0,x.own (32+(i:Int))]) (λi hi b s h=>h.add (λ_=>Zb (zez i yue) nw0.val (Xd hx 32 i yue) yue) yue) s.bk.chgs 0 _ _ yue h2
 have h4:=h3.add (c:=13) (ws:=[Qw,yR6,y0,dec 12]) (λ_=>Zb rw6 nw0.val (Xp 12 1 yue yue) yue) yue
 have h5:=h4.add (c:=12) (ws:=[yjq,yR6,yR6,y1]) (λ_=>Ew 0 yue rw6 rw6.val nw1.val yue) yue
 have h6:=Xc (c:=14) (N:=6) (f:=λi s=>s.add [Qh,y0,x.own (6+(i:Int)),y0]) (λi hi b s h=>h.add (λ_=>Vi nw0.val (Xd hx 6 i yue) nw0.val yue) yue) s.bk.puts 0 _ _ yue h5
 have h7:=Xc (c:=14) (N:=6) (f:=λi s=>s.add [Qh,y0,x.own (12+(i:Int)),y0]) (λi hi b s h=>h.add (λ_=>Vi nw0.val (Xd hx 12 i yue) nw0.val yue) yue) s.bk.gets 0 _ _ yue h6
 have h8:=h7.add (c:=9) (ws:=[zdp,yR7,y0]) (λ_=>zg6 rw7 nw0.val yue) yue
 exact h8.mono yue
theorem zp4(e:En)(k:Bk):(x.seen k e).again=k.again:=by
 rcases e with st|j
 ·rcases st with ⟨to,a⟩|⟨to,o,a,b⟩|⟨to,f,a⟩|⟨f,a,v⟩|a|⟨⟩|a|n<;>rfl
 ·rfl
theorem zje: ∀(es:List En) (k:Bk),(es.foldl x.seen k).again=k.again
 |[],_=>rfl
 |e::r,k=>(zje r (x.seen k e)).trans (zp4 e k)
theorem zlv(hx:x.Fit){k:Bk}(hk:k.New)(ha:k.again=0){body:Ck->Ck}(hb: ∀B s',s'.loops=s.loops->Good true Q B s'->Good true Q (B+N) (body s'))(hB: ∀s:Ck,(body s).blk=s.blk)(hn:s.blk=none)(h:Good true Q b s):
  Good true Q (b+(N+2472)) (x.atomicC k body s):=by
 have e0:s.un true=[]:=by unfold Ck.un Ck.bk;rw [hn];rfl
 have ek:({s with blk:=some k}:Ck).un true=[]:=hk.u
 have h1:Good true Q b ({s with blk:=some k}:Ck):=by
  refine ⟨?_,?_,?_,⟨Nat.le_of_eq hk.g,Nat.le_of_eq hk.p,Nat.le_of_eq hk.c,?_⟩⟩
  ·rw [ek];have:=h.g;rw [e0] at this;exact this
  ·rw [ek];have:=h.dis;rw [e0] at this;exact this
  ·rw [ek];have:=h.nd;rw [e0] at this;exact this
  ·show k.again<=_;omega
 have h2:=zp3 hx h1
 obtain ⟨n,h3,_⟩:=zh4 x (s:={s with blk:=some k}) rfl
 have h4:=hb _ (x.begin {s with blk:=some k}) ((zat x).lo {s with blk:=some k}) h2
 have h5:=(hB (x.begin {s with blk:=some k})).trans h3
 unfold Cx.atomicC
 dsimp only
 generalize body (x.begin {s with blk:=some k})=s2 at*
 have hu:s2.bk.undo=[]:=by rw [Sq h5];exact hk.u
 have h6:Good false Q (b+318+N+2076) (if k.puts=[false,false,false,false,false,false] then s2 else x.commit s2):=by
  split
  ·exact (h4.toF hu).mono yue
  ·exact (zlu hx h4).mono yue
 generalize (if k.puts=[false,false,false,false,false,false] then s2 else x.commit s2)=s3 at*
 have h7:Good false Q (b+318+N+2076+78) (if k.gives=true then x.give s3 else s3):=by
  split
  ·exact zuw hx h6
  ·exact h6.mono yue
 generalize (if k.gives=true then x.give s3 else s3)=s4 at*
 have h8:Good true Q (b+318+N+2076+78) ({s4 with blk:=none}:Ck):=⟨h7.g,h7.dis,h7.nd,⟨Nat.zero_le _,Nat.zero_le _,Nat.zero_le _,Nat.zero_le _⟩⟩
 exact h8.mono yue
theorem zjf(hx:x.Fit){inb:Bool}{st:St}(hl:x.leafOk inb st)(h:Good true Q b s):Good true Q (b+363) (x.leaf st s):=by
 rcases st with ⟨to,a⟩|⟨to,o,a,v⟩|⟨to,f,a⟩|⟨f,a,v⟩|a|⟨⟩|a|n
 ·exact (h.add (c:=29) (λ_=>zg6 (zdh hx to) (Sm hx hl.2) yue) yue).mono yue
 ·exact (h.add (c:=51) (λ_=>Ew o hl.2.1 (zdh hx to) (Sm hx hl.2.2.1) (Sm hx hl.2.2.2) yue) yue).mono yue
 ·exact zyi hx hl.2.2.2 hl.2.2.1 h
 ·exact (zyj hx hl.2.2.1 hl.2.2.2 hl.2.1 h).mono yue
 ·exact (zyk hx hl h).mono yue
 ·exact hl.elim
 ·exact hl.elim
 ·exact hl.elim
theorem Of{f:Ck->En->Ck}{cst:En->Nat}{I:Ck->Prop}: ∀(es:List En) (b:Nat) (s:Ck),(∀e∈es,∀B s,I s->Good true Q B s->Good true Q (B+cst e) (f s e)/\I (f s e))->I s->Good true Q b s->Good true Q (b+(es.map cst).sum) (es.foldl f s)/\I (es.foldl f s)
 |[],_,_,_,hI,hg=>⟨hg,hI⟩
 |e::r,b,s,h,hI,hg=>by
  obtain ⟨h1,h2⟩:=h e yuf b s hI hg
  have:=Of r (b+cst e) (f s e) (λe' he=>h e' (List.mem_cons_of_mem _ he)) h2 h1
  simp only [List.foldl_cons,List.map_cons,List.sum_cons]
  rw [<-Nat.add_assoc]
  exact this
theorem zg9(hx:x.Fit)(hs:List Hd): ∀(f:Nat) (inb:Bool) (e:En),enW hs x f inb e->∀(Q:Nat->Bool) (b:Nat) (s:Ck),(inb=false->s.blk=none)->s.loops+f<=3->Good true Q b s->Good true Q (b+2472*wE hs f e) (cEn hs x f e s)
 |0,_, .inl st,hw,Q,b,s,_,_,h=>by
  refine (zjf hx hw h).mono ?_
  show _<=b+2472*1
  omega
 |0,_, .inr _,hw,_,_,_,_,_,_=>hw.elim
 |f+1,_, .inl st,hw,Q,b,s,_,_,h=>by
  refine (zjf hx hw h).mono ?_
  show _<=b+2472*(1+_)
  omega
 |f+1,inb, .inr j,hw,Q,b,s,hn,hlo,h=>by
  obtain ⟨es,_,hw⟩:=hw
  have hc: ∀k,hs[j]?=some ⟨k,es⟩->2472*wE hs (f+1) (.inr j)=2472+(es.map λe=>2472*wE hs f e).sum:=λk hj=>by
   rw [Is]
   simp only [wE,Jb,hj,Nat.mul_add]
  rcases hw with ⟨hj,hb,he⟩|⟨a,hj,ha,he⟩|⟨n,hj,hn14,he⟩
  ·have hblk: ∀s:Ck,(es.foldl (λs e=>cEn hs x f e s) s).blk=s.blk:=λs'=>Oq (f:=λs e=>cEn hs x f e s) es s' (λe he' s=>Xh hs x f true e (he e he') s (λq=>by cases q))
   have e2:cEn hs x (f+1) (.inr j) s=x.atomicC ((Jf hs 3 es).foldl x.seen bk0) (λs=>es.foldl (λs e=>cEn hs x f e s) s) s:=by
    simp only [cEn,hj]
    rfl
   rw [e2,hc _ hj]
   have:=zlv hx (zgq x (Jf hs 3 es) bk0 zkd) (zje (x:=x) (Jf hs 3 es) bk0) (N:=(es.map λe=>2472*wE hs f e).sum) (λB s' hl hg=>(Of (f:=λs e=>cEn hs x f e s) (I:=λs=>s.loops+f<=3) es B s' (λe he' B s hI hg=>⟨zg9 hx hs f true e (he e he') Q B s (λq=>by cases q) hI hg,by have:=(Fq hs x f e).lo s;show (cEn hs x f e s).loops+f<=3;omega⟩) (by show s'.loops+f<=3;omega) hg).1) hblk (hn hb) h
   exact this.mono yue
  ·have e2:cEn hs x (f+1) (.inr j) s=(es.foldl (λs e=>cEn hs x f e s) (s.add [yJz,x.val a])).land s.L.length:=by
    simp only [cEn,hj]
    rfl
   rw [e2,hc _ hj]
   have h1:=h.pend (c:=30) (ws:=[yJz,x.val a]) (Fd (Sm hx ha) (Nat.le_refl _)) yue
   have h2:=(Of (f:=λs e=>cEn hs x f e s) (cst:=λe=>2472*wE hs f e) (I:=λs=>s.loops+f<=3/\(inb=false->s.blk=none)) es _ (s.add [yJz,x.val a]) (λe he' B s hI hg=>⟨zg9 hx hs f inb e (he e he') _ B s hI.2 hI.1 hg,by have:=(Fq hs x f e).lo s;show (cEn hs x f e s).loops+f<=3;omega,λhq=>(Xh hs x f inb e (he e he') s hI.2).trans (hI.2 hq)⟩) ⟨by show s.loops+f<=3;omega,hn⟩ h1).1
   exact (h2.land h.fresh.1).mono yue
  ·obtain ⟨n',hn'⟩: ∃n':Nat,n=(n':Int):=⟨n.toNat,by omega⟩
   subst hn'
   have hdn:VW 1 (dec (n':Int)):=(Xp n' 0 yue yue).val
   have hown:=Xd hx 36 s.loops yue
   have e2:cEn hs x (f+1) (.inr j) s=x.loopC (n':Int) (λs=>es.foldl (λs e=>cEn hs x f e s) s) s:=by
    simp only [cEn,hj]
    rfl
   rw [e2,hc _ hj]
   have h0:Good true Q b ({s with loops:=s.loops+1}:Ck):=⟨h.g,h.dis,h.nd,h.bl⟩
   have h1:=h0.add (c:=14) (ws:=[Qh,y0,x.own (36+(s.loops:Int)),dec (n':Int)]) (λ_=>Vi nw0.val hown hdn yue) yue
   have h2:=(Of (f:=λs e=>cEn hs x f e s) (cst:=λe=>2472*wE hs f e) (I:=λs=>s.loops+f<=3/\(inb=false->s.blk=none)) es _ (({s with loops:=s.loops+1}:Ck).add [Qh,y0,x.own (36+(s.loops:Int)),dec (n':Int)]) (λe he' B s hI hg=>⟨zg9 hx hs f inb e (he e he') _ B s hI.2 hI.1 hg,by have:=(Fq hs x f e).lo s;show (cEn hs x f e s).loops+f<=3;omega,λhq=>(Xh hs x f inb e (he e he') s hI.2).trans (hI.2 hq)⟩) ⟨by show s.loops+1+f<=3;omega,hn⟩ h1).1
   have hle:=(Oo (f:=λs e=>cEn hs x f e s) (λe=>Fq hs x f e) es).le (({s with loops:=s.loops+1}:Ck).add [Qh,y0,x.own (36+(s.loops:Int)),dec (n':Int)])
   unfold Cx.loopC
   dsimp only at hle⊢
   generalize ({s with loops:=s.loops+1}:Ck).add [Qh,y0,x.own (36+(s.loops:Int)),dec (n':Int)]=s1 at*
   generalize es.foldl (λs e=>cEn hs x f e s) s1=s2 at*
   have h3:=h2.add (c:=14) (ws:=[Qw,yR4,y0,x.own (36+(s.loops:Int))]) (λ_=>Zb rw4 nw0.val hown yue) yue
   have h4:=h3.add (c:=12) (ws:=[zyo,yR4,yR4,y1]) (λ_=>Ew 1 yue rw4 rw4.val nw1.val yue) yue
   have h5:=h4.add (c:=15) (ws:=[Qh,y0,x.own (36+(s.loops:Int)),yR4]) (λ_=>Vi nw0.val hown rw4.val yue) yue
   have h6:=h5.pend (c:=11) (ws:=[yJz,yR4]) (Fd rw4.val (Nat.le_refl _)) yue
   have h7:=h6.add (c:=9) (ws:=[zaa,dec ((s1.L.length:Nat):Int)]) (λhl=>zg7 (zjc _ (by simp only [Qx] at hl;omega)) yue) yue
   have h8:=(h7.land h5.fresh.1).mono (b':=b+(2472+(es.map λe=>2472*wE hs f e).sum)) yue
   exact ⟨h8.g,h8.dis,h8.nd,h8.bl⟩
theorem znt: ∀(L:List ByteArray) (i:Nat),wt (λ_=>false) i L=(L.map λl=>l.size+1).sum
 |[],_=>rfl
 |a::r,i=>by simp only [wt,List.map_cons,List.sum_cons,cond_false];rw [znt r]
theorem GoodP.fin{L:List ByteArray}(h:GoodP (λ_=>false) b L)(hb:b<=34626):L.length<=4000/\(∀l∈L,ze0 l)/\(L.map λl=>l.size+1).sum<=34626:=by
 have hl:L.length<=4000:=by have:=h.n9;omega
 obtain ⟨h1,h2⟩:=h.ok hl
 rw [znt] at h2
 refine ⟨hl,λl hm=>?_,by omega⟩
 obtain ⟨i,hi⟩:=List.getElem?_of_mem hm
 exact (h1 i l hi).2 rfl
theorem zjg(hx:x.Fit)(hs:List Hd)(es:List En)(he: ∀e∈es,enW hs x 3 false e)(hw:(es.map (wE hs 3)).sum<=14):
  (It hs x es).L.length<=4000/\(∀l∈(It hs x es).L,ze0 l)/\((It hs x es).L.map λl=>l.size+1).sum<=34626:=by
 have h0:Good true (λ_=>false) 0 Ck.none':=⟨⟨λi hi=>by simp [pn,Ck.un,Ck.bk,Ck.none'] at hi,Nat.le_refl _,λ_=>⟨λi l hi=>by simp [Ck.none'] at hi,Nat.le_refl _⟩⟩,λi hi=>(by cases hi),by simp [Ck.un,Ck.bk,Ck.none'],⟨Nat.zero_le _,Nat.zero_le _,Nat.zero_le _,Nat.zero_le _⟩⟩
 obtain ⟨h1,_,hb⟩:=Of (f:=λs e=>cEn hs x 3 e s) (cst:=λe=>2472*wE hs 3 e) (I:=λs=>s.loops+3<=3/\s.blk=none) es 0 Ck.none' (λe he' B s hI hg=>⟨zg9 hx hs 3 false e (he e he') _ B s (λ_=>hI.2) hI.1 hg,by have:=(Fq hs x 3 e).lo s;show (cEn hs x 3 e s).loops+3<=3;have:=hI.1;omega,(Xh hs x 3 false e (he e he') s (λ_=>hI.2)).trans hI.2⟩) ⟨Nat.le_refl _,rfl⟩ h0
 rw [Is] at h1
 unfold It
 generalize es.foldl (λs e=>cEn hs x 3 e s) Ck.none'=s at*
 generalize (es.map (wE hs 3)).sum=W at*
 have eu:s.un true=[]:=by unfold Ck.un Ck.bk;rw [hb];rfl
 have hg:=h1.g
 have hnd:=h1.nd
 rw [eu] at hg hnd
 have ep:pn (λ_=>false) [] s.T=λj=>s.T.contains j:=by funext j;simp [pn]
 rw [ep] at hg
 unfold Ck.endC
 split
 ·rename_i hT
  rw [hT] at hg
  have e:(λj=>([]:List Nat).contains j)=λ_=>false:=by funext j;simp
  rw [e] at hg
  exact (hg.add (c:=9) (λ_=>znr) yue).fin yue
 ·have h2:=GoodP.lands s.T (s:=s.add [Ex]) (hg.add (c:=9) (λ_=>znr) yue) (by simpa using hnd) (λn hn=>by simpa using hn)
  have e:(λj=>(λj=>s.T.contains j) j&&!s.T.contains j)=λ_=>false:=by funext j;simp
  rw [e] at h2
  exact (h2.add (c:=9) (λ_=>zyh) yue).fin yue
end
def lnT(ls:List (List UInt8)):List UInt8:=ls.flatMap λl=>l++[10]
def rdL:List (List UInt8)->List (List Ic)->Option (List (List Ic))
 |[],acc=>some acc
 |l::r,acc=>match Gj (Ql l) acc with
  | .ok acc'=>rdL r acc'
  | .error _=>none
theorem zux: ∀(l r:List (List UInt8)) (acc acc':List (List Ic)),rdL l acc=some acc'->rdL (l++r) acc=rdL r acc'
 |[],_,_,_,h=>by rw [Option.some.inj h];rfl
 |a::l,r,acc,acc',h=>by
  simp only [List.cons_append,rdL] at h⊢
  cases hg:Gj (Ql a) acc with
  |error e=>rw [hg] at h;cases h
  |ok x=>rw [hg] at h;exact zux l r x acc' h
theorem znu: ∀(ls:List (List UInt8)) (f j:Nat) (acc acc':List (List Ic)),ls.length+1<=f->(j≠0\/ls≠[])->(∀l∈ls,(10:UInt8)∉l)->rdL ls acc=some acc'->zdo f (lnT ls) j acc= .ok acc'
 |_,0,_,_,_,hf,_,_,_=>by omega
 |[],f+1,j,acc,acc',_,hj,_,h=>by
  rw [zdo,if_pos ⟨rfl,hj.resolve_right yuf⟩,Option.some.inj h]
 |l::r,f+1,j,acc,acc',hf,_,hn,h=>by
  have e:lnT (l::r)=l++10::lnT r:=by simp [lnT]
  rw [zdo,e,if_neg yuf,zek l (lnT r) (hn l yuf)]
  dsimp only
  simp only [rdL] at h
  cases hg:Gj (Ql l) acc with
  |error e=>rw [hg] at h;cases h
  |ok a=>
   rw [hg] at h
   exact znu r f (j+1) a acc' (by simp at hf;omega) (.inl yue) (λl' hl=>hn l' (List.mem_cons_of_mem _ hl)) h
theorem zp5: ∀(L:List ByteArray),L≠[]->(Zt 10 L++⟨#[10]⟩).data.toList=lnT (L.map λl=>l.data.toList)
 |[],h=>absurd rfl h
 |l::r,_=>by
  rw [ByteArray.data_append,Array.toList_append,Zx]
  have: ∀(r:List ByteArray),(r.map λv=>(10:UInt8)::v.data.toList).flatten++[10]=10::lnT (r.map λl=>l.data.toList):=by
   intro r
   induction r with
   |nil=>rfl
   |cons a r ih=>
    simp only [List.map_cons,List.flatten_cons,List.append_assoc,ih]
    simp [lnT]
  have e:=this r
  simp only [List.append_assoc]
  rw [e]
  simp [lnT]
def zjh(st:RS)(i:Nat):List (List UInt8):=Vj.data.toList::(It st.hs (zmu st i 0 0) (st.ents (st.thr i))).L.map λl=>l.data.toList
def Gi(st:RS):Nat->List (List UInt8)
 |0=>[]
 |i+1=>Gi st i++zjh st i
theorem zuz(a b:List (List UInt8)):lnT (a++b)=lnT a++lnT b:=by simp [lnT]
theorem zha(st:RS)(i:Nat):(Ek st i).data.toList=lnT (zjh st i):=by
 unfold Ek zfr Ck.text zjh
 rw [ByteArray.data_append,Array.toList_append,zp5 _ (show (It _ _ _).L≠[] from zss _)]
 rfl
theorem ze2(st:RS): ∀n,za0 st n=lnT (Gi st n)
 |0=>rfl
 |n+1=>by
  simp only [za0,Gi]
  rw [zuz,ze2 st n,zha]
theorem zu0: ∀(L:List ByteArray),(lnT (L.map λl=>l.data.toList)).length=(L.map λl=>l.size+1).sum
 |[]=>rfl
 |l::r=>by
  have:lnT ((l::r).map λl=>l.data.toList)=(l.data.toList++[10])++lnT (r.map λl=>l.data.toList):=rfl
  rw [this,List.length_append,zu0 r,List.map_cons,List.sum_cons,List.length_append,Array.length_toList]
  rfl
theorem zzg: ∀(L:List (List UInt8)),L.length<=(lnT L).length
 |[]=>Nat.le_refl _
 |l::r=>by
  have e:lnT (l::r)=(l++[10])++lnT r:=rfl
  have:=zzg r
  rw [e,List.length_append,List.length_append,List.length_cons,List.length_singleton]
  omega
theorem zu1{s:ByteArray}{st:RS}(hg:zaz s= .ok st):Jl s= .ok st/\zay st=false/\st.Ok 2000/\st.threads≠[]:=by
 unfold zaz at hg
 cases h:Jl s with
 |error e=>rw [h] at hg;cases hg
 |ok st'=>
  rw [h] at hg
  dsimp only at hg
  by_cases c1:st'.opn.length≠1
  ·rw [if_pos c1] at hg;cases hg
  rw [if_neg c1] at hg
  by_cases c2:zay st'=true
  ·rw [if_pos c2] at hg;cases hg
  rw [if_neg c2] at hg
  obtain rfl:=Except.ok.inj hg
  have hok:st'.Ok 2000:=by
   have hz:=Iv h
   unfold Jl at h
   rw [if_neg yue] at h
   exact zbe _ _ 0 _ _ none_ok (by rw [Array.length_toList];show 0+s.size<=2000;omega) h
  exact ⟨rfl,by simpa using c2,hok,hok.ne λe=>c1 yvf⟩
abbrev Mx:=List (Th×List Ic)×(Nat->Int)
section
variable{D:Nat->Prop}{w:World}{bm:Nat}{p p':Mx}
end
end Go.Proofs.YtkenoofmkbghiaaGreatDoor
