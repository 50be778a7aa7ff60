import Derived.Test.YtkenoofmkbghiaaGreatDoorO08
import Derived.Test.YtkenoofmkbghiaaGreatDoorO09
set_option maxRecDepth 100000
set_option maxHeartbeats 2000000
namespace Go.Proofs.YtkenoofmkbghiaaGreatDoor
open Go.RowKit
attribute [local go_sem] Jy ze8 zqc
section
variable{w:World}{b bm:Nat}{iv ov:Value}{T:Th}{m:Nat->Int}
theorem z7s(w:World)(o:Obj)(n:Nat):Below w.heap.size w ((w.alloc o).drewN n):=⟨(z7f w o).os,(z7f w o).tape,(z7f w o).output,(z7f w o).size,(z7f w o).block⟩
theorem yaq(h:ThAt w b bm iv ov T)(hm:MemAt w bm m)(x y:Vl)(hx:x.ok)(hy:y.ok)(op d v:Int)(d0:0<=d)(d1:d<8)
  (hop: ∀W,Cl 245 #[.int .i64 op, .int .i64 (x.of T), .int .i64 (y.of T)] W λe w'=>e= .returned (.tuple #[.int .i64 v, .bool true])/\w'=W):
  Cl 244 #[.agg #[.int .i64 op, .int .i64 d,z7o x,z7o y],ifc b] w λe w'=>e= .returned (.tuple #[])/\Eff w b bm iv ov (T.setR d.toNat v) m w':=by
 obtain ⟨t,u,F,he,hme,hen,hv⟩:=z77 x hx
 obtain ⟨t2,u2,F2,he2,hme2,hen2,hv2⟩:=z77 y hy
 rw [he,he2]
 have H:=hid h
 have HM:=hid hm
 have HX:=hid (λW hB=>hv W b bm iv ov T (h.below (w':=W) hB))
 have HY:=hid (λW hB=>hv2 W b bm iv ov T (h.below (w':=W) hB))
 have HO:=hid hop
 generalize x.of T=p at HX HO
 generalize y.of T=q at HY HO
 clear h hm hv hv2 he he2 hx hy hop
 go_enter Tryz.func244,Tryz.ntmps244
 go_wp2_with fail
 go_quiet ((first
  |(go_at_call 245;exact Calls.quiet_of_same (HO.out _))
  |(with_reducible exact Calls.quiet_of_same (HX.out _ (z7s _ _ _)))
  |(with_reducible exact Calls.quiet_of_same (HY.out _ (z7s _ _ _)))))
 go_wp2_with (go_at_call 246;refine (z79 b d _ _ _ d0 d1 ((H.out.below (z7s _ _ _)).regs _ yum) ((H.out.below (z7s _ _ _)).free _ yum)).mono ?_;rintro e w3 ⟨rfl,rfl⟩)
 go_end0
 exact ⟨rfl,((H.out.below (z7s _ _ _)).effReg (HM.out.below (z7s _ _ _)) yum _).base (z7s _ _ _)⟩
theorem z91(h:ThAt w b bm iv ov T)(hm:MemAt w bm m)(x y:Vl)(hx:x.ok)(hy:y.ok)(op d v:Int)
  (hop: ∀W,Cl 245 #[.int .i64 op, .int .i64 (x.of T), .int .i64 (y.of T)] W λe w'=>e= .returned (.tuple #[.int .i64 v, .bool false])/\w'=W):
  Cl 244 #[.agg #[.int .i64 op, .int .i64 d,z7o x,z7o y],ifc b] w λe w'=>e= .returned (.tuple #[])/\Eff w b bm iv ov {T with st:=1} m w':=by
 obtain ⟨t,u,F,he,hme,hen,hv⟩:=z77 x hx
 obtain ⟨t2,u2,F2,he2,hme2,hen2,hv2⟩:=z77 y hy
 rw [he,he2]
 have H:=hid h
 have HM:=hid hm
 have HX:=hid (λW hB=>hv W b bm iv ov T (h.below (w':=W) hB))
 have HY:=hid (λW hB=>hv2 W b bm iv ov T (h.below (w':=W) hB))
 have HO:=hid hop
 generalize x.of T=p at HX HO
 generalize y.of T=q at HY HO
 clear h hm hv hv2 he he2 hx hy hop
 go_enter Tryz.func244,Tryz.ntmps244
 go_wp2_with fail
 go_quiet ((first
  |(go_at_call 245;exact Calls.quiet_of_same (HO.out _))
  |(with_reducible exact Calls.quiet_of_same (HX.out _ (z7s _ _ _)))
  |(with_reducible exact Calls.quiet_of_same (HY.out _ (z7s _ _ _)))))
 go_wp2_with (go_at_call 267;refine (z9c b 1 _ _ (H.out.below (z7s _ _ _)).state ((H.out.below (z7s _ _ _)).free 22 yum)).mono ?_;rintro e w1 ⟨rfl,rfl⟩)
 refine bodyPost_ret (results_none rfl _ _ _) rfl ?_
 exact ⟨rfl,((H.out.below (z7s _ _ _)).effState (HM.out.below (z7s _ _ _)) 1).base (z7s _ _ _)⟩
end
def okI(i:Ic):Prop:=i.d<8/\i.a.ok/\i.b.ok/\i.c.ok/\(i.k=2\/i.k=3\/i.k=4\/i.k=5\/i.k=6\/i.k=7\/i.k=8\/i.k=10\/i.k=0\/(i.k=1/\i.op<12)\/i.k=9)
theorem yeg{x:Vl}(h:x.reg=false):z7o x= .iface 291 (.int .i64 x.v):=by simp [z7o,h]
theorem yeh{x:Vl}(h:x.reg=true):z7o x= .iface 236 (.int .i64 x.v):=by simp [z7o,h]
theorem Vl.of_num{x:Vl}(h:x.reg=false)(T:Th):x.of T=x.v:=by simp [Vl.of,h]
theorem Vl.of_reg{x:Vl}(h:x.reg=true)(T:Th):x.of T=T.r x.v.toNat:=by simp [Vl.of,h]
section
variable{w:World}{b bm:Nat}{iv ov:Value}{T:Th}{m:Nat->Int}
theorem yi4(h:ThAt w b bm iv ov T)(hm:MemAt w bm m)(i:Ic)(hok:okI i)(hl:T.out.length<1099511627776):
  Cl (ybi i) #[z8x i,ifc b] w λe w'=>e= .returned (.tuple #[])/\Eff w b bm iv ov (doI i T m).1 (doI i T m).2 w':=by
 obtain ⟨k,op,d,xa,xb,xc,n⟩:=i
 obtain ⟨hd,ha,hb,hc,hk⟩:=hok
 simp only at hd ha hb hc hk
 have d0:(0:Int)<=(d:Int):=yum
 have d1:(d:Int)<8:=yum
 have hk':=hk
 rcases hk with rfl|rfl|rfl|rfl|rfl|rfl|rfl|rfl|rfl|⟨rfl,hop⟩|rfl
 ·simp only [ybi,z8x,doI,if_true]
  by_cases hin:0<=z6z xa n T/\z6z xa n T<256
  ·rw [if_pos hin]
   have:=yc1 h hm xa ha n d d0 d1 hin.1 hin.2
   rwa [Int.toNat_natCast] at this
  ·rw [if_neg hin]
   exact ybr h hm xa ha n d hin
 ·simp only [ybi,z8x,doI,if_true,Nat.reduceEqDiff,if_false]
  by_cases hin:0<=z6z xa n T/\z6z xa n T<256
  ·rw [if_pos hin]
   cases hr:xb.reg
   ·rw [yeg hr,Vl.of_num hr];exact ya6 h hm xa ha n xb.v hin.1 hin.2
   ·have hv:=hb hr
    rw [yeh hr,Vl.of_reg hr];exact ya7 h hm xa ha n xb.v hv.1 hv.2 hin.1 hin.2
  ·rw [if_neg hin]
   exact ya5 h hm xa xb ha n hin
 ·simp only [ybi,z8x,doI,if_true,Nat.reduceEqDiff,if_false]
  by_cases hin:0<=z6z xa n T/\z6z xa n T<256
  ·rw [if_pos hin]
   by_cases he:z6x m T.q (z6z xa n T).toNat=xb.of T
   ·have:=yao h hm xa xb xc ha hb hc n d d0 d1 hin.1 hin.2 he
    rw [Int.toNat_natCast] at this
    rw [if_pos he];exact this
   ·have:=yap h hm xa xb xc ha hb hc n d d0 d1 hin.1 hin.2 he
    rw [Int.toNat_natCast] at this
    rw [if_neg he];exact this
  ·rw [if_neg hin]
   exact yc2 h hm xa xb xc ha n d hin
 ·simp only [ybi,z8x,doI,if_true,Nat.reduceEqDiff,if_false]
  by_cases hin:0<=z6z xa n T/\z6z xa n T<256
  ·rw [if_pos hin]
   have:=ybw h hm xa xb ha hb n d d0 d1 hin.1 hin.2
   rwa [Int.toNat_natCast] at this
  ·rw [if_neg hin]
   exact ybs h hm xa xb ha n d hin
 ·simp only [ybi,z8x,doI,if_true,Nat.reduceEqDiff,if_false]
  exact yfh h hm
 ·simp only [ybi,z8x,doI,if_true,Nat.reduceEqDiff,if_false]
  exact ygy h hm xa ha hl
 ·simp only [ybi,z8x,doI,if_true,Nat.reduceEqDiff,if_false]
  exact ygu h hm n
 ·simp only [ybi,z8x,doI,Nat.reduceEqDiff,if_false]
  exact yhq h hm n
 ·simp only [ybi,z8x,doI,if_true,Nat.reduceEqDiff,if_false]
  have:=ygz h hm xa ha d d0 d1
  rwa [Int.toNat_natCast] at this
 ·simp only [ybi,z8x,doI,if_true,Nat.reduceEqDiff,if_false]
  cases hv:opV op (xa.of T) (xb.of T) with
  |some v=>
   have:=yaq h hm xa xb ha hb op d v d0 d1 (λW=>by
    have:=ycf (xa.of T) (xb.of T) W op hop
    rw [hv] at this
    exact this)
   rw [Int.toNat_natCast] at this
   exact this
  |none=>
   exact z91 h hm xa xb ha hb op d 0 (λW=>by
    have:=ycf (xa.of T) (xb.of T) W op hop
    rw [hv] at this
    exact this)
 ·simp only [ybi,z8x,doI,if_true,Nat.reduceEqDiff,if_false]
  by_cases hz:xa.of T=0
  ·rw [if_pos hz];exact z98 h hm xa ha n hz
  ·rw [if_neg hz];exact yan h hm xa ha n hz
theorem yc4(i:Ic)(hok:okI i)(W:World):(method 481 (yaz i) (z8x i) "Do").run Tryz.prog W= .ok (ybi i,z8x i) W:=by
 obtain ⟨k,op,d,xa,xb,xc,n⟩:=i
 obtain ⟨hd,ha,hb,hc,hk⟩:=hok
 simp only at hk
 rcases hk with rfl|rfl|rfl|rfl|rfl|rfl|rfl|rfl|rfl|⟨rfl,hop⟩|rfl
 ·exact ygq _ W
 ·exact yff _ W
 ·exact yho _ W
 ·exact ygr _ W
 ·exact yfg _ W
 ·exact ygs _ W
 ·exact ygt _ W
 ·exact yhp _ W
 ·exact ygp _ W
 ·exact ycw _ W
 ·exact yd6 _ W
theorem yc5(i:Ic)(hok:okI i): ∀args W,(callFunc (ybi i) args).run Tryz.prog W= .ok (.enter (ybi i) args) W:=by
 obtain ⟨k,op,d,xa,xb,xc,n⟩:=i
 obtain ⟨hd,ha,hb,hc,hk⟩:=hok
 simp only at hk
 rcases hk with rfl|rfl|rfl|rfl|rfl|rfl|rfl|rfl|rfl|⟨rfl,hop⟩|rfl
 ·exact enters_of Tryz.func252 yuo rfl
 ·exact enters_of Tryz.func253 yuo rfl
 ·exact enters_of Tryz.func254 yuo rfl
 ·exact enters_of Tryz.func255 yuo rfl
 ·exact enters_of Tryz.func256 yuo rfl
 ·exact enters_of Tryz.func257 yuo rfl
 ·exact enters_of Tryz.func258 yuo rfl
 ·exact enters_of Tryz.func260 yuo rfl
 ·exact enters_of Tryz.func250 yuo rfl
 ·exact enters_of Tryz.func244 yuo rfl
 ·exact enters_of Tryz.func259 yuo rfl
theorem yg0(h:ThAt w b bm iv ov T)(hm:MemAt w bm m){D:Nat->Prop}(c:List Ic)(hc:ycg D w iv c)(hok: ∀i∈c,okI i)(hlen:c.length<=4000)(hpl:0<=T.pl)(hl:T.out.length<1099511627776):
  Cl 34 #[ptr b] w λe w'=>e= .returned (.tuple #[])/\Eff w b bm iv ov (z6w T m c).1 (z6w T m c).2 w':=by
 by_cases hst:T.st=0
 ·obtain ⟨p,hp⟩:=Int.eq_ofNat_of_zero_le hpl
  by_cases hlt:p<c.length
  ·rcases hc with ⟨_,hnil⟩|⟨bi,cap,n,hiv,_,hcell⟩
   ·subst hnil;simp at hlt
   ·have hi:=hok c[p] (List.getElem_mem hlt)
    have:=ycx h hm hst bi c.length cap hiv p hp hlt (yaz c[p]) (z8x c[p]) (hcell p hlt) yum (ybi c[p]) _ _ (yc4 _ hi) (yc5 _ hi) (λW h' hm'=>yi4 h' hm' c[p] hi hl)
    simpa only [z6w,hst,if_true,hp,Int.toNat_natCast,List.getElem?_eq_getElem hlt] using this
  ·have hge:(c.length:Int)<=T.pl:=by omega
   have hs:z6w T m c=({T with st:=10},m):=by
    simp only [z6w,hst,if_true,hp,Int.toNat_natCast,List.getElem?_eq_none (Nat.le_of_not_lt hlt)]
   rw [hs]
   rcases hc with ⟨hiv,hnil⟩|⟨bi,cap,n,hiv,_⟩
   ·subst hnil;exact z9x h hm hst none 0 0 hiv hge
   ·exact z9x h hm hst _ c.length cap hiv hge
 ·have hs:z6w T m c=(T,m):=by simp only [z6w,hst,if_false]
  rw [hs]
  refine (yaj h hst).mono ?_
  rintro e w' ⟨rfl,rfl⟩
  exact ⟨rfl,ov,h,hm,Chg.refl _ _, .inl rfl⟩
theorem yfr(h:ThAt w b bm iv ov T)(hm:MemAt w bm m):
  ∃v,Cl 33 #[ptr b] w λe w'=>e= .returned (.bool v)/\Eff w b bm iv ov (z6y T m).1 (z6y T m).2 w':=by
 cases hq:T.q with
 |nil=>exact ⟨false,by simpa only [z6y,hq] using z9g h hm hq⟩
 |cons p q=>exact ⟨true,by simpa only [z6y,hq] using z80 h hm p q hq⟩
end
def MRep(D:Nat->Prop)(w:World)(bm:Nat)(A:List (Th×List Ic))(m:Nat->Int):Prop:=∃ts,MAt D w bm m ts/\ts.map (λt=>(t.T,t.code))=A
def z7b(A:List (Th×List Ic))(m:Nat->Int)(i:Nat):List (Th×List Ic)×(Nat->Int):=match A[i]? with
 |none=>(A,m)
 |some p=>(A.set i ((z6w p.1 m p.2).1,p.2),(z6w p.1 m p.2).2)
def z69(A:List (Th×List Ic))(m:Nat->Int)(i:Nat):List (Th×List Ic)×(Nat->Int):=match A[i]? with
 |none=>(A,m)
 |some p=>(A.set i ((z6y p.1 m).1,p.2),(z6y p.1 m).2)
def okA(A:List (Th×List Ic)):Prop:=∀p∈A,0<=p.1.pl/\p.2.length<=4000/\(∀i∈p.2,okI i)/\p.1.out.length<1099511627776
section
variable{D:Nat->Prop}{w:World}{bm:Nat}{A:List (Th×List Ic)}{m:Nat->Int}
theorem yh2(h:MRep D w bm A m)(hD: ∀k,w.heap.size<=k->D k)(hok:okA A)(i:Nat)(hi:i<A.length):
  Cl 24 #[ptr bm, .int .i64 i] w λe w'=>e= .returned (.tuple #[])/\(MRep D w' bm (z7b A m i).1 (z7b A m i).2/\Chg (λk _=>D k) w w'):=by
 obtain ⟨ts,h,rfl⟩:=h
 have hi':i<ts.length:=yu9
 have hp:=hok (ts[i].T,ts[i].code) (List.mem_map.2 ⟨ts[i],List.getElem_mem hi',rfl⟩)
 have hs:z7b (ts.map λt=>(t.T,t.code)) m i=((ts.map λt=>(t.T,t.code)).set i ((z6w ts[i].T m ts[i].code).1,ts[i].code),(z6w ts[i].T m ts[i].code).2):=by
  simp only [z7b,List.getElem?_map,List.getElem?_eq_getElem hi',Option.map_some]
 rw [hs]
 refine yc3 h i hi' _ ((yg0 (h.th i hi') h.mem ts[i].code (h.code i hi') hp.2.2.1 hp.2.1 hp.1 hp.2.2.2).mono ?_)
 rintro e w' ⟨rfl,he⟩
 obtain ⟨ov',h1,h2⟩:=h.frame hi' hD he
 exact ⟨rfl,⟨_,h1,by rw [List.map_set]⟩,h2⟩
theorem yg1(h:MRep D w bm A m)(hD: ∀k,w.heap.size<=k->D k)(i:Nat)(hi:i<A.length):
  Cl 23 #[ptr bm, .int .i64 i] w λe w'=>e= .returned (.tuple #[])/\(MRep D w' bm (z69 A m i).1 (z69 A m i).2/\Chg (λk _=>D k) w w'):=by
 obtain ⟨ts,h,rfl⟩:=h
 have hi':i<ts.length:=yu9
 have hs:z69 (ts.map λt=>(t.T,t.code)) m i=((ts.map λt=>(t.T,t.code)).set i ((z6y ts[i].T m).1,ts[i].code),(z6y ts[i].T m).2):=by
  simp only [z69,List.getElem?_map,List.getElem?_eq_getElem hi',Option.map_some]
 rw [hs]
 obtain ⟨v,hv⟩:=yfr (h.th i hi') h.mem
 refine ybu h i hi' v _ (hv.mono ?_)
 rintro e w' ⟨rfl,he⟩
 obtain ⟨ov',h1,h2⟩:=h.frame hi' hD he
 exact ⟨rfl,⟨_,h1,by rw [List.map_set]⟩,h2⟩
end
end Go.Proofs.YtkenoofmkbghiaaGreatDoor
