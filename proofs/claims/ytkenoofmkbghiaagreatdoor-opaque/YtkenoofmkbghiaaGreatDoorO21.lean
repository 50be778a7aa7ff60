import Derived.Test.YtkenoofmkbghiaaGreatDoorO16
import Derived.Stop.Asserts
set_option maxRecDepth 100000
set_option maxHeartbeats 4000000
namespace Go.Proofs.YtkenoofmkbghiaaGreatDoor
open Go.RowKit
variable{w3:World}
theorem Ih(x:Value)(w:World):(Instr.typeAssert (.iface 222 x) 153 222 true).run Tryz.prog w= .ok (.tuple #[x, .bool true]) w:=yuo
theorem Ep(x:Value)(w:World):(Instr.typeAssert (.iface 222 x) 153 226 true).run Tryz.prog w= .ok (.tuple #[.agg #[.string ⟨#[]⟩, .int .i64 0, .string ⟨#[]⟩, .int .i64 0, .string ⟨#[]⟩, .int .i64 0], .bool false]) w:=yuo
theorem Ii(x:Value)(w:World):(Instr.typeAssert (.iface 222 x) 153 201 true).run Tryz.prog w= .ok (.tuple #[.agg #[.string ⟨#[]⟩, .string ⟨#[]⟩, .string ⟨#[]⟩, .int .i64 0], .bool false]) w:=yuo
theorem Ij(x:Value)(w:World):(Instr.typeAssert (.iface 222 x) 153 203 true).run Tryz.prog w= .ok (.tuple #[.agg #[.string ⟨#[]⟩, .string ⟨#[]⟩, .int .i64 0, .string ⟨#[]⟩, .int .i64 0], .bool false]) w:=yuo
theorem Gk(x:Value)(w:World):(Instr.typeAssert (.iface 222 x) 153 205 true).run Tryz.prog w= .ok (.tuple #[.agg #[.string ⟨#[]⟩, .int .i64 0], .bool false]) w:=yuo
theorem Yr(x:Value)(w:World):(Instr.typeAssert (.iface 222 x) 153 162 true).run Tryz.prog w= .ok (.tuple #[.pointer none, .bool false]) w:=yuo
theorem zdx(x:Value)(w:World):(Instr.typeAssert (.iface 222 x) 153 206 true).run Tryz.prog w= .ok (.tuple #[.pointer none, .bool false]) w:=yuo
theorem zal(x:Value)(w:World):(Instr.typeAssert (.iface 222 x) 153 209 true).run Tryz.prog w= .ok (.tuple #[.pointer none, .bool false]) w:=yuo
theorem Sf(x:Value)(w:World):(Instr.typeAssert (.iface 222 x) 153 216 true).run Tryz.prog w= .ok (.tuple #[.nilIface, .bool false]) w:=run_typeAssert_lacksB Tryz.underlying216 yuo yuo x _ w
theorem Ua(x:Value)(w:World):(Instr.typeAssert (.iface 226 x) 153 222 true).run Tryz.prog w= .ok (.tuple #[.agg #[.string ⟨#[]⟩, .string ⟨#[]⟩, .int .i64 0], .bool false]) w:=yuo
theorem Zz(x:Value)(w:World):(Instr.typeAssert (.iface 226 x) 153 226 true).run Tryz.prog w= .ok (.tuple #[x, .bool true]) w:=yuo
theorem Ub(x:Value)(w:World):(Instr.typeAssert (.iface 226 x) 153 201 true).run Tryz.prog w= .ok (.tuple #[.agg #[.string ⟨#[]⟩, .string ⟨#[]⟩, .string ⟨#[]⟩, .int .i64 0], .bool false]) w:=yuo
theorem Uc(x:Value)(w:World):(Instr.typeAssert (.iface 226 x) 153 203 true).run Tryz.prog w= .ok (.tuple #[.agg #[.string ⟨#[]⟩, .string ⟨#[]⟩, .int .i64 0, .string ⟨#[]⟩, .int .i64 0], .bool false]) w:=yuo
theorem Yf(x:Value)(w:World):(Instr.typeAssert (.iface 226 x) 153 205 true).run Tryz.prog w= .ok (.tuple #[.agg #[.string ⟨#[]⟩, .int .i64 0], .bool false]) w:=yuo
theorem Vw(x:Value)(w:World):(Instr.typeAssert (.iface 226 x) 153 162 true).run Tryz.prog w= .ok (.tuple #[.pointer none, .bool false]) w:=yuo
theorem Ik(x:Value)(w:World):(Instr.typeAssert (.iface 226 x) 153 206 true).run Tryz.prog w= .ok (.tuple #[.pointer none, .bool false]) w:=yuo
theorem Fo(x:Value)(w:World):(Instr.typeAssert (.iface 226 x) 153 209 true).run Tryz.prog w= .ok (.tuple #[.pointer none, .bool false]) w:=yuo
theorem Gl(x:Value)(w:World):(Instr.typeAssert (.iface 226 x) 153 216 true).run Tryz.prog w= .ok (.tuple #[.nilIface, .bool false]) w:=run_typeAssert_lacksB Tryz.underlying216 yuo yuo x _ w
theorem Gm(x:Value)(w:World):(Instr.typeAssert (.iface 201 x) 153 222 true).run Tryz.prog w= .ok (.tuple #[.agg #[.string ⟨#[]⟩, .string ⟨#[]⟩, .int .i64 0], .bool false]) w:=yuo
theorem Yg(x:Value)(w:World):(Instr.typeAssert (.iface 201 x) 153 226 true).run Tryz.prog w= .ok (.tuple #[.agg #[.string ⟨#[]⟩, .int .i64 0, .string ⟨#[]⟩, .int .i64 0, .string ⟨#[]⟩, .int .i64 0], .bool false]) w:=yuo
theorem Xr(x:Value)(w:World):(Instr.typeAssert (.iface 201 x) 153 201 true).run Tryz.prog w= .ok (.tuple #[x, .bool true]) w:=yuo
theorem Il(x:Value)(w:World):(Instr.typeAssert (.iface 201 x) 153 203 true).run Tryz.prog w= .ok (.tuple #[.agg #[.string ⟨#[]⟩, .string ⟨#[]⟩, .int .i64 0, .string ⟨#[]⟩, .int .i64 0], .bool false]) w:=yuo
theorem Gn(x:Value)(w:World):(Instr.typeAssert (.iface 201 x) 153 205 true).run Tryz.prog w= .ok (.tuple #[.agg #[.string ⟨#[]⟩, .int .i64 0], .bool false]) w:=yuo
theorem Ys(x:Value)(w:World):(Instr.typeAssert (.iface 201 x) 153 162 true).run Tryz.prog w= .ok (.tuple #[.pointer none, .bool false]) w:=yuo
theorem zdy(x:Value)(w:World):(Instr.typeAssert (.iface 201 x) 153 206 true).run Tryz.prog w= .ok (.tuple #[.pointer none, .bool false]) w:=yuo
theorem zam(x:Value)(w:World):(Instr.typeAssert (.iface 201 x) 153 209 true).run Tryz.prog w= .ok (.tuple #[.pointer none, .bool false]) w:=yuo
theorem Sg(x:Value)(w:World):(Instr.typeAssert (.iface 201 x) 153 216 true).run Tryz.prog w= .ok (.tuple #[.nilIface, .bool false]) w:=run_typeAssert_lacksB Tryz.underlying216 yuo yuo x _ w
theorem Im(x:Value)(w:World):(Instr.typeAssert (.iface 203 x) 153 222 true).run Tryz.prog w= .ok (.tuple #[.agg #[.string ⟨#[]⟩, .string ⟨#[]⟩, .int .i64 0], .bool false]) w:=yuo
theorem Ud(x:Value)(w:World):(Instr.typeAssert (.iface 203 x) 153 226 true).run Tryz.prog w= .ok (.tuple #[.agg #[.string ⟨#[]⟩, .int .i64 0, .string ⟨#[]⟩, .int .i64 0, .string ⟨#[]⟩, .int .i64 0], .bool false]) w:=yuo
theorem Gp(x:Value)(w:World):(Instr.typeAssert (.iface 203 x) 153 201 true).run Tryz.prog w= .ok (.tuple #[.agg #[.string ⟨#[]⟩, .string ⟨#[]⟩, .string ⟨#[]⟩, .int .i64 0], .bool false]) w:=yuo
theorem Gq(x:Value)(w:World):(Instr.typeAssert (.iface 203 x) 153 203 true).run Tryz.prog w= .ok (.tuple #[x, .bool true]) w:=yuo
theorem Gr(x:Value)(w:World):(Instr.typeAssert (.iface 203 x) 153 205 true).run Tryz.prog w= .ok (.tuple #[.agg #[.string ⟨#[]⟩, .int .i64 0], .bool false]) w:=yuo
theorem Yt(x:Value)(w:World):(Instr.typeAssert (.iface 203 x) 153 162 true).run Tryz.prog w= .ok (.tuple #[.pointer none, .bool false]) w:=yuo
theorem zdz(x:Value)(w:World):(Instr.typeAssert (.iface 203 x) 153 206 true).run Tryz.prog w= .ok (.tuple #[.pointer none, .bool false]) w:=yuo
theorem zan(x:Value)(w:World):(Instr.typeAssert (.iface 203 x) 153 209 true).run Tryz.prog w= .ok (.tuple #[.pointer none, .bool false]) w:=yuo
theorem Sh(x:Value)(w:World):(Instr.typeAssert (.iface 203 x) 153 216 true).run Tryz.prog w= .ok (.tuple #[.nilIface, .bool false]) w:=run_typeAssert_lacksB Tryz.underlying216 yuo yuo x _ w
theorem Gs(x:Value)(w:World):(Instr.typeAssert (.iface 205 x) 153 222 true).run Tryz.prog w= .ok (.tuple #[.agg #[.string ⟨#[]⟩, .string ⟨#[]⟩, .int .i64 0], .bool false]) w:=yuo
theorem Yh(x:Value)(w:World):(Instr.typeAssert (.iface 205 x) 153 226 true).run Tryz.prog w= .ok (.tuple #[.agg #[.string ⟨#[]⟩, .int .i64 0, .string ⟨#[]⟩, .int .i64 0, .string ⟨#[]⟩, .int .i64 0], .bool false]) w:=yuo
theorem Xs(x:Value)(w:World):(Instr.typeAssert (.iface 205 x) 153 201 true).run Tryz.prog w= .ok (.tuple #[.agg #[.string ⟨#[]⟩, .string ⟨#[]⟩, .string ⟨#[]⟩, .int .i64 0], .bool false]) w:=yuo
theorem Xt(x:Value)(w:World):(Instr.typeAssert (.iface 205 x) 153 203 true).run Tryz.prog w= .ok (.tuple #[.agg #[.string ⟨#[]⟩, .string ⟨#[]⟩, .int .i64 0, .string ⟨#[]⟩, .int .i64 0], .bool false]) w:=yuo
theorem Yo(x:Value)(w:World):(Instr.typeAssert (.iface 205 x) 153 205 true).run Tryz.prog w= .ok (.tuple #[x, .bool true]) w:=yuo
theorem Yu(x:Value)(w:World):(Instr.typeAssert (.iface 205 x) 153 162 true).run Tryz.prog w= .ok (.tuple #[.pointer none, .bool false]) w:=yuo
theorem zd0(x:Value)(w:World):(Instr.typeAssert (.iface 205 x) 153 206 true).run Tryz.prog w= .ok (.tuple #[.pointer none, .bool false]) w:=yuo
theorem zao(x:Value)(w:World):(Instr.typeAssert (.iface 205 x) 153 209 true).run Tryz.prog w= .ok (.tuple #[.pointer none, .bool false]) w:=yuo
theorem Si(x:Value)(w:World):(Instr.typeAssert (.iface 205 x) 153 216 true).run Tryz.prog w= .ok (.tuple #[.nilIface, .bool false]) w:=run_typeAssert_lacksB Tryz.underlying216 yuo yuo x _ w
theorem Uv(x:Value)(w:World):(Instr.typeAssert (.iface 162 x) 153 222 true).run Tryz.prog w= .ok (.tuple #[.agg #[.string ⟨#[]⟩, .string ⟨#[]⟩, .int .i64 0], .bool false]) w:=yuo
theorem Yl(x:Value)(w:World):(Instr.typeAssert (.iface 162 x) 153 226 true).run Tryz.prog w= .ok (.tuple #[.agg #[.string ⟨#[]⟩, .int .i64 0, .string ⟨#[]⟩, .int .i64 0, .string ⟨#[]⟩, .int .i64 0], .bool false]) w:=yuo
theorem Yv(x:Value)(w:World):(Instr.typeAssert (.iface 162 x) 153 201 true).run Tryz.prog w= .ok (.tuple #[.agg #[.string ⟨#[]⟩, .string ⟨#[]⟩, .string ⟨#[]⟩, .int .i64 0], .bool false]) w:=yuo
theorem Yw(x:Value)(w:World):(Instr.typeAssert (.iface 162 x) 153 203 true).run Tryz.prog w= .ok (.tuple #[.agg #[.string ⟨#[]⟩, .string ⟨#[]⟩, .int .i64 0, .string ⟨#[]⟩, .int .i64 0], .bool false]) w:=yuo
theorem Zm(x:Value)(w:World):(Instr.typeAssert (.iface 162 x) 153 205 true).run Tryz.prog w= .ok (.tuple #[.agg #[.string ⟨#[]⟩, .int .i64 0], .bool false]) w:=yuo
theorem Vh(x:Value)(w:World):(Instr.typeAssert (.iface 162 x) 153 162 true).run Tryz.prog w= .ok (.tuple #[x, .bool true]) w:=yuo
theorem Sj(x:Value)(w:World):(Instr.typeAssert (.iface 162 x) 153 206 true).run Tryz.prog w= .ok (.tuple #[.pointer none, .bool false]) w:=yuo
theorem Er(x:Value)(w:World):(Instr.typeAssert (.iface 162 x) 153 209 true).run Tryz.prog w= .ok (.tuple #[.pointer none, .bool false]) w:=yuo
theorem Xk(x:Value)(w:World):(Instr.typeAssert (.iface 162 x) 153 216 true).run Tryz.prog w= .ok (.tuple #[.iface 162 x, .bool true]) w:=yuo
theorem Ss(x:Value)(w:World):(Instr.typeAssert (.iface 206 x) 153 222 true).run Tryz.prog w= .ok (.tuple #[.agg #[.string ⟨#[]⟩, .string ⟨#[]⟩, .int .i64 0], .bool false]) w:=yuo
theorem Uw(x:Value)(w:World):(Instr.typeAssert (.iface 206 x) 153 226 true).run Tryz.prog w= .ok (.tuple #[.agg #[.string ⟨#[]⟩, .int .i64 0, .string ⟨#[]⟩, .int .i64 0, .string ⟨#[]⟩, .int .i64 0], .bool false]) w:=yuo
theorem Eb(x:Value)(w:World):(Instr.typeAssert (.iface 206 x) 153 201 true).run Tryz.prog w= .ok (.tuple #[.agg #[.string ⟨#[]⟩, .string ⟨#[]⟩, .string ⟨#[]⟩, .int .i64 0], .bool false]) w:=yuo
theorem Ec(x:Value)(w:World):(Instr.typeAssert (.iface 206 x) 153 203 true).run Tryz.prog w= .ok (.tuple #[.agg #[.string ⟨#[]⟩, .string ⟨#[]⟩, .int .i64 0, .string ⟨#[]⟩, .int .i64 0], .bool false]) w:=yuo
theorem Ux(x:Value)(w:World):(Instr.typeAssert (.iface 206 x) 153 205 true).run Tryz.prog w= .ok (.tuple #[.agg #[.string ⟨#[]⟩, .int .i64 0], .bool false]) w:=yuo
theorem Yb(x:Value)(w:World):(Instr.typeAssert (.iface 206 x) 153 162 true).run Tryz.prog w= .ok (.tuple #[.pointer none, .bool false]) w:=yuo
theorem zbv(x:Value)(w:World):(Instr.typeAssert (.iface 206 x) 153 206 true).run Tryz.prog w= .ok (.tuple #[x, .bool true]) w:=yuo
theorem zcr(x:Value)(w:World):(Instr.typeAssert (.iface 206 x) 153 209 true).run Tryz.prog w= .ok (.tuple #[.pointer none, .bool false]) w:=yuo
theorem Ed(x:Value)(w:World):(Instr.typeAssert (.iface 206 x) 153 216 true).run Tryz.prog w= .ok (.tuple #[.iface 206 x, .bool true]) w:=yuo
theorem Ee(x:Value)(w:World):(Instr.typeAssert (.iface 209 x) 153 222 true).run Tryz.prog w= .ok (.tuple #[.agg #[.string ⟨#[]⟩, .string ⟨#[]⟩, .int .i64 0], .bool false]) w:=yuo
theorem Xl(x:Value)(w:World):(Instr.typeAssert (.iface 209 x) 153 226 true).run Tryz.prog w= .ok (.tuple #[.agg #[.string ⟨#[]⟩, .int .i64 0, .string ⟨#[]⟩, .int .i64 0, .string ⟨#[]⟩, .int .i64 0], .bool false]) w:=yuo
theorem Uk(x:Value)(w:World):(Instr.typeAssert (.iface 209 x) 153 201 true).run Tryz.prog w= .ok (.tuple #[.agg #[.string ⟨#[]⟩, .string ⟨#[]⟩, .string ⟨#[]⟩, .int .i64 0], .bool false]) w:=yuo
theorem Ul(x:Value)(w:World):(Instr.typeAssert (.iface 209 x) 153 203 true).run Tryz.prog w= .ok (.tuple #[.agg #[.string ⟨#[]⟩, .string ⟨#[]⟩, .int .i64 0, .string ⟨#[]⟩, .int .i64 0], .bool false]) w:=yuo
theorem Yx(x:Value)(w:World):(Instr.typeAssert (.iface 209 x) 153 205 true).run Tryz.prog w= .ok (.tuple #[.agg #[.string ⟨#[]⟩, .int .i64 0], .bool false]) w:=yuo
theorem Zc(x:Value)(w:World):(Instr.typeAssert (.iface 209 x) 153 162 true).run Tryz.prog w= .ok (.tuple #[.pointer none, .bool false]) w:=yuo
theorem In(x:Value)(w:World):(Instr.typeAssert (.iface 209 x) 153 206 true).run Tryz.prog w= .ok (.tuple #[.pointer none, .bool false]) w:=yuo
theorem Fb(x:Value)(w:World):(Instr.typeAssert (.iface 209 x) 153 209 true).run Tryz.prog w= .ok (.tuple #[x, .bool true]) w:=yuo
theorem Uy(x:Value)(w:World):(Instr.typeAssert (.iface 209 x) 153 216 true).run Tryz.prog w= .ok (.tuple #[.iface 209 x, .bool true]) w:=yuo
theorem zj3(x:Value)(w:World):(Instr.typeAssert (.iface 104 x) 216 162 true).run Tryz.prog w= .ok (.tuple #[.pointer none, .bool false]) w:=yuo
theorem zoa(x:Value)(w:World):(Instr.typeAssert (.iface 162 x) 216 162 true).run Tryz.prog w= .ok (.tuple #[x, .bool true]) w:=yuo
theorem z22(x:Value)(w:World):(Instr.typeAssert (.iface 206 x) 216 162 true).run Tryz.prog w= .ok (.tuple #[.pointer none, .bool false]) w:=yuo
theorem zvu(x:Value)(w:World):(Instr.typeAssert (.iface 209 x) 216 162 true).run Tryz.prog w= .ok (.tuple #[.pointer none, .bool false]) w:=yuo
def zhr:HK->Prop
 | .inl _=>True
 | .inr (.inr (.inr (.inr (.inr (.inr (.inl ()))))))=>True
 | .inr (.inr (.inr (.inr (.inr (.inr (.inr (.inl _)))))))=>True
 | .inr (.inr (.inr (.inr (.inr (.inr (.inr (.inr _)))))))=>True
 | .inr _=>False
section
variable{D:Nat->Prop}{lab:Nat->Nat×Nat}{w:World}{br sb bs:Nat}{tv ov:Value}{st:RS}{ms:List HM}
attribute [local go_sem] zj3 zoa z22 zvu
theorem zvv{k:HK}(h:zhr k):(hkT k=162/\k.isAtomic=true)\/((hkT k=104\/hkT k=206\/hkT k=209)/\k.isAtomic=false):=by
 rcases k with ⟨l,c⟩|⟨to,a⟩|⟨to,k,a,c⟩|⟨to,f,a⟩|⟨f,a,c⟩|a|⟨⟩|a|n
 ·exact .inr ⟨.inl rfl,rfl⟩
 ·exact h.elim
 ·exact h.elim
 ·exact h.elim
 ·exact h.elim
 ·exact h.elim
 ·exact .inl ⟨rfl,rfl⟩
 ·exact .inr ⟨.inr (.inl rfl),rfl⟩
 ·exact .inr ⟨.inr (.inr rfl),rfl⟩
def RS.opnOk(st:RS):Prop:=st.opn.length<=4/\ ∀j∈st.opn,∃h,st.hs[j]?=some h/\zhr h.k
theorem zz8(h:RMach D lab w br sb bs tv ov st ms)(ho:st.opnOk)(k:Nat)(hk:k<st.opn.length): ∃g cp T b,ov= .slice (some ⟨g,0,none⟩) st.opn.length cp/\w.cell? ⟨g,k,none⟩=some (.iface T (ptr b))/\
  ((T=162/\((st.hk st.opn[k]).map HK.isAtomic).getD false=true)\/((T=104\/T=206\/T=209)/\((st.hk st.opn[k]).map HK.isAtomic).getD false=false)):=by
 have hr:=h.orow
 obtain ⟨g,cp,rfl⟩: ∃g cp,ov= .slice (some ⟨g,0,none⟩) st.opn.length cp:=ytg
 obtain ⟨q1,_,_⟩:=Qm hr k hk
 obtain ⟨x,hx,hok⟩:=ho.2 st.opn[k] (List.getElem_mem hk)
 rw [<-h.hs,List.getElem?_map] at hx
 cases hm:ms[st.opn[k]]? with
 |none=>rw [hm] at hx;simp at hx
 |some m=>
  rw [hm] at hx
  simp at hx
  have hc:w.cell? ⟨g,k,none⟩=some (.iface (hkT m.h.k) (ptr m.b)):=by
   rw [q1]
   simp [idV,Qu,List.getElem?_eq_getElem hk,hm]
  have e:(st.hk st.opn[k]).map HK.isAtomic=some m.h.k.isAtomic:=by
   unfold RS.hk
   rw [<-h.hs,List.getElem?_map,hm]
   rfl
  rw [e]
  rw [<-hx] at hok
  exact ⟨g,cp,_,_,rfl,hc,zvv hok⟩
theorem zob(h:RMach D lab w br sb bs tv ov st ms)(ho:st.opnOk):
  Cl 123 #[ptr br] w λe w'=>e= .returned (.bool st.inB)/\w'=w:=by
 have c3:=h.c3
 obtain ⟨oa,ok,hov⟩: ∃a k,ov= .slice a st.opn.length k:=yr9
 have HA:=hid (λk hk=>zz8 h ho k hk)
 have ho4:=ho.1
 rw [hov] at c3
 have HOV:=hid hov
 clear h ho hov
 go_enter Tryz.func123,Tryz.ntmps123
 go_wp2
 go_loopw [12] (λv wr=>∃k:Nat,k<=st.opn.length/\v= .int .i64 k/\wr=w/\Hid (∀j (h:j<st.opn.length),j<k->((st.hk st.opn[j]).map HK.isAtomic).getD false=false)) (λv _=>st.opn.length- (intOf v).toNat)
 case atStart=>exact ⟨0,Nat.zero_le _,rfl,rfl,λj _ hj=>by omega⟩
 case round=>
  obtain ⟨k,hk,rfl,rfl,hP⟩:=hrel
  by_cases hlt:k<st.opn.length
  ·have hlt':(k:Int)<(st.opn.length:Int):=by omega
   obtain ⟨g,cp,T,b,e1,q1,q2⟩:=HA.out k hlt
   rw [HOV.out] at e1
   obtain ⟨rfl,rfl⟩:oa=some ⟨g,0,none⟩/\ok=cp:=by simpa using e1
   clear e1
   have Q2:=hid q2
   rcases q2 with ⟨rfl,q3⟩|⟨q2|q2|q2,q3⟩
   ·have HT:Hid (st.inB=true):=by
     refine List.any_eq_true.2 ⟨st.opn[k],List.getElem_mem hlt,q3⟩
    clear q3 Q2
    go_wp2
    go_ret
    exact ⟨by rw [HT.out];rfl,rfl⟩
   all_goals
    subst q2
    have HP2:Hid (∀j (h:j<st.opn.length),j<k+1->((st.hk st.opn[j]).map HK.isAtomic).getD false=false):=λj hj hjk=>by
     by_cases e:j=k
     ·subst e;exact q3
     ·exact hP.out j hj yum
    clear q3 Q2 hP
    go_wp2
    go_roundw
    case rel=>exact ⟨k+1,by omega,by go_num,trivial,HP2⟩
    case measure=>simp [intOf];omega
  ·have hlt': ¬(k:Int)<(st.opn.length:Int):=by omega
   have HF:Hid (st.inB=false):=by
    refine List.any_eq_false.2 λj hj=>?_
    obtain ⟨i,hi,rfl⟩:=List.getElem_of_mem hj
    have:=hP.out i hi yum
    simp [this]
   go_wp2
   go_ret
   exact ⟨by rw [HF.out];rfl,rfl⟩
end
section
variable{D:Nat->Prop}{lab:Nat->Nat×Nat}{w:World}{br sb bs:Nat}{tv ov:Value}{st:RS}{ms:List HM}
attribute [local go_sem] Ih Ep Ii Ij Gk Yr zdx zal Sf Ua Zz Ub Uc Yf Vw Ik Fo Gl Gm Yg Xr Il Gn Ys zdy zam Sg Im Ud Gp Gq Gr Yt zdz zan Sh Gs Yh Xs Xt Yo Yu zd0 zao Si Uv Yl Yv Yw Zm Vh Sj Er Xk Ss Uw Eb Ec Ux Yb zbv zcr Ed Ee Xl Uk Ul Yx Zc In Fb Uy
theorem Io(s:St)(b:Nat)(w:World):
  Cl 93 #[Vk s b] w λe w'=>e= .returned (.string (Vg s))/\Below w.heap.size w w':=by
 rcases s with ⟨to,a⟩|⟨to,k,a,c⟩|⟨to,f,a⟩|⟨f,a,c⟩|a|⟨⟩|a|n
 ·exact ysm
 ·exact ysm
 ·exact ysm
 ·exact yt3
 ·exact yt3
 ·exact ys4
 ·exact ys4
 ·exact ys4
def RS.mayStand(st:RS):St->Bool
 | .inr (.inr (.inl (_,_,_)))=>decide (0<st.opn.length)&&st.inB
 | .inr (.inr (.inr (.inl (_,_,_))))=>decide (0<st.opn.length)&&st.inB
 | .inr (.inr (.inr (.inr (.inr (.inl ())))))=>decide (0<st.opn.length)&&!st.inB
 |_=>decide (0<st.opn.length)
theorem Xm(h:RMach D lab w br sb bs tv ov st ms)(ho:st.opnOk)(s:St)(b:Nat):
  Cl 89 #[ptr br,Vk s b] w λe w'=>e= .returned (.bool (st.mayStand s))/\w'=w:=by
 have c3:=h.c3
 obtain ⟨oa,ok,hov⟩: ∃a k,ov= .slice a st.opn.length k:=yr9
 rw [hov] at c3
 have KB:=hid (zob h ho)
 clear h ho hov
 by_cases h0:st.opn.length=0
 ·have hf:st.mayStand s=false:=by
   rcases s with ⟨to,a⟩|⟨to,k,a,c⟩|⟨to,f,a⟩|⟨f,a,c⟩|a|⟨⟩|a|n<;>simp [RS.mayStand,h0]
  rw [hf]
  rw [h0] at c3
  rcases s with ⟨to,a⟩|⟨to,k,a,c⟩|⟨to,f,a⟩|⟨f,a,c⟩|a|⟨⟩|a|n<;>
  ·simp only [Vk,stV]
   go_enter Tryz.func89,Tryz.ntmps89
   go_wp2
   go_ret
   exact ⟨rfl,rfl⟩
 ·have h1:0<st.opn.length:=by omega
  have h2:((st.opn.length:Int)==0)=false:=by simpa using (show ¬(st.opn.length:Int)=0 by omega)
  generalize hI:st.inB=ib at KB
  rcases s with ⟨to,a⟩|⟨to,k,a,c⟩|⟨to,f,a⟩|⟨f,a,c⟩|a|⟨⟩|a|n
  ·exact ysp
  ·exact ysp
  ·rw [show st.mayStand (St.get to f a)=ib from by simp [RS.mayStand,h1,hI]]
   simp only [Vk,stV]
   go_enter Tryz.func89,Tryz.ntmps89
   go_wp2_with fail
   refine KB.out.mono ?_
   rintro e w1 ⟨rfl,rfl⟩
   go_wp2
   go_ret
   exact ⟨rfl,rfl⟩
  ·rw [show st.mayStand (St.put f a c)=ib from by simp [RS.mayStand,h1,hI]]
   simp only [Vk,stV]
   go_enter Tryz.func89,Tryz.ntmps89
   go_wp2_with fail
   refine KB.out.mono ?_
   rintro e w1 ⟨rfl,rfl⟩
   go_wp2
   go_ret
   exact ⟨rfl,rfl⟩
  ·exact ysp
  ·rw [show st.mayStand (St.atomic)=!ib from by simp [RS.mayStand,h1,hI]]
   simp only [Vk]
   go_enter Tryz.func89,Tryz.ntmps89
   go_wp2_with fail
   refine KB.out.mono ?_
   rintro e w1 ⟨rfl,rfl⟩
   go_wp2
   go_ret
   exact ⟨rfl,rfl⟩
  ·exact ytv
  ·exact ytv
end
def Qj:St->List PV
 | .inl (_,a)=>[a]
 | .inr (.inl (_,_,a,b))=>[a,b]
 | .inr (.inr (.inl (_,_,a)))=>[a]
 | .inr (.inr (.inr (.inl (_,a,b))))=>[a,b]
 | .inr (.inr (.inr (.inr (.inl a))))=>[a]
 | .inr (.inr (.inr (.inr (.inr (.inl ())))))=>[]
 | .inr (.inr (.inr (.inr (.inr (.inr (.inl a))))))=>[a]
 | .inr (.inr (.inr (.inr (.inr (.inr (.inr _))))))=>[]
def Ip(w:World)(l:List PV)(e:Ending)(w':World):Prop:=∃a c,e= .returned (.slice a l.length c)/\Below w.heap.size w w'/\ ∀i (h:i<l.length),∃g,a=some ⟨g,0,none⟩/\g<w'.heap.size/\w'.cell? ⟨g,i*2,none⟩=some (.string l[i].name)/\w'.cell? ⟨g,i*2+1,none⟩=some (.int .i64 l[i].num)
theorem zfo(w:World)(o p:Obj):Below w.heap.size w ((w.alloc o).alloc p):=((Below.refl _ w).alloc (Nat.le_refl _) o).alloc yun p
theorem zd1(w:World)(o:Obj)(a:PV)(g:Nat)(hg:g=(w.alloc o).heap.size):Ip w [a] (.returned (.slice (some ⟨g,0,none⟩) 1 1)) ((w.alloc o).alloc (.cells #[.string a.name, .int .i64 a.num] 196)):=by
 subst hg
 refine ⟨_,1,rfl,zfo _ _ _,λi hi=>?_⟩
 obtain rfl:i=0:=yvh
 exact ⟨_,rfl,by simp,World.cell?_alloc_new _ _ _ 0,World.cell?_alloc_new _ _ _ 1⟩
theorem zre(w:World)(o:Obj)(a b:PV):Ip w [a,b] (.returned (.slice (some ⟨(w.alloc o).heap.size,0,none⟩) 2 2)) ((w.alloc o).alloc (.cells #[.string a.name, .int .i64 a.num, .string b.name, .int .i64 b.num] 196)):=by
 refine ⟨_,2,rfl,zfo _ _ _,λi hi=>?_⟩
 have:i=0\/i=1:=yvh
 rcases this with rfl|rfl
 ·exact ⟨_,rfl,by simp,World.cell?_alloc_new _ _ _ 0,World.cell?_alloc_new _ _ _ 1⟩
 ·exact ⟨_,rfl,by simp,World.cell?_alloc_new _ _ _ 2,World.cell?_alloc_new _ _ _ 3⟩
section
variable(w:World)(to of:ByteArray)(a b:PV)(k:Int)
theorem z25:Cl 241 #[.agg #[.string to, .string a.name, .int .i64 a.num]] w λe w'=>Ip w [a] e w':=by
 go_enter Tryz.func241,Tryz.ntmps241
 go_wp2
 go_ret
 exact zd1 w _ a _ yun
theorem z5d:Cl 242 #[.agg #[.string to, .int .i64 k, .string a.name, .int .i64 a.num, .string b.name, .int .i64 b.num]] w λe w'=>Ip w [a,b] e w':=by
 go_enter Tryz.func242,Tryz.ntmps242
 go_wp2
 go_ret
 have:=zre w (.cells #[.string to, .int .i64 k, .string a.name, .int .i64 a.num, .string b.name, .int .i64 b.num] 226) a b
 simpa using this
theorem zrf:Cl 236 #[.agg #[.string of, .string a.name, .int .i64 a.num]] w λe w'=>e= .returned (.slice (some ⟨w.heap.size+1,0,none⟩) 1 1)/\w'=(w.alloc (.cells #[.string of, .string a.name, .int .i64 a.num] 199)).alloc (.cells #[.string a.name, .int .i64 a.num] 196):=by
 go_enter Tryz.func236,Tryz.ntmps236
 go_wp2
 go_ret
 exact ⟨rfl,rfl⟩
theorem z26:Cl 238 #[.agg #[.string a.name, .int .i64 a.num]] w λe w'=>Ip w [a] e w':=by
 go_enter Tryz.func238,Tryz.ntmps238
 go_wp2
 go_ret
 exact zd1 w _ a _ yun
theorem zrg(v:Value):Cl 223 #[v] w λe w'=>Ip w [] e w':=by
 go_enter Tryz.func223,Tryz.ntmps223
 go_wp2
 go_ret
 exact ⟨none,0,rfl,Below.refl _ _,λi hi=>by simp at hi⟩
theorem z0c(v:Value):Cl 240 #[v] w λe w'=>Ip w [] e w':=by
 go_enter Tryz.func240,Tryz.ntmps240
 go_wp2
 go_ret
 exact ⟨none,0,rfl,Below.refl _ _,λi hi=>by simp at hi⟩
theorem z5e(b:Nat)(c1:w.cell? ⟨b,1,none⟩=some (.string a.name))(c2:w.cell? ⟨b,2,none⟩=some (.int .i64 a.num)):Cl 239 #[ptr b] w λe w'=>Ip w [a] e w':=by
 go_enter Tryz.func239,Tryz.ntmps239
 go_wp2
 go_ret
 refine ⟨_,1,rfl,(Below.refl _ w).alloc (Nat.le_refl _) _,λi hi=>?_⟩
 obtain rfl:i=0:=yvh
 exact ⟨_,rfl,by simp,World.cell?_alloc_new _ _ _ 0,World.cell?_alloc_new _ _ _ 1⟩
theorem z27:(Tryz.prog.info? 196).map (λi=>(i.zero,i.size,i.bytes))=some (some (.agg #[.string ⟨#[]⟩, .int .i64 0]),2,24):=yuo
theorem zj5(W:World)(x y:Value)(T:TypeId):(W.alloc (.cells #[x,y] T)).ownsRow 0 T 2 (.slice (some ⟨W.heap.size,0,none⟩) 1 1) 1 [x,y]:=
 ⟨rfl, .inr ⟨_,1,#[x,y],rfl,Nat.zero_le _,(show (W.heap.push _)[W.heap.size]?=_ from Array.getElem?_push_size),Nat.le_refl _,by unfold maxLen;omega,rfl,rfl⟩⟩
theorem zht(W:World)(x y:Value)(T:TypeId): ∀j u',[x,y][j]?=some u'->(W.alloc (.cells #[x,y] T)).cell? ((⟨W.heap.size,0,none⟩:Addr).add j)=some u':=by
 intro j u' hj
 have hc:=(zj5 W x y T).cells (g:=W.heap.size) rfl j u' hj
 exact hc
theorem zhu{g cap:Nat}(ho:w3.ownsRow 0 196 2 (.slice (some ⟨g,0,none⟩) 2 cap) 2 [.string a.name, .int .i64 a.num, .string b.name, .int .i64 b.num])(hb:Below w.heap.size w w3):Ip w [a,b] (.returned (.slice (some ⟨g,0,none⟩) 2 cap)) w3:=by
 have hg:g<w3.heap.size:=(ho.lt g rfl).2
 have c: ∀j u,[Value.string a.name, .int .i64 a.num, .string b.name, .int .i64 b.num][j]?=some u->w3.cell? ⟨g,j,none⟩=some u:=by
  intro j u hu
  have:=ho.cells (g:=g) rfl j u hu
  have e:(⟨g,0,none⟩:Addr).add j=⟨g,j,none⟩:=by
   unfold Addr.add
   split
   ·rename_i h0;rw [h0]
   ·simp
  rwa [e] at this
 refine ⟨_,cap,rfl,hb,λi hi=>?_⟩
 have:i=0\/i=1:=yvh
 rcases this with rfl|rfl
 ·exact ⟨g,rfl,hg,c 0 _ rfl,c 1 _ rfl⟩
 ·exact ⟨g,rfl,hg,c 2 _ rfl,c 3 _ rfl⟩
theorem z5f(w:World)(o:Obj):(w.alloc o).heap.size=w.heap.size+1:=yun
theorem z5g(w:World)(o p:Obj):((w.alloc o).alloc p).heap.size=w.heap.size+1+1:=yun
theorem z28(w:World)(o p q:Obj):(((w.alloc o).alloc p).alloc q).heap.size=w.heap.size+1+1+1:=yun
theorem zhv{W:World}{v:Value}{gv:Nat}(hW:Below w.heap.size w W)(hv:v.ownBlock=some gv)(hg:w.heap.size<=gv)(hc:Chg (λk _=>v.ownBlock=some k) W w3):Below w.heap.size w w3:=
 hW.trans (hc.below hW.size (λk _ e=>by rw [hv] at e;injection e with e;omega))
theorem z29:Cl 237 #[.agg #[.string of, .string a.name, .int .i64 a.num, .string b.name, .int .i64 b.num]] w λe w'=>Ip w [a,b] e w':=by
 obtain ⟨i0,hi,hz0,hz1,hz2⟩:=info_parts z27
 have hl1:1+1<=maxLen:=yus
 have hl2:(1+1)*24<=140737488355328:=yum
 have OA:Hid (((((w.alloc (.cells #[.string of, .string a.name, .int .i64 a.num, .string b.name, .int .i64 b.num] 203)).alloc (.cells #[.string of, .string a.name, .int .i64 a.num] 199)).alloc (.cells #[.string a.name, .int .i64 a.num] 196)).alloc (.cells #[.string b.name, .int .i64 b.num] 196)).drew.ownsRow 0 196 2 (.slice (some ⟨w.heap.size+1+1,0,none⟩) 1 1) 1 [.string a.name, .int .i64 a.num]):=hid (by
  have:=zj5 ((w.alloc (.cells #[.string of, .string a.name, .int .i64 a.num, .string b.name, .int .i64 b.num] 203)).alloc (.cells #[.string of, .string a.name, .int .i64 a.num] 199)) (.string a.name) (.int .i64 a.num) 196
  rw [z5g] at this
  exact this.alloc _)
 have CA:Hid (∀j u',[Value.string b.name, .int .i64 b.num][j]?=some u'->((((w.alloc (.cells #[.string of, .string a.name, .int .i64 a.num, .string b.name, .int .i64 b.num] 203)).alloc (.cells #[.string of, .string a.name, .int .i64 a.num] 199)).alloc (.cells #[.string a.name, .int .i64 a.num] 196)).alloc (.cells #[.string b.name, .int .i64 b.num] 196)).drew.cell? ((⟨w.heap.size+1+1+1,0,none⟩:Addr).add j)=some u'):=hid (by
  have:=zht (((w.alloc (.cells #[.string of, .string a.name, .int .i64 a.num, .string b.name, .int .i64 b.num] 203)).alloc (.cells #[.string of, .string a.name, .int .i64 a.num] 199)).alloc (.cells #[.string a.name, .int .i64 a.num] 196)) (.string b.name) (.int .i64 b.num) 196
  rw [z28] at this
  exact this)
 have OB:Hid (((((w.alloc (.cells #[.string of, .string a.name, .int .i64 a.num, .string b.name, .int .i64 b.num] 203)).alloc (.cells #[.string b.name, .int .i64 b.num] 196)).alloc (.cells #[.string of, .string a.name, .int .i64 a.num] 199)).alloc (.cells #[.string a.name, .int .i64 a.num] 196)).drew.ownsRow 0 196 2 (.slice (some ⟨w.heap.size+1+1+1,0,none⟩) 1 1) 1 [.string a.name, .int .i64 a.num]):=hid (by
  have:=zj5 (((w.alloc (.cells #[.string of, .string a.name, .int .i64 a.num, .string b.name, .int .i64 b.num] 203)).alloc (.cells #[.string b.name, .int .i64 b.num] 196)).alloc (.cells #[.string of, .string a.name, .int .i64 a.num] 199)) (.string a.name) (.int .i64 a.num) 196
  rw [z28] at this
  exact this)
 have CB:Hid (∀j u',[Value.string b.name, .int .i64 b.num][j]?=some u'->((((w.alloc (.cells #[.string of, .string a.name, .int .i64 a.num, .string b.name, .int .i64 b.num] 203)).alloc (.cells #[.string b.name, .int .i64 b.num] 196)).alloc (.cells #[.string of, .string a.name, .int .i64 a.num] 199)).alloc (.cells #[.string a.name, .int .i64 a.num] 196)).drew.cell? ((⟨w.heap.size+1,0,none⟩:Addr).add j)=some u'):=hid (by
  have h0:=zht (w.alloc (.cells #[.string of, .string a.name, .int .i64 a.num, .string b.name, .int .i64 b.num] 203)) (.string b.name) (.int .i64 b.num) 196
  rw [z5f] at h0
  intro j u' hj
  have h1:=h0 j u' hj
  have hlt:=blt h1
  exact ((((Below.refl _ _).alloc (Nat.le_refl _) (.cells #[.string of, .string a.name, .int .i64 a.num] 199)).alloc yun (.cells #[.string a.name, .int .i64 a.num] 196)).cell (p:=(⟨w.heap.size+1,0,none⟩:Addr).add j) hlt).trans h1)
 have BA:Hid (Below w.heap.size w ((((w.alloc (.cells #[.string of, .string a.name, .int .i64 a.num, .string b.name, .int .i64 b.num] 203)).alloc (.cells #[.string of, .string a.name, .int .i64 a.num] 199)).alloc (.cells #[.string a.name, .int .i64 a.num] 196)).alloc (.cells #[.string b.name, .int .i64 b.num] 196)).drew):=hid (((((Below.refl _ w).alloc (Nat.le_refl _) _).alloc yun _).alloc yur _).alloc yur _).drew
 have BB:Hid (Below w.heap.size w ((((w.alloc (.cells #[.string of, .string a.name, .int .i64 a.num, .string b.name, .int .i64 b.num] 203)).alloc (.cells #[.string b.name, .int .i64 b.num] 196)).alloc (.cells #[.string of, .string a.name, .int .i64 a.num] 199)).alloc (.cells #[.string a.name, .int .i64 a.num] 196)).drew):=hid (((((Below.refl _ w).alloc (Nat.le_refl _) _).alloc yun _).alloc yur _).alloc yur _).drew
 go_enter Tryz.func237,Tryz.ntmps237
 go_wp2_with fail
 go_region_law (first
  |(go_simp;go_at_call 236;refine (zrf _ of a).mono ?_;rintro e w1 ⟨rfl,rfl⟩)
  |(refine Je rfl (.tmp 5) (.tmp 8) 273 rfl 196 i0 (.agg #[.string ⟨#[]⟩, .int .i64 0]) 2 24 yup Tryz.underlying273 hi hz0 hz1 hz2 rfl (.slice (some ⟨w.heap.size+1+1,0,none⟩) 1 1) 1 [.string a.name, .int .i64 a.num] rfl OA.out ⟨w.heap.size+1+1+1,0,none⟩ [.string b.name, .int .i64 b.num] rfl rfl CA.out ywe hl1 hl2 ?_;intro g cap w3 ho hc hg;have HR:=hid (zhu w a b ho (zhv w (gv:=w.heap.size+1+1) BA.out rfl yum hc));clear ho hc hg)
  |(refine Je rfl (.tmp 5) (.tmp 8) 273 rfl 196 i0 (.agg #[.string ⟨#[]⟩, .int .i64 0]) 2 24 yup Tryz.underlying273 hi hz0 hz1 hz2 rfl (.slice (some ⟨w.heap.size+1+1+1,0,none⟩) 1 1) 1 [.string a.name, .int .i64 a.num] rfl OB.out ⟨w.heap.size+1,0,none⟩ [.string b.name, .int .i64 b.num] rfl rfl CB.out ywe hl1 hl2 ?_;intro g cap w3 ho hc hg;have HR:=hid (zhu w a b ho (zhv w (gv:=w.heap.size+1+1+1) BB.out rfl yum hc));clear ho hc hg))
 all_goals
  go_wp2
  go_ret
  exact HR.out
end
def StB(W:World)(s:St)(b:Nat):Prop:=match s with
 | .inr (.inr (.inr (.inr (.inr (.inr (.inl a))))))=>W.cell? ⟨b,1,none⟩=some (.string a.name)/\W.cell? ⟨b,2,none⟩=some (.int .i64 a.num)
 |_=>True
theorem z5h(v:Value)(w:World):(method 481 222 v "commits/program.reads").run Tryz.prog w= .ok (241,v) w:=yuo
theorem z6i(v:Value)(w:World):(method 481 226 v "commits/program.reads").run Tryz.prog w= .ok (242,v) w:=yuo
theorem z5i(a b c d:Value)(w:World):(method 481 201 (.agg #[a,b,c,d]) "commits/program.reads").run Tryz.prog w= .ok (236, .agg #[b,c,d]) w:=yuo
theorem z5j(v:Value)(w:World):(method 481 203 v "commits/program.reads").run Tryz.prog w= .ok (237,v) w:=yuo
theorem z5k(v:Value)(w:World):(method 481 205 v "commits/program.reads").run Tryz.prog w= .ok (238,v) w:=yuo
theorem zv0(v:Value)(w:World):(method 481 162 v "commits/program.reads").run Tryz.prog w= .ok (223,v) w:=yuo
theorem z6j(v:Value)(w:World):(method 481 206 v "commits/program.reads").run Tryz.prog w= .ok (239,v) w:=yuo
theorem z3a(v:Value)(w:World):(method 481 209 v "commits/program.reads").run Tryz.prog w= .ok (240,v) w:=yuo
theorem z0d(s:St)(b:Nat): ∃T u F u',Vk s b= .iface T u/\(∀W,(method 481 T u "commits/program.reads").run Tryz.prog W= .ok (F,u') W)/\(∀args W,(callFunc F args).run Tryz.prog W= .ok (.enter F args) W)/\
  ∀W,StB W s b->Cl F #[u'] W λe w'=>Ip W (Qj s) e w':=by
 rcases s with ⟨to,a⟩|⟨to,k,a,c⟩|⟨to,f,a⟩|⟨f,a,c⟩|a|⟨⟩|a|n
 ·exact ⟨_,_,_,_,rfl,z5h _,enters_of Tryz.func241 yuo rfl,λW _=>z25 W to a⟩
 ·exact ⟨_,_,_,_,rfl,z6i _,enters_of Tryz.func242 yuo rfl,λW _=>z5d W to a c k⟩
 ·refine ⟨_,_,_,_,rfl,z5i _ _ _ _,enters_of Tryz.func236 yuo rfl,λW _=>(zrf W f a).mono ?_⟩
  rintro e w' ⟨rfl,rfl⟩
  exact zd1 W _ a _ yun
 ·exact ⟨_,_,_,_,rfl,z5j _,enters_of Tryz.func237 yuo rfl,λW _=>z29 W f a c⟩
 ·exact ⟨_,_,_,_,rfl,z5k _,enters_of Tryz.func238 yuo rfl,λW _=>z26 W a⟩
 ·exact ⟨_,_,_,_,rfl,zv0 _,enters_of Tryz.func223 yuo rfl,λW _=>zrg W _⟩
 ·exact ⟨_,_,_,_,rfl,z6j _,enters_of Tryz.func239 yuo rfl,λW h=>z5e W a b h.1 h.2⟩
 ·exact ⟨_,_,_,_,rfl,z3a _,enters_of Tryz.func240 yuo rfl,λW _=>z0c W _⟩
def Xg:St->Option ByteArray
 | .inr (.inr (.inl (_,f,_)))=>some f
 | .inr (.inr (.inr (.inl (f,_,_))))=>some f
 |_=>none
def RS.mayName(st:RS)(l:List ByteArray)(s:St):Bool:=(Qj s).all (λv=>v.name.toList.isEmpty||Uh l v.name)&&(!st.isSh (Vg s)&&(match Xg s with|some f=>st.isSh f|none=>true))
structure zl9(s:St):Prop where
 rd: ∀v∈Qj s,v.name.size<=maxLen
 to:(Vg s).size<=maxLen
 of: ∀f,Xg s=some f->f.size<=maxLen
section
variable{D:Nat->Prop}{lab:Nat->Nat×Nat}{w:World}{br sb bs:Nat}{tv ov:Value}{st:RS}{ms:List HM}
attribute [local go_sem] Ii Ij Ub Uc Xr Il Gp Gq Xs Xt Yv Yw Eb Ec Uk Ul
theorem Fp(h:RMach D lab w br sb bs tv ov st ms)(tl:List Nat)(t:Nat)(ht:st.threads=tl++[t])(htl:t<ms.length)(hn:tl.length<1000000)(l:List ByteArray)(c:Nat)(hk:ms[t].h.k= .thr l c)(s:St)(b:Nat)(hS:StB w s b)(hz:zl9 s)(hlen:(Qj s).length<=2):
  Cl 90 #[ptr br,Vk s b] w λe w'=>e= .returned (.bool (st.mayName l s))/\Below w.heap.size w w':=by
 obtain ⟨T,u,F,u',he,hme,hen,hrd⟩:=z0d s b
 have KR:=hid (hrd w hS)
 have KL:Hid (∀W,Below w.heap.size w W->Cl 92 #[ptr br] W λe w'=>e= .returned (ptr ms[t].b)/\w'=W.drew):=hid (λW hW=>zdq (h.below hW) tl t ht htl hn)
 have hth:=(h.hd t htl).kind
 rw [hk] at hth
 have KH:Hid (∀W,Below w.heap.size w W->∀x:ByteArray,x.size<=maxLen->Cl 94 #[ptr ms[t].b, .string x] W λe w'=>e= .returned (.bool (Uh l x))/\w'=W):=hid (λW hW x hx=>by
  have hb:=Qd (h.hd t htl).sh
  exact zhp ((hW.cell (p:=⟨ms[t].b,1,none⟩) hb).trans hth.1) (hth.2.2.keep (Chg.of_below (M:=λ_ _=>False) hW) (λ_ e=>e)) x hx)
 have KI:Hid (∀W,Below w.heap.size w W->∀x:ByteArray,x.size<=maxLen->Cl 85 #[ptr br, .string x] W λe w'=>e= .returned (.bool (st.isSh x))/\Below w.heap.size w w'):=hid (λW hW x hx=>(Uu (h.below hW) x hx).mono λe w' ⟨h1,h2⟩=>⟨h1,hW.trans (h2.mono hW.size)⟩)
 have KT:Hid (∀W,Below w.heap.size w W->Cl 93 #[.iface T u] W λe w'=>e= .returned (.string (Vg s))/\Below w.heap.size w w'):=hid (λW hW=>by rw [<-he];exact (Io s b W).mono λe w' ⟨h1,h2⟩=>⟨h1,hW.trans (h2.mono hW.size)⟩)
 have HE:=hid he
 have HZ:=hid hz
 rw [he]
 clear h hS hrd he hth hz ht hk hn
 generalize ms[t].b=tb at*
 clear htl
 go_enter Tryz.func90,Tryz.ntmps90
 go_wp2_with fail
 refine KR.out.mono ?_
 rintro e w1 ⟨a,cp,rfl,b1,hc⟩
 have B1:=hid b1
 have HC:=hid hc
 clear b1 hc KR
 go_wp2
 go_loopw [12] (λv wr=>∃k:Nat,k<=(Qj s).length/\v= .int .i64 k/\Hid (Below w1.heap.size w1 wr)/\Hid (∀j (h:j<(Qj s).length),j<k->((Qj s)[j].name.toList.isEmpty||Uh l (Qj s)[j].name)=true)) (λv _=>(Qj s).length- (intOf v).toNat)
 case atStart=>exact ⟨0,Nat.zero_le _,rfl,Below.refl _ _,λj _ hj=>by omega⟩
 case round=>
  obtain ⟨k,hkl,rfl,HB,HP⟩:=hrel
  have HW:Hid (Below w.heap.size w wr):=B1.out.trans (HB.out.mono B1.out.size)
  by_cases hlt:k<(Qj s).length
  ·have hlt':(k:Int)<((Qj s).length:Int):=by omega
   obtain ⟨g,rfl,hg,q1,q2⟩:=HC.out k hlt
   have r1:=(HB.out.cell (p:=⟨g,k*2,none⟩) hg).trans q1
   have r2:=(HB.out.cell (p:=⟨g,k*2+1,none⟩) hg).trans q2
   have hxs:=HZ.out.rd _ (List.getElem_mem hlt)
   clear q1 q2
   generalize hx:(Qj s)[k]=x at r1 r2 hxs
   have HX:=hid hx
   clear hx
   have BA:Hid (Below w.heap.size w (wr.alloc (.cells #[.string x.name, .int .i64 x.num] 196)).drew):=hid ((HW.out.alloc HW.out.size _).drew)
   have BA2:Hid (Below w1.heap.size w1 (wr.alloc (.cells #[.string x.name, .int .i64 x.num] 196)).drew):=hid ((HB.out.alloc HB.out.size _).drew)
   cases hem:x.name.toList.isEmpty with
   |true=>
    have HP2:Hid (∀j (h:j<(Qj s).length),j<k+1->((Qj s)[j].name.toList.isEmpty||Uh l (Qj s)[j].name)=true):=λj hj hjk=>by
     by_cases e:j=k
     ·subst e;rw [HX.out,hem];rfl
     ·exact HP.out j hj yum
    go_wp2_with fail
    go_region
    all_goals
     go_wp2
     go_roundw
     case rel=>exact ⟨k+1,by omega,by go_num,BA2,HP2⟩
     case measure=>simp [intOf];omega
   |false=>
    cases hha:Uh l x.name with
    |true=>
     have HP2:Hid (∀j (h:j<(Qj s).length),j<k+1->((Qj s)[j].name.toList.isEmpty||Uh l (Qj s)[j].name)=true):=λj hj hjk=>by
      by_cases e:j=k
      ·subst e;rw [HX.out,hha];simp
      ·exact HP.out j hj yum
     go_wp2_with fail
     go_region_law (first
      |(go_simp;go_at_call 92;refine (KL.out _ BA.out).mono ?_;rintro e w2 ⟨rfl,rfl⟩)
      |(go_simp;go_at_call 94;refine (KH.out _ BA.out.drew x.name hxs).mono ?_;rintro e w2 ⟨rfl,rfl⟩;rw [hha]))
     all_goals
      go_wp2
      go_roundw
      case rel=>exact ⟨k+1,by omega,by go_num,BA2.out.drew,HP2⟩
      case measure=>simp [intOf];omega
    |false=>
     have HF:Hid (st.mayName l s=false):=by
      have:(Qj s).all (λv=>v.name.toList.isEmpty||Uh l v.name)=false:=List.all_eq_false.2 ⟨(Qj s)[k],List.getElem_mem hlt,by rw [HX.out,hem,hha];simp⟩
      show (_&&_)=false
      rw [this]
      rfl
     go_wp2_with fail
     go_region_law (first
      |(go_simp;go_at_call 92;refine (KL.out _ BA.out).mono ?_;rintro e w2 ⟨rfl,rfl⟩)
      |(go_simp;go_at_call 94;refine (KH.out _ BA.out.drew x.name hxs).mono ?_;rintro e w2 ⟨rfl,rfl⟩;rw [hha]))
     all_goals
      go_wp2
      go_ret
      exact ⟨by rw [HF.out];rfl,BA.out.drew⟩
  ·have hlt': ¬(k:Int)<((Qj s).length:Int):=by omega
   have HA:Hid ((Qj s).all (λv=>v.name.toList.isEmpty||Uh l v.name)=true):=hid (List.all_eq_true.2 λv hv=>by
    obtain ⟨i,hi,rfl⟩:=List.getElem_of_mem hv
    exact HP.out i hi yum)
   go_wp2_with fail
   refine (KT.out wr HW.out).mono ?_
   rintro e w2 ⟨rfl,b2⟩
   have B2:=hid b2
   clear b2
   go_wp2_with fail
   refine (KI.out w2 B2.out _ HZ.out.to).mono ?_
   rintro e w3 ⟨rfl,b3⟩
   have B3:=hid b3
   clear b3
   cases hsh:st.isSh (Vg s) with
   |true=>
    have HF:Hid (st.mayName l s=false):=by
     show (_&&(!st.isSh (Vg s)&&_))=false
     rw [hsh]
     simp
    go_wp2
    go_ret
    exact ⟨by rw [HF.out];rfl,B3.out⟩
   |false=>
    have HM:Hid (st.mayName l s=(match Xg s with|some f=>st.isSh f|none=>true)):=by
     show (_&&(!st.isSh (Vg s)&&_))=_
     rw [hsh,HA.out]
     simp
    have HEo:=HE.out
    rcases s with ⟨to,y⟩|⟨to,o,y,z⟩|⟨to,f,y⟩|⟨f,y,z⟩|y|⟨⟩|y|n
    ·obtain ⟨rfl,rfl⟩:222=T/\_=u:=by simpa [Vk,stV] using HEo
     go_wp2
     go_ret
     exact ⟨by rw [HM.out];rfl,B3.out⟩
    ·obtain ⟨rfl,rfl⟩:226=T/\_=u:=by simpa [Vk,stV] using HEo
     go_wp2
     go_ret
     exact ⟨by rw [HM.out];rfl,B3.out⟩
    ·obtain ⟨rfl,rfl⟩:201=T/\_=u:=by simpa [Vk,stV] using HEo
     go_wp2_with fail
     refine (KI.out _ (B3.out.alloc B3.out.size _) f (HZ.out.of f rfl)).mono ?_
     rintro e w4 ⟨rfl,b4⟩
     have B4:=hid b4
     clear b4
     go_wp2
     go_ret
     exact ⟨by rw [HM.out];rfl,B4.out⟩
    ·obtain ⟨rfl,rfl⟩:203=T/\_=u:=by simpa [Vk,stV] using HEo
     go_wp2_with fail
     refine (KI.out _ (B3.out.alloc B3.out.size _) f (HZ.out.of f rfl)).mono ?_
     rintro e w4 ⟨rfl,b4⟩
     have B4:=hid b4
     clear b4
     go_wp2
     go_ret
     exact ⟨by rw [HM.out];rfl,B4.out⟩
    ·obtain ⟨rfl,rfl⟩:205=T/\_=u:=by simpa [Vk,stV] using HEo
     go_wp2
     go_ret
     exact ⟨by rw [HM.out];rfl,B3.out⟩
    ·obtain ⟨rfl,rfl⟩:162=T/\ptr b=u:=by simpa [Vk] using HEo
     go_wp2
     go_ret
     exact ⟨by rw [HM.out];rfl,B3.out⟩
    ·obtain ⟨rfl,rfl⟩:206=T/\ptr b=u:=by simpa [Vk] using HEo
     go_wp2
     go_ret
     exact ⟨by rw [HM.out];rfl,B3.out⟩
    ·obtain ⟨rfl,rfl⟩:209=T/\ptr b=u:=by simpa [Vk] using HEo
     go_wp2
     go_ret
     exact ⟨by rw [HM.out];rfl,B3.out⟩
end
def Qf:St->Bool
 | .inr (.inr (.inr (.inr (.inr (.inl ())))))=>true
 | .inr (.inr (.inr (.inr (.inr (.inr (.inl _))))))=>true
 | .inr (.inr (.inr (.inr (.inr (.inr (.inr _))))))=>true
 |_=>false
def RS.hasRoom(st:RS)(l:List ByteArray)(c:Nat)(s:St):Bool:=!decide (c=14)&&(!(!(Vg s).toList.isEmpty&&(!Uh l (Vg s)&&decide (l.length=4)))&&(!Qf s||decide (st.opn.length<=3)))
theorem zgl(s:St)(b:Nat): ∃T u x,Vk s b= .iface T u/\ ∀w,(Instr.typeAssert (.iface T u) 153 216 true).run Tryz.prog w= .ok (.tuple #[x, .bool (Qf s)]) w:=by
 rcases s with ⟨to,a⟩|⟨to,k,a,c⟩|⟨to,f,a⟩|⟨f,a,c⟩|a|⟨⟩|a|n
 ·exact ⟨_,_,_,rfl,Sf _⟩
 ·exact ⟨_,_,_,rfl,Gl _⟩
 ·exact ⟨_,_,_,rfl,Sg _⟩
 ·exact ⟨_,_,_,rfl,Sh _⟩
 ·exact ⟨_,_,_,rfl,Si _⟩
 ·exact ⟨_,_,_,rfl,Xk _⟩
 ·exact ⟨_,_,_,rfl,Ed _⟩
 ·exact ⟨_,_,_,rfl,Uy _⟩
section
variable{D:Nat->Prop}{lab:Nat->Nat×Nat}{w:World}{br sb bs:Nat}{tv ov:Value}{st:RS}{ms:List HM}
theorem Oj(h:RMach D lab w br sb bs tv ov st ms)(ho:st.opnOk)(tl:List Nat)(t:Nat)(ht:st.threads=tl++[t])(htl:t<ms.length)(hn:tl.length<1000000)(l:List ByteArray)(c:Nat)(hk:ms[t].h.k= .thr l c)(s:St)(b:Nat)(hz:zl9 s):
  Cl 91 #[ptr br,Vk s b] w λe w'=>e= .returned (.bool (st.hasRoom l c s))/\Below w.heap.size w w':=by
 obtain ⟨T,u,x,he,hta⟩:=zgl s b
 have KL:=hid (zdq h tl t ht htl hn)
 have hth:=(h.hd t htl).kind
 rw [hk] at hth
 have hb:=Qd (h.hd t htl).sh
 have bd:Below w.heap.size w w.drew:=Qi _ w
 have KT:Hid (Cl 93 #[.iface T u] w.drew λe w'=>e= .returned (.string (Vg s))/\Below w.heap.size w w'):=hid (by rw [<-he];exact (Io s b _).mono λe w' ⟨h1,h2⟩=>⟨h1,bd.trans h2⟩)
 have KH:Hid (∀W,Below w.heap.size w W->Cl 94 #[ptr ms[t].b, .string (Vg s)] W λe w'=>e= .returned (.bool (Uh l (Vg s)))/\w'=W):=hid (λW hW=>
  zhp ((hW.cell (p:=⟨ms[t].b,1,none⟩) hb).trans hth.1) (hth.2.2.keep (Chg.of_below (M:=λ_ _=>False) hW) (λ_ e=>e)) _ hz.to)
 have HL:Hid (∀W,Below w.heap.size w W->∀ty,(Builtin.len_ #[109] ty #[.map (some ms[t].mb)]).run Tryz.prog W= .ok (.int .i64 l.length) W):=hid (λW hW ty=>(hth.2.2.keep (Chg.of_below (M:=λ_ _=>False) hW) (λ_ e=>e)).len Tryz.underlying109 ty)
 have HC:Hid (∀W,Below w.heap.size w W->W.cell? ⟨ms[t].b,1,none⟩=some (.map (some ms[t].mb))/\W.cell? ⟨br,3,none⟩=some ov):=hid (λW hW=>⟨(hW.cell (p:=⟨ms[t].b,1,none⟩) hb).trans hth.1,(hW.cell (p:=⟨br,3,none⟩) (Qd h.sh)).trans h.c3⟩)
 have hc2:=hth.2.1
 obtain ⟨oa,ok,hov⟩: ∃a k,ov= .slice a st.opn.length k:=yr9
 subst hov
 have ho4:=ho.1
 rw [he]
 clear h hth hz ht hk hn ho he hb bd
 generalize ms[t].b=tb at*
 generalize ms[t].mb=tm at*
 clear htl
 unfold RS.hasRoom
 generalize Vg s=nm at*
 generalize hhs:Qf s=hs at*
 clear hhs
 by_cases hc:c=14
 ·subst hc
  go_enter Tryz.func91,Tryz.ntmps91
  go_wp2_with fail
  refine KL.out.mono ?_
  rintro e w1 ⟨rfl,rfl⟩
  go_wp2
  go_ret
  exact ⟨by simp,Qi _ w⟩
 ·have hc':((c:Int)==14)=false:=by simpa using (show ¬(c:Int)=14 by omega)
  have hcd:decide (c=14)=false:=by simpa using hc
  rw [hcd]
  go_enter Tryz.func91,Tryz.ntmps91
  go_wp2_with fail
  refine KL.out.mono ?_
  rintro e w1 ⟨rfl,rfl⟩
  go_wp2_with fail
  refine KT.out.mono ?_
  rintro e w2 ⟨rfl,b2⟩
  have B2:=hid b2
  obtain ⟨d1,d3⟩:=HC.out w2 b2
  have hlen:=HL.out w2 b2
  have KH2:=hid (KH.out w2 b2)
  clear b2 KT KL HC HL KH
  cases hem:nm.toList.isEmpty with
  |true=>
   cases hs with
   |true=>
    by_cases h3:st.opn.length<=3
    ·have h3':(st.opn.length:Int)<=3:=by omega
     go_wp2
     go_ret
     exact ⟨by first|(simp [hem,h3];done)|(simp [hem,h3];omega),B2.out⟩
    ·exact ytl
   |false=>
    go_wp2
    go_ret
    exact ⟨by first|(simp [hem];done)|(simp [hem];omega),B2.out⟩
  |false=>
   cases hha:Uh l nm with
   |true=>
    rw [hha] at KH2
    go_wp2_with fail
    refine KH2.out.mono ?_
    rintro e w3 ⟨rfl,rfl⟩
    cases hs with
    |true=>
     by_cases h3:st.opn.length<=3
     ·have h3':(st.opn.length:Int)<=3:=by omega
      go_wp2
      go_ret
      exact ⟨by first|(simp [hha,h3];done)|(simp [hem,hha,h3];done),B2.out⟩
     ·exact ytl
    |false=>
     go_wp2
     go_ret
     exact ⟨by first|(simp [hha];done)|(simp [hem,hha];done),B2.out⟩
   |false=>
    rw [hha] at KH2
    go_wp2_with fail
    refine KH2.out.mono ?_
    rintro e w3 ⟨rfl,rfl⟩
    by_cases hl4:l.length=4
    ·rw [hl4] at hlen
     go_wp2
     go_ret
     exact ⟨by first|(simp [hem,hha,hl4];done),B2.out⟩
    ·have hl4':((l.length:Int)==4)=false:=by simpa using (show ¬(l.length:Int)=4 by omega)
     cases hs with
     |true=>
      by_cases h3:st.opn.length<=3
      ·have h3':(st.opn.length:Int)<=3:=by omega
       go_wp2
       go_ret
       exact ⟨by first|(simp [hem,hl4,h3];done)|(simp [hem,hl4,h3];omega),B2.out⟩
      ·have h3': ¬(st.opn.length:Int)<=3:=by omega
       go_wp2
       go_ret
       exact ⟨by first|(simp [hem,hl4,h3];done)|(simp [hem,hl4,h3];omega),B2.out⟩
     |false=>
      go_wp2
      go_ret
      exact ⟨by first|(simp [hem,hl4];done)|(simp [hem,hl4];omega),B2.out⟩
end
attribute [local go_sem] Yr zdx zal Gk Vw Ik Fo Yf Ys zdy zam Gn Yt zdz zan Gr Yu zd0 zao Yo Vh Sj Er Zm Yb zbv zcr Ux Zc In Fb Yx
section
variable{w:World}{b:Nat}{rv:Value}
theorem zj6(s:St)(hh:Qf s=false):Cl 129 #[stV s] w λe w'=>e= .returned (.slice none 0 0)/\w'=w:=by
 rcases s with ⟨to,a⟩|⟨to,k,a,c⟩|⟨to,f,a⟩|⟨f,a,c⟩|a|⟨⟩|a|n
 ·exact ysc
 ·exact ysc
 ·exact ysc
 ·exact ysc
 ·exact ysc
 ·simp [Qf] at hh
 ·simp [Qf] at hh
 ·simp [Qf] at hh
theorem zoc(s:St)(hh:Qf s=true)(hc:w.cell? ⟨b,0,none⟩=some rv):Cl 129 #[.iface (hkT (.st s)) (ptr b)] w λe w'=>e= .returned rv/\w'=w:=by
 rcases s with ⟨to,a⟩|⟨to,k,a,c⟩|⟨to,f,a⟩|⟨f,a,c⟩|a|⟨⟩|a|n
 ·simp [Qf] at hh
 ·simp [Qf] at hh
 ·simp [Qf] at hh
 ·simp [Qf] at hh
 ·simp [Qf] at hh
 ·exact ytd
 ·exact ytd
 ·exact ytd
def Jk:St->Int
 | .inr (.inr (.inr (.inr (.inr (.inr (.inr n))))))=>n
 |_=>1
theorem zfp(s:St)(hh:Qf s=false):Cl 128 #[stV s] w λe w'=>e= .returned (.int .i64 1)/\w'=w:=by
 rcases s with ⟨to,a⟩|⟨to,k,a,c⟩|⟨to,f,a⟩|⟨f,a,c⟩|a|⟨⟩|a|n
 ·exact ysd
 ·exact ysd
 ·exact ysd
 ·exact ysd
 ·exact ysd
 ·simp [Qf] at hh
 ·simp [Qf] at hh
 ·simp [Qf] at hh
theorem zrh{mb:Nat}(s:St)(hh:Qf s=true)(hc:HkAt w b mb (.st s)):Cl 128 #[.iface (hkT (.st s)) (ptr b)] w λe w'=>e= .returned (.int .i64 (Jk s))/\w'=w:=by
 rcases s with ⟨to,a⟩|⟨to,k,a,c⟩|⟨to,f,a⟩|⟨f,a,c⟩|a|⟨⟩|a|n
 ·simp [Qf] at hh
 ·simp [Qf] at hh
 ·simp [Qf] at hh
 ·simp [Qf] at hh
 ·simp [Qf] at hh
 ·exact yuj
 ·exact yuj
 ·simp only [hkT,Jk]
  have hc1:w.cell? ⟨b,1,none⟩=some (.int .i64 n):=hc
  go_enter Tryz.func128,Tryz.ntmps128
  go_wp2
  go_ret
  exact ⟨rfl,rfl⟩
end
end Go.Proofs.YtkenoofmkbghiaaGreatDoor
