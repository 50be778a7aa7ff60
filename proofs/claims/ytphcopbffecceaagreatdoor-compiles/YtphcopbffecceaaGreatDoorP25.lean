import Derived.Test.YtphcopbffecceaaGreatDoorP24
set_option maxRecDepth 100000
set_option maxHeartbeats 10000000
namespace Go.Proofs.YtphcopbffecceaaGreatDoor
open Go.RowKit
variable{hs hs':List Hd}{P:Nat->Prop}{s0:St}{N:List NK}
section
variable{w:World}{bw cap:Nat}{u v x y z t:ByteArray}{ws rr:List ByteArray}
theorem z6p(k:Nat)(hk:k<1000000)(c0:w.cell? ⟨bw,0,none⟩=some (.string u))(c1:w.cell? ⟨bw,1,none⟩=some (.string v))(z1:v.size<1000000)(c2:w.cell? ⟨bw,2,none⟩=some (.string x))(z2:x.size<1000000)(c3:w.cell? ⟨bw,3,none⟩=some (.string ⟨#[97,116]⟩))(c4:w.cell? ⟨bw,4,none⟩=some (.string z))(z4:z.size<1000000):
  Cl 11 #[.slice (some ⟨bw,0,none⟩) (k+6) cap] w λr w'=>r= .returned (.bool (Jr (u::v::x::wAt::z::t::rr)))/\w'=w:=by
 have KN:=hid Vs
 have KA:=hid Xb
 have KL:=hid Zq
 have g1:(1:Int)<(k:Int)+6:=yai
 have g2:(2:Int)<(k:Int)+6:=yai
 have g4:(4:Int)<(k:Int)+6:=yai
 have e1:((k:Int)+6==1)=false:=yan
 have e2:((k:Int)+6==2)=false:=yan
 have e3:((k:Int)+6==3)=false:=yan
 have e5:((k:Int)+6==5)=false:=yan
 obtain ⟨a,ha⟩: ∃a,Vo v=a:=⟨_,rfl⟩
 obtain ⟨b,hb⟩: ∃b,isAt x=b:=⟨_,rfl⟩
 obtain ⟨d,hd⟩: ∃d,Vo x=d:=⟨_,rfl⟩
 obtain ⟨e,he⟩: ∃e,isAt z=e:=⟨_,rfl⟩
 rcases Yk u with rfl|rfl|rfl|rfl|rfl|rfl|rfl|rfl|rfl|rfl|⟨nshared,nthread,nend,natomic,nset,nget,nput,nout,nif,nloop⟩
 all_goals first|rw [Zf]|rw [Yd]|rw [Sk]|rw [Zg]|rw [Gu]|rw [Es]|rw [Et]|rw [Eu]|rw [zcy]|rw [Uf]|(rw [Un _ nshared nthread nend natomic nset nget nput nout nif nloop];have mshared:(u.toList==[115,104,97,114,101,100])=false:=Qo nshared;have mthread:(u.toList==[116,104,114,101,97,100])=false:=Qo nthread;have mend:(u.toList==[101,110,100])=false:=Qo nend;have matomic:(u.toList==[97,116,111,109,105,99])=false:=Qo natomic;have mset:(u.toList==[115,101,116])=false:=Qo nset;have mget:(u.toList==[103,101,116])=false:=Qo nget;have mput:(u.toList==[112,117,116])=false:=Qo nput;have mout:(u.toList==[111,117,116])=false:=Qo nout;have mif:(u.toList==[105,102])=false:=Qo nif;have mloop:(u.toList==[108,111,111,112])=false:=Qo nloop;clear nshared nthread nend natomic nset nget nput nout nif nloop)
 all_goals try simp only [Qy,Qt,Zd,Qs,Jz,Vd,Va,Vp,Fe,Jh] at c0
 all_goals try dsimp only [List.isEmpty]
 all_goals try simp only [ha,hb,hd,he]
 all_goals cases a<;>cases b<;>cases e
 all_goals first
  |(go_enter Tryz.func11,Tryz.ntmps11;go_wp2_with (first|(go_at_call 18;refine (KN.out _ _ yaq).mono ?_;rintro e w' ⟨rfl,rfl⟩)|(go_at_call 19;refine (KA.out _ _ yaq).mono ?_;rintro e w' ⟨rfl,rfl⟩)|(go_at_call 20;refine (KL.out _ _ _).mono ?_;rintro e w' ⟨rfl,rfl⟩));go_ret;exact ⟨rfl,rfl⟩;done)
  |(cases d<;>(go_enter Tryz.func11,Tryz.ntmps11;go_wp2_with (first|(go_at_call 18;refine (KN.out _ _ yaq).mono ?_;rintro e w' ⟨rfl,rfl⟩)|(go_at_call 19;refine (KA.out _ _ yaq).mono ?_;rintro e w' ⟨rfl,rfl⟩)|(go_at_call 20;refine (KL.out _ _ _).mono ?_;rintro e w' ⟨rfl,rfl⟩));go_ret;exact ⟨rfl,rfl⟩;done))
end
section
variable{w:World}{bw cap:Nat}{u v x y z t:ByteArray}{ws rr:List ByteArray}
theorem z6q(k:Nat)(hk:k<1000000)(c0:w.cell? ⟨bw,0,none⟩=some (.string u))(c1:w.cell? ⟨bw,1,none⟩=some (.string v))(z1:v.size<1000000)(c2:w.cell? ⟨bw,2,none⟩=some (.string x))(z2:x.size<1000000)(c3:w.cell? ⟨bw,3,none⟩=some (.string y))(hy:y≠wAt):
  Cl 11 #[.slice (some ⟨bw,0,none⟩) (k+6) cap] w λr w'=>r= .returned (.bool (Jr (u::v::x::y::z::t::rr)))/\w'=w:=by
 have KN:=hid Vs
 have KA:=hid Xb
 have KL:=hid Zq
 have g1:(1:Int)<(k:Int)+6:=yai
 have g2:(2:Int)<(k:Int)+6:=yai
 have g4:(4:Int)<(k:Int)+6:=yai
 have e1:((k:Int)+6==1)=false:=yan
 have e2:((k:Int)+6==2)=false:=yan
 have e3:((k:Int)+6==3)=false:=yan
 have e5:((k:Int)+6==5)=false:=yan
 have mat:(y.toList==[97,116])=false:=Qo hy
 have hy':decide (y=wAt)=false:=by simpa using hy
 obtain ⟨a,ha⟩: ∃a,Vo v=a:=⟨_,rfl⟩
 obtain ⟨b,hb⟩: ∃b,isAt x=b:=⟨_,rfl⟩
 obtain ⟨d,hd⟩: ∃d,Vo x=d:=⟨_,rfl⟩
 rcases Yk u with rfl|rfl|rfl|rfl|rfl|rfl|rfl|rfl|rfl|rfl|⟨nshared,nthread,nend,natomic,nset,nget,nput,nout,nif,nloop⟩
 all_goals first|rw [Zf]|rw [Yd]|rw [Sk]|rw [Zg]|rw [Gu]|rw [Es]|rw [Et]|rw [Eu]|rw [zcy]|rw [Uf]|(rw [Un _ nshared nthread nend natomic nset nget nput nout nif nloop];have mshared:(u.toList==[115,104,97,114,101,100])=false:=Qo nshared;have mthread:(u.toList==[116,104,114,101,97,100])=false:=Qo nthread;have mend:(u.toList==[101,110,100])=false:=Qo nend;have matomic:(u.toList==[97,116,111,109,105,99])=false:=Qo natomic;have mset:(u.toList==[115,101,116])=false:=Qo nset;have mget:(u.toList==[103,101,116])=false:=Qo nget;have mput:(u.toList==[112,117,116])=false:=Qo nput;have mout:(u.toList==[111,117,116])=false:=Qo nout;have mif:(u.toList==[105,102])=false:=Qo nif;have mloop:(u.toList==[108,111,111,112])=false:=Qo nloop;clear nshared nthread nend natomic nset nget nput nout nif nloop)
 all_goals try simp only [Qy,Qt,Zd,Qs,Jz,Vd,Va,Vp,Fe,Jh] at c0
 all_goals try dsimp only [List.isEmpty]
 all_goals try simp only [ha,hb,hd]
 all_goals clear hy hy'
 all_goals cases a<;>cases b
 all_goals first
  |(go_enter Tryz.func11,Tryz.ntmps11;go_wp2_with (first|(go_at_call 18;refine (KN.out _ _ yaq).mono ?_;rintro e w' ⟨rfl,rfl⟩)|(go_at_call 19;refine (KA.out _ _ yaq).mono ?_;rintro e w' ⟨rfl,rfl⟩)|(go_at_call 20;refine (KL.out _ _ _).mono ?_;rintro e w' ⟨rfl,rfl⟩));go_ret;exact ⟨rfl,rfl⟩;done)
  |(cases d<;>(go_enter Tryz.func11,Tryz.ntmps11;go_wp2_with (first|(go_at_call 18;refine (KN.out _ _ yaq).mono ?_;rintro e w' ⟨rfl,rfl⟩)|(go_at_call 19;refine (KA.out _ _ yaq).mono ?_;rintro e w' ⟨rfl,rfl⟩)|(go_at_call 20;refine (KL.out _ _ _).mono ?_;rintro e w' ⟨rfl,rfl⟩));go_ret;exact ⟨rfl,rfl⟩;done))
end
section
variable{w:World}{bw cap:Nat}{ws:List ByteArray}
theorem Gv{r:Ending}{w w':World}{b:Bool}(h:r= .returned (.bool b)/\w'=w):r= .returned (.bool b)/\Below w.heap.size w w':=⟨h.1,h.2▸Below.refl _ _⟩
theorem zs9(hw:StrsAt w bw ws)(hbw:bw<w.heap.size)(hne:ws≠[])(hz: ∀u∈ws,u.size<1000000)(hl:ws.length<1000000):
  Cl 11 #[.slice (some ⟨bw,0,none⟩) ws.length cap] w λr w'=>r= .returned (.bool (Jr ws))/\Below w.heap.size w w':=by
 match ws,hw,hne,hz,hl with
 |[],_,hne,_,_=>exact absurd rfl hne
 |[u],hw,_,_,_=>exact (dl1 (hw 0 yaj)).mono λ_ _=>Gv
 |[u,v],hw,_,hz,_=>exact (dl2 (hw 0 yaj) (hw 1 yaj) (hz v yaj)).mono λ_ _=>Gv
 |[u,v,x],hw,_,hz,_=>exact (dl3 (hw 0 yaj) (hw 1 yaj) (hz v yaj) (hw 2 yaj) (hz x yaj)).mono λ_ _=>Gv
 |[u,v,x,y],hw,_,hz,_=>exact (dl4 (hw 0 yaj) (hw 1 yaj) (hz v yaj) (hw 2 yaj) (hz x yaj)).mono λ_ _=>Gv
 |[u,v,x,y,z],hw,_,hz,_=>
  by_cases hs:u=Jz
  ·subst hs
   cases hg:Uj y with
   |none=>exact (zs8 (v:=v) (x:=x) (y:=y) (z:=z) (kk:=-1) hbw (hw 0 yaj) (hw 1 yaj) (hz v yaj) (hw 2 yaj) (hz x yaj) (hw 3 yaj) (hw 4 yaj) (hz z yaj) rfl rfl rfl rfl (by rw [hg])).mono λr w' h=>⟨by rw [h.1,Gu];simp [hg],h.2⟩
   |some q=>exact (zs8 (v:=v) (x:=x) (y:=y) (z:=z) (kk:=(q:Int)) hbw (hw 0 yaj) (hw 1 yaj) (hz v yaj) (hw 2 yaj) (hz x yaj) (hw 3 yaj) (hw 4 yaj) (hz z yaj) rfl rfl rfl rfl (by rw [hg])).mono λr w' h=>⟨by rw [h.1,Gu];simp [hg],h.2⟩
  ·by_cases hy:y=wAt
   ·subst hy
    exact (z6n (hw 0 yaj) (hw 1 yaj) (hz v yaj) (hw 2 yaj) (hz x yaj) (hw 3 yaj) (hw 4 yaj) (hz z yaj) hs).mono λ_ _=>Gv
   ·exact (z6o (hw 0 yaj) (hw 1 yaj) (hz v yaj) (hw 2 yaj) (hz x yaj) (hw 3 yaj) hy hs).mono λ_ _=>Gv
 |u::v::x::y::z::t::r,hw,_,hz,hl=>
  have hk:r.length<1000000:=by simp at hl;omega
  by_cases hy:y=wAt
  ·subst hy
   exact (z6p (t:=t) (rr:=r) r.length hk (hw 0 yaj) (hw 1 yaj) (hz v yaj) (hw 2 yaj) (hz x yaj) (hw 3 yaj) (hw 4 yaj) (hz z yaj)).mono λ_ _=>Gv
  ·exact (z6q (t:=t) (rr:=r) (z:=z) r.length hk (hw 0 yaj) (hw 1 yaj) (hz v yaj) (hw 2 yaj) (hz x yaj) (hw 3 yaj) hy).mono λ_ _=>Gv
end
def Ff(u:ByteArray):PV:=if Vo u=true then ⟨u,0⟩ else ⟨ByteArray.empty,(Qk u).getD 0⟩
theorem Vt(u:ByteArray)(ws:List ByteArray):gPV (u::ws)=if isAt u=true then some (Ff u,ws) else none:=by
 unfold gPV isAt Ff
 by_cases h:Vo u=true
 ·simp [h]
 ·have h':Vo u=false:=by simpa using h
  cases hn:Qk u with
  |none=>simp [h',hn]
  |some v=>simp [h',hn]
theorem zb7(lo hi:Int)(u:ByteArray)(ws:List ByteArray)(h1:lo=1):gIn lo hi (u::ws)=if Sx hi u=true then some ((Qk u).getD 0,ws) else none:=by
 subst h1
 unfold gIn Sx
 cases hn:Qk u with
 |none=>simp [zco,hn]
 |some n=>simp [zco,hn]
theorem Gw(u:ByteArray)(ws:List ByteArray):gOp (u::ws)=(Uj u).map λk=>(k,ws):=rfl
theorem zcu(u v:ByteArray)(ws:List ByteArray):gAt (u::v::ws)=if (decide (u=wAt)&&isAt v)=true then some (Ff v,ws) else none:=by
 unfold gAt
 by_cases h:u=wAt
 ·simp [h,Vt]
 ·simp [h]
theorem zei:gPV []=none:=rfl
theorem Ju(u:ByteArray)(ws:List ByteArray):gNm (u::ws)=if Vo u=true then some (u,ws) else none:=rfl
theorem zxh(us:List ByteArray)(h:Jr (Jz::us)=false): ∀s,zn4 us≠some (s,[]):=by
 intro s hs
 rw [Gu] at h
 unfold zn4 at hs
 match us,h,hs with
 |[],_,hs=>simp [gNm] at hs
 |[v],_,hs=>
  rw [Ju] at hs
  by_cases a:Vo v=true
  ·simp [a,zei] at hs
  ·simp [a] at hs
 |[v,x],h,hs=>exact z9l
 |[v,x,y],_,hs=>
  rw [Ju] at hs
  by_cases a:Vo v=true
  ·by_cases b:isAt x=true
   ·cases hy:Uj y with
    |none=>simp [a,b,Vt,Gw,hy] at hs
    |some k=>simp [a,b,Vt,Gw,hy,zei] at hs
   ·simp [a,b,Vt] at hs
  ·simp [a] at hs
 |[v,x,y,z],h,hs=>
  rw [Ju] at hs
  by_cases a:Vo v=true
  ·by_cases b:isAt x=true
   ·cases hy:Uj y with
    |none=>simp [a,b,Vt,Gw,hy] at hs
    |some k=>
     by_cases e:isAt z=true
     ·simp [a,b,e,hy] at h
     ·simp [a,b,Vt,Gw,hy,e] at hs
   ·simp [a,b,Vt] at hs
  ·simp [a] at hs
 |v::x::y::z::t::r,_,hs=>
  rw [Ju] at hs
  by_cases a:Vo v=true
  ·by_cases b:isAt x=true
   ·cases hy:Uj y with
    |none=>simp [a,b,Vt,Gw,hy] at hs
    |some k=>
     by_cases e:isAt z=true
     ·simp [a,b,Vt,Gw,hy,e] at hs
     ·simp [a,b,Vt,Gw,hy,e] at hs
   ·simp [a,b,Vt] at hs
  ·simp [a] at hs
theorem zta:gAt []=some (zPV,[]):=rfl
theorem ztb(y:ByteArray):gAt [y]=none:=by
 show (if y=wAt then gPV [] else none)=none
 rw [zei]
 split<;>rfl
theorem zxi(us:List ByteArray)(h:Jr (Vd::us)=false): ∀s,zvd us≠some (s,[]):=by
 intro s hs
 rw [Es] at h
 unfold zvd at hs
 match us,h,hs with
 |[],_,hs=>simp [gNm] at hs
 |[v],_,hs=>
  rw [Ju] at hs
  by_cases a:Vo v=true
  ·simp [a,gNm] at hs
  ·simp [a] at hs
 |[v,x],h,hs=>
  rw [Ju] at hs
  by_cases a:Vo v=true
  ·by_cases b:Vo x=true
   ·simp [a,b] at h
   ·simp [a,b,Ju] at hs
  ·simp [a] at hs
 |[v,x,y],_,hs=>
  rw [Ju] at hs
  by_cases a:Vo v=true
  ·by_cases b:Vo x=true
   ·simp [a,b,Ju,ztb] at hs
   ·simp [a,b,Ju] at hs
  ·simp [a] at hs
 |[v,x,y,z],h,hs=>
  rw [Ju] at hs
  by_cases a:Vo v=true
  ·by_cases b:Vo x=true
   ·by_cases e:(decide (y=wAt)&&isAt z)=true
    ·dsimp only at h;rw [a,b,e] at h;simp at h
    ·exact yad
   ·simp [a,b,Ju] at hs
  ·simp [a] at hs
 |v::x::y::z::t::r,_,hs=>
  rw [Ju] at hs
  by_cases a:Vo v=true
  ·by_cases b:Vo x=true
   ·by_cases e:(decide (y=wAt)&&isAt z)=true
    ·rw [if_pos a,Option.bind_some,Ju,if_pos b,Option.bind_some,zcu,if_pos e] at hs
     simp at hs
    ·exact yad
   ·simp [a,b,Ju] at hs
  ·simp [a] at hs
theorem zxj(us:List ByteArray)(h:Jr (Va::us)=false): ∀s,zve us≠some (s,[]):=by
 intro s hs
 rw [Et] at h
 unfold zve at hs
 match us,h,hs with
 |[],_,hs=>simp [gNm] at hs
 |[v],_,hs=>
  rw [Ju] at hs
  by_cases a:Vo v=true
  ·simp [a,zei] at hs
  ·simp [a] at hs
 |[v,x],h,hs=>exact z9l
 |[v,x,y],_,hs=>
  rw [Ju] at hs
  by_cases a:Vo v=true
  ·by_cases b:isAt x=true
   ·simp [a,b,Vt,ztb] at hs
   ·simp [a,b,Vt] at hs
  ·simp [a] at hs
 |[v,x,y,z],h,hs=>
  rw [Ju] at hs
  by_cases a:Vo v=true
  ·by_cases b:isAt x=true
   ·by_cases e:(decide (y=wAt)&&isAt z)=true
    ·dsimp only at h;rw [a,b,e] at h;simp at h
    ·exact yac
   ·simp [a,b,Vt] at hs
  ·simp [a] at hs
 |v::x::y::z::t::r,_,hs=>
  rw [Ju] at hs
  by_cases a:Vo v=true
  ·by_cases b:isAt x=true
   ·by_cases e:(decide (y=wAt)&&isAt z)=true
    ·rw [if_pos a,Option.bind_some,Vt,if_pos b,Option.bind_some,zcu,if_pos e] at hs
     simp at hs
    ·exact yac
   ·simp [a,b,Vt] at hs
  ·simp [a] at hs
theorem zm7(us:List ByteArray)(h:(match us with|[v]=>isAt v|_=>false)=false): ∀p,gPV us≠some (p,[]):=by
 intro p hp
 match us,h,hp with
 |[],_,hp=>simp [zei] at hp
 |[v],h,hp=>simp at h;simp [Vt,h] at hp
 |v::x::r,_,hp=>
  rw [Vt] at hp
  split at hp
  ·simp at hp
  ·simp at hp
theorem ztc(us:List ByteArray)(h:(match us with|[v]=>Sx 4 v|_=>false)=false): ∀p,gIn 1 4 us≠some (p,[]):=by
 intro p hp
 match us,h,hp with
 |[],_,hp=>simp [gIn,zco] at hp
 |[v],h,hp=>simp at h;rw [zb7 1 4 v [] rfl,if_neg (by simp [h])] at hp;simp at hp
 |v::x::r,_,hp=>
  rw [zb7 1 4 v (x::r) rfl] at hp
  split at hp
  ·simp at hp
  ·simp at hp
theorem zik(us:List ByteArray):Zs Jz us=zn4 us:=by
 unfold Zs
 rw [if_pos rfl]
theorem zil(us:List ByteArray):Zs Vd us=zvd us:=by
 unfold Zs
 rw [if_neg (show ¬Vd=Jz by decide),if_pos rfl]
theorem zim(us:List ByteArray):Zs Va us=zve us:=by
 unfold Zs
 rw [if_neg (show ¬Va=Jz by decide),if_neg (show ¬Va=Vd by decide),if_pos rfl]
theorem zin(us:List ByteArray):Zs Vp us=(gPV us).map λp=>(St.out p.1,p.2):=by
 unfold Zs
 rw [if_neg (show ¬Vp=Jz by decide),if_neg (show ¬Vp=Vd by decide),if_neg (show ¬Vp=Va by decide),if_pos rfl]
theorem zcv(us:List ByteArray):Zs Qs us=some (St.atomic,us):=by
 unfold Zs
 rw [if_neg (show ¬Qs=Jz by decide),if_neg (show ¬Qs=Vd by decide),if_neg (show ¬Qs=Va by decide),if_neg (show ¬Qs=Vp by decide),if_pos rfl]
theorem zm8(us:List ByteArray):Zs Fe us=(gPV us).map λp=>(St.iff p.1,p.2):=by
 unfold Zs
 rw [if_neg (show ¬Fe=Jz by decide),if_neg (show ¬Fe=Vd by decide),if_neg (show ¬Fe=Va by decide),if_neg (show ¬Fe=Vp by decide),if_neg (show ¬Fe=Qs by decide),if_pos rfl]
theorem zej(us:List ByteArray):Zs Jh us=(gIn 1 4 us).map λp=>(St.loop p.1,p.2):=by
 unfold Zs
 rw [if_neg (show ¬Jh=Jz by decide),if_neg (show ¬Jh=Vd by decide),if_neg (show ¬Jh=Va by decide),if_neg (show ¬Jh=Vp by decide),if_neg (show ¬Jh=Qs by decide),if_neg (show ¬Jh=Fe by decide),if_pos rfl]
theorem ztd(st:RS)(ws:List ByteArray)(h:Jr ws=false):Vq st ws= .error 2:=by
 match ws,h with
 |[],_=>rfl
 |u::us,h=>
  have hst: ∀u,u≠Qy->u≠Qt->u≠Zd->(∀s,Zs u us≠some (s,[]))->Vq st (u::us)= .error 2:=by
   intro u n1 n2 n3 hn
   unfold Vq
   dsimp only
   rw [if_neg n1,if_neg n2,if_neg n3]
   match hg:Zs u us,hn with
   |none,_=>rfl
   |some (s,[]),hn=>exact absurd rfl (hn s)
   |some (s,_::_),_=>rfl
  rcases Yk u with rfl|rfl|rfl|rfl|rfl|rfl|rfl|rfl|rfl|rfl|⟨nshared,nthread,nend,natomic,nset,nget,nput,nout,nif,nloop⟩
  ·rw [Zf] at h
   unfold Vq Iq
   dsimp only
   rw [if_pos rfl]
   match us,h with
   |[],_=>rfl
   |[v],h=>
    dsimp only at h
    rw [Ju,if_neg (by simp [h])]
   |[v,x],h=>
    dsimp only at h
    rw [Ju]
    by_cases a:Vo v=true
    ·rw [a] at h
     simp at h
     rw [if_pos a]
     dsimp only
     rw [zb7 1 6 x [] rfl,if_neg (by simp [h])]
    ·rw [if_neg a]
   |v::x::y::r,_=>
    rw [Ju]
    by_cases a:Vo v=true
    ·rw [if_pos a]
     dsimp only
     rw [zb7 1 6 x (y::r) rfl]
     split
     ·rename_i hq
      split at hq
      ·simp at hq
      ·simp at hq
     ·rfl
    ·rw [if_neg a]
  ·rw [Yd] at h
   unfold Vq Ef
   dsimp only
   rw [if_neg yal,if_pos rfl]
   match us,h with
   |[],h=>simp at h
   |_::_,_=>rfl
  ·rw [Sk] at h
   unfold Vq zwb
   dsimp only
   rw [if_neg yal,if_neg yal,if_pos rfl]
   match us,h with
   |[],h=>simp at h
   |_::_,_=>rfl
  ·rw [Zg] at h
   refine hst _ yal yal yal λs hs=>?_
   rw [zcv] at hs
   simp at hs
   rw [hs.2] at h
   simp at h
  ·exact hst _ yal yal yal λs=>by rw [zik];exact zxh us h s
  ·exact hst _ yal yal yal λs=>by rw [zil];exact zxi us h s
  ·exact hst _ yal yal yal λs=>by rw [zim];exact zxj us h s
  ·rw [Eu] at h
   refine hst _ yal yal yal λs hs=>?_
   rw [zin] at hs
   cases hp:gPV us with
   |none=>simp [hp] at hs
   |some p=>
    obtain ⟨p,r⟩:=p
    simp [hp] at hs
    exact zm7 us h p (by rw [hp,hs.2])
  ·rw [zcy] at h
   refine hst _ yal yal yal λs hs=>?_
   rw [zm8] at hs
   cases hp:gPV us with
   |none=>simp [hp] at hs
   |some p=>
    obtain ⟨p,r⟩:=p
    simp [hp] at hs
    exact zm7 us h p (by rw [hp,hs.2])
  ·rw [Uf] at h
   refine hst _ yal yal yal λs hs=>?_
   rw [zej] at hs
   cases hp:gIn 1 4 us with
   |none=>simp [hp] at hs
   |some p=>
    obtain ⟨p,r⟩:=p
    simp [hp] at hs
    exact ztc us h p (by rw [hp,hs.2])
  ·refine hst u nshared nthread nend λs hs=>?_
   unfold Zs at hs
   rw [if_neg nset,if_neg nget,if_neg nput,if_neg nout,if_neg natomic,if_neg nif,if_neg nloop] at hs
   cases hs
def stW:List ByteArray->St
 |[]=>St.atomic
 |u::us=>
  if u=Jz then (match us with|[v,x]=>St.set v (Ff x)|[v,x,y,z]=>St.op v ((Uj y).getD 0) (Ff x) (Ff z)|_=>St.atomic)
  else if u=Vd then (match us with|[v,x]=>St.get v x zPV|[v,x,_,z]=>St.get v x (Ff z)|_=>St.atomic)
  else if u=Va then (match us with|[v,x]=>St.put v zPV (Ff x)|[v,x,_,z]=>St.put v (Ff z) (Ff x)|_=>St.atomic)
  else if u=Vp then (match us with|[v]=>St.out (Ff v)|_=>St.atomic)
  else if u=Fe then (match us with|[v]=>St.iff (Ff v)|_=>St.atomic)
  else if u=Jh then (match us with|[v]=>St.loop ((Qk v).getD 0)|_=>St.atomic)
  else St.atomic
theorem z09(us:List ByteArray)(h:Jr (Jz::us)=true):Zs Jz us=some (stW (Jz::us),[]):=by
 rw [Gu] at h
 rw [zik]
 unfold zn4 stW
 dsimp only
 rw [if_pos rfl]
 match us,h with
 |[],h=>simp at h
 |[v],h=>simp at h
 |[v,x],h=>
  simp at h
  simp [Ju,Vt,h.1,h.2]
 |[v,x,y],h=>simp at h
 |[v,x,y,z],h=>
  simp at h
  obtain ⟨h1,h2,h3,h4⟩:=h
  cases hy:Uj y with
  |none=>simp [hy] at h3
  |some k=>simp [Ju,Vt,Gw,h1,h2,h4,hy]
 |v::x::y::z::t::r,h=>simp at h
theorem z1a(us:List ByteArray)(h:Jr (Vd::us)=true):Zs Vd us=some (stW (Vd::us),[]):=by
 rw [Es] at h
 rw [zil]
 unfold zvd stW
 dsimp only
 rw [if_neg yal,if_pos rfl]
 match us,h with
 |[],h=>simp at h
 |[v],h=>simp at h
 |[v,x],h=>
  simp at h
  simp [Ju,zta,h.1,h.2]
 |[v,x,y],h=>simp at h
 |[v,x,y,z],h=>
  simp at h
  obtain ⟨h1,h2,h3,h4⟩:=h
  simp [Ju,zcu,h1,h2,h3,h4]
 |v::x::y::z::t::r,h=>simp at h
theorem z1b(us:List ByteArray)(h:Jr (Va::us)=true):Zs Va us=some (stW (Va::us),[]):=by
 rw [Et] at h
 rw [zim]
 unfold zve stW
 dsimp only
 rw [if_neg yal,if_neg yal,if_pos rfl]
 match us,h with
 |[],h=>simp at h
 |[v],h=>simp at h
 |[v,x],h=>
  simp at h
  simp [Ju,Vt,zta,h.1,h.2]
 |[v,x,y],h=>simp at h
 |[v,x,y,z],h=>
  simp at h
  obtain ⟨h1,h2,h3,h4⟩:=h
  simp [Ju,Vt,zcu,h1,h2,h3,h4]
 |v::x::y::z::t::r,h=>simp at h
theorem zb8(us:List ByteArray)(h:(match us with|[v]=>isAt v|_=>false)=true): ∃v,us=[v]/\gPV us=some (Ff v,[]):=by
 match us,h with
 |[],h=>simp at h
 |[v],h=>exact ⟨v,rfl,by simp at h;simp [Vt,h]⟩
 |v::x::r,h=>simp at h
theorem zte(st:RS)(u:ByteArray)(us:List ByteArray)(h:Jr (u::us)=true)(n1:u≠Qy)(n2:u≠Qt)(n3:u≠Zd):Vq st (u::us)=gSt st (stW (u::us)):=by
 have hg:Zs u us=some (stW (u::us),[]):=by
  rcases Yk u with rfl|rfl|rfl|rfl|rfl|rfl|rfl|rfl|rfl|rfl|⟨nshared,nthread,nend,natomic,nset,nget,nput,nout,nif,nloop⟩
  ·exact absurd rfl n1
  ·exact absurd rfl n2
  ·exact absurd rfl n3
  ·rw [Zg] at h
   have:us=[]:=yb2
   subst this
   rw [zcv]
   rfl
  ·exact z09 us h
  ·exact z1a us h
  ·exact z1b us h
  ·rw [Eu] at h
   obtain ⟨v,rfl,hp⟩:=zb8 us h
   rw [zin,hp]
   rfl
  ·rw [zcy] at h
   obtain ⟨v,rfl,hp⟩:=zb8 us h
   rw [zm8,hp]
   rfl
  ·rw [Uf] at h
   match us,h with
   |[],h=>simp at h
   |[v],h=>
    simp at h
    rw [zej,zb7 1 4 v [] rfl,if_pos h]
    rfl
   |v::x::r,h=>simp at h
  ·rw [Un us nshared nthread nend natomic nset nget nput nout nif nloop] at h
   cases h
 unfold Vq
 dsimp only
 rw [if_neg n1,if_neg n2,if_neg n3,hg]
structure DR where
 shared:List (ByteArray×Int×Int)
 cells:Int
 thr:List (List NK)
 locals:List ByteArray
 opn:List Nat
 stmts:Nat
theorem zio(hP: ∀j,P j->hs'[j]?=hs[j]?)(hc: ∀j h,P j->hs[j]?=some h->∀k,Sum.inr k∈h.ents->P k):
  ∀(f:Nat) (e:En),(∀k,e= .inr k->P k)->lin hs' f e=lin hs f e
 |f, .inl s,_=>by cases f<;>rfl
 |0, .inr j,_=>rfl
 |f+1, .inr j,hj=>by
  have hpj:=hj j rfl
  simp only [lin]
  rw [hP j hpj]
  match hh:hs[j]? with
  |none=>rfl
  |some ⟨.inl q,es⟩=>rfl
  |some ⟨.inr s,es⟩=>
   have hes:es.flatMap (lin hs' f)=es.flatMap (lin hs f):=by
    have: ∀l:List En,(∀k,Sum.inr k∈l->P k)->l.flatMap (lin hs' f)=l.flatMap (lin hs f):=by
     intro l
     induction l with
     |nil=>intro _;rfl
     |cons e r ih=>
      intro hl
      rw [List.flatMap_cons,List.flatMap_cons,ih λk hk=>hl k (List.mem_cons_of_mem _ hk),zio hP hc f e λk hk=>hl k (by rw [<-hk];simp)]
    exact this es (hc j _ hpj hh)
   simp only [hes]
theorem Xn(hP: ∀j,P j->hs'[j]?=hs[j]?)(hc: ∀j h,P j->hs[j]?=some h->∀k,Sum.inr k∈h.ents->P k)(f:Nat):
  ∀l:List En,(∀k,Sum.inr k∈l->P k)->l.flatMap (lin hs' f)=l.flatMap (lin hs f)
 |[],_=>rfl
 |e::r,hl=>by
  rw [List.flatMap_cons,List.flatMap_cons,Xn hP hc f r λk hk=>hl k (List.mem_cons_of_mem _ hk),zio hP hc f e λk hk=>hl k (by rw [<-hk];simp)]
def Path(hs:List Hd)(P:Nat->Prop):Nat->Nat->Nat->List Nat->List NK->List Nat->Prop
 |f,_,o,[],N,os=>∃h,hs[o]?=some h/\N=h.ents.flatMap (lin hs f)/\os=[]/\ ∀k,Sum.inr k∈h.ents->P k
 |f,base,o,p::ps,N,os=>∃f' h es q s k N' os',f=f'+1/\hs[o]?=some h/\h.ents=es++[.inr p]/\hs[p]?=some q/\q.k= .st s/\zb3 s=[k]/\
   N=es.flatMap (lin hs f)++k::N'/\os=(base+(es.flatMap (lin hs f)).length)::os'/\(∀k,Sum.inr k∈es->P k)/\Path hs P f' (base+(es.flatMap (lin hs f)).length+1) p ps N' os'
section
variable{hs hs':List Hd}{P P':Nat->Prop}
theorem Path.len: ∀{ps:List Nat} {f base o:Nat} {N:List NK} {os:List Nat},Path hs P f base o ps N os->os.length=ps.length
 |[],_,_,_,_,_,⟨_,_,_,e,_⟩=>by rw [e]
 |_::_,_,_,_,_,_,⟨_,_,_,_,_,_,_,_,_,_,_,_,_,_,_,e,_,h⟩=>by rw [e,List.length_cons,List.length_cons,Path.len h]
def zbd(o:Nat)(ps:List Nat):Nat:=ps.getLast?.getD o
theorem Ft(o p:Nat)(ps:List Nat):zbd o (p::ps)=zbd p ps:=by
 unfold zbd
 cases ps with
 |nil=>rfl
 |cons q r=>rw [List.getLast?_cons_cons,List.getLast?_eq_some_getLast (List.cons_ne_nil q r)];rfl
theorem Path.more(hP: ∀j,P j->hs'[j]?=hs[j]?)(hc: ∀j h,P j->hs[j]?=some h->∀k,Sum.inr k∈h.ents->P k)(e:En)(he: ∀k,e= .inr k->P k): ∀{ps:List Nat} {f base o:Nat} {N:List NK} {os:List Nat},
  (∀j∈o::ps,∀h,hs[j]?=some h->∃h',hs'[j]?=some h'/\h'.ents=(if j=zbd o ps then h.ents++[e] else h.ents)/\ ∀s,h.k= .st s->h'.k= .st s)->(o::ps).Nodup ->
  Path hs P f base o ps N os->Path hs' P f base o ps (N++lin hs' (f- ps.length) e) os
 |[],f,base,o,N,os,hn,_,⟨h,h1,h2,h3,h4⟩=>by
  obtain ⟨h',g1,g2,_⟩:=hn o yaj h h1
  rw [if_pos (by rfl)] at g2
  refine ⟨h',g1,?_,h3,?_⟩
  ·rw [g2,List.flatMap_append,Xn hP hc f h.ents h4,h2]
   simp
  ·intro k hk
   rw [g2] at hk
   rcases List.mem_append.1 hk with hk|hk
   ·exact h4 k hk
   ·exact he k (List.mem_singleton.1 hk).symm
 |p::ps,f,base,o,N,os,hn,nd,⟨f',h,es,q,s,k,N',os',e0,h1,h2,h3,h4,h5,h6,h7,h8,h9⟩=>by
  subst e0
  have nd':=(List.nodup_cons.1 nd).2
  have hno:o≠zbd o (p::ps):=z8p
  obtain ⟨h',g1,g2,_⟩:=hn o yaj h h1
  rw [if_neg hno] at g2
  obtain ⟨q',q1,_,q3⟩:=hn p yaj q h3
  have hes:=Xn hP hc (f'+1) es h8
  have ih:=Path.more hP hc e he (λj hj x hx=>by
   have:=hn j (List.mem_cons_of_mem _ hj) x hx
   rwa [Ft] at this) nd' h9
  refine ⟨f',h',es,q',s,k,N'++lin hs' (f'- ps.length) e,os',rfl,g1,g2.trans h2,q1,q3 s h4,h5,?_,?_,h8,?_⟩
  ·rw [h6,hes,List.length_cons,Nat.add_sub_add_right]
   simp
  ·rw [h7,hes]
  ·rw [hes];exact ih
theorem Path.opening(hP: ∀j,P j->hs'[j]?=hs[j]?)(hc: ∀j h,P j->hs[j]?=some h->∀k,Sum.inr k∈h.ents->P k){p0:Nat}{k0:NK}(h0:hs'[p0]?=some ⟨.st s0,[]⟩)(hk0:zb3 s0=[k0]): ∀{ps:List Nat} {f base o:Nat} {N:List NK} {os:List Nat},
  (∀j∈o::ps,∀h,hs[j]?=some h->∃h',hs'[j]?=some h'/\h'.ents=(if j=zbd o ps then h.ents++[.inr p0] else h.ents)/\ ∀s,h.k= .st s->h'.k= .st s)->(o::ps).Nodup->ps.length<f ->
  Path hs P f base o ps N os->Path hs' P f base o (ps++[p0]) (N++[k0]) (os++[base+N.length])
 |[],f,base,o,N,os,hn,_,hf,⟨h,h1,h2,h3,h4⟩=>by
  obtain ⟨h',g1,g2,_⟩:=hn o yaj h h1
  rw [if_pos (by rfl)] at g2
  obtain ⟨f',rfl⟩: ∃f',f=f'+1:=⟨f- 1,by simp at hf;omega⟩
  have hes:=Xn hP hc (f'+1) h.ents h4
  refine ⟨f',h',h.ents,_,s0,k0,[],[],rfl,g1,g2,h0,rfl,hk0,?_,?_,h4,⟨_,h0,rfl,rfl,by simp⟩⟩
  ·rw [hes,<-h2]
  ·rw [hes,<-h2,h3];rfl
 |p::ps,f,base,o,N,os,hn,nd,hf,⟨f',h,es,q,s,k,N',os',e0,h1,h2,h3,h4,h5,h6,h7,h8,h9⟩=>by
  subst e0
  have nd':=(List.nodup_cons.1 nd).2
  have hno:o≠zbd o (p::ps):=z8p
  obtain ⟨h',g1,g2,_⟩:=hn o yaj h h1
  rw [if_neg hno] at g2
  obtain ⟨q',q1,_,q3⟩:=hn p yaj q h3
  have hes:=Xn hP hc (f'+1) es h8
  have ih:=Path.opening hP hc h0 hk0 (λj hj x hx=>by
   have:=hn j (List.mem_cons_of_mem _ hj) x hx
   rwa [Ft] at this) nd' (by simp only [List.length_cons] at hf;omega) h9
  refine ⟨f',h',es,q',s,k,N'++[k0],os'++[base+N.length],rfl,g1,g2.trans h2,q1,q3 s h4,h5,?_,?_,h8,?_⟩
  ·rw [h6,hes]
   simp
  ·rw [h7,hes];rfl
  ·rw [hes]
   have e:base+(es.flatMap (lin hs (f'+1))).length+1+N'.length=base+N.length:=by
    rw [h6,List.length_append,List.length_cons];omega
   rw [e] at ih
   exact ih
theorem Path.shut{p:Nat}(hPP: ∀j,P j->P' j)(hp:P' p)(hk:(hs[p]?).map Hd.k=some (HK.st s0)): ∀{ps:List Nat} {f base o:Nat} {N:List NK} {os:List Nat},
  Path hs P f base o (ps++[p]) N os->Path hs P' f base o ps (N++z0z s0) os.dropLast
 |[],f,base,o,N,os,⟨f',h,es,q,s,k,N',os',e0,h1,h2,h3,h4,h5,h6,h7,h8,⟨h',g1,g2,g3,g4⟩⟩=>by
  subst e0
  have hq:q=h':=by rw [h3] at g1;exact Option.some.inj g1
  subst hq
  have hs0:s=s0:=by
   rw [h3] at hk
   have hk':q.k= .st s0:=Option.some.inj hk
   rw [h4] at hk'
   exact Sum.inr.inj hk'
  subst hs0
  refine ⟨h,h1,?_,?_,?_⟩
  ·rw [h2,List.flatMap_append,h6,g2]
   have:lin hs (f'+1) (.inr p)=zb3 s++(q.ents.flatMap (lin hs f')++z0z s):=by
    simp only [lin]
    obtain ⟨qk,qe⟩:=q
    dsimp only at h4
    subst h4
    rw [h3]
   simp [this,h5]
  ·rw [h7,g3];rfl
  ·intro k hk
   rw [h2] at hk
   rcases List.mem_append.1 hk with hk|hk
   ·exact hPP k (h8 k hk)
   ·have:=List.mem_singleton.1 hk
    cases this
    exact hp
 |p1::ps,f,base,o,N,os,⟨f',h,es,q,s,k,N',os',e0,h1,h2,h3,h4,h5,h6,h7,h8,h9⟩=>by
  subst e0
  have ih:=Path.shut hPP hp hk h9
  have hne:os'≠[]:=by
   intro e
   have:=h9.len
   rw [e] at this
   simp at this
  refine ⟨f',h,es,q,s,k,N'++z0z s0,os'.dropLast,rfl,h1,h2,h3,h4,h5,?_,?_,λk hk=>hPP k (h8 k hk),ih⟩
  ·rw [h6];simp
  ·rw [h7,List.dropLast_cons_of_ne_nil hne]
theorem Path.stands: ∀{ps:List Nat} {f base o:Nat} {N:List NK} {os:List Nat},Path hs P f base o ps N os->∀(i a:Nat),os[i]?=some a->base<=a/\ ∃(p:Nat) (s:St) (k:NK),ps[i]?=some p/\(hs[p]?).map Hd.k=some (HK.st s)/\zb3 s=[k]/\N[a- base]?=some k
 |[],_,_,_,_,_,⟨_,_,_,e,_⟩,i,a,hi=>by rw [e] at hi;simp at hi
 |p::ps,f,base,o,N,os,⟨f',h,es,q,s,k,N',os',e0,h1,h2,h3,h4,h5,h6,h7,h8,h9⟩,i,a,hi=>by
  subst e0
  rw [h7] at hi
  cases i with
  |zero=>
   simp only [List.getElem?_cons_zero,Option.some.injEq] at hi
   subst hi
   refine ⟨Nat.le_add_right _ _,p,s,k,rfl,by rw [h3];simp [h4],h5,?_⟩
   rw [h6,Nat.add_sub_cancel_left,List.getElem?_append_right (Nat.le_refl _),Nat.sub_self]
   rfl
  |succ i=>
   rw [List.getElem?_cons_succ] at hi
   obtain ⟨hb,p',s',k',g1,g2,g3,g4⟩:=Path.stands h9 i a hi
   refine ⟨by omega,p',s',k',by rw [List.getElem?_cons_succ];exact g1,g2,g3,?_⟩
   rw [h6,List.getElem?_append_right yai]
   have:a- base- (es.flatMap (lin hs (f'+1))).length=(a- (base+(es.flatMap (lin hs (f'+1))).length+1))+1:=yai
   rw [this,List.getElem?_cons_succ]
   exact g4
end
def Gc(l:List (ByteArray×Int×Int))(u:ByteArray):Bool:=l.any λp=>decide (p.1=u)
def zhf(d:DR)(N:List NK):Bool:=d.opn.any λo=>decide ((N[o]?).map (·.1)=some 40)
def Gd(inn:Bool):St->Bool
 | .inr (.inr (.inl (_,_,_)))=>inn
 | .inr (.inr (.inr (.inl (_,_,_))))=>inn
 | .inr (.inr (.inr (.inr (.inr (.inl ())))))=>!inn
 |_=>true
def zfv(d:DR)(s:St):Bool:=(Qj s).all (λv=>v.name.toList.isEmpty||Uh d.locals v.name)&&(((Vg s).toList.isEmpty||!Gc d.shared (Vg s))&&(match Xg s with|some f=>Gc d.shared f|none=>true))
def zip(d:DR)(s:St):Bool:=!decide (d.stmts=14)&&(!(!(Vg s).toList.isEmpty&&(!Uh d.locals (Vg s)&&decide (d.locals.length=4)))&&(!Qf s||decide (d.opn.length<=2)))
def z4u(d:DR)(N:List NK)(s:St):DR:=
 if Qf s=true then {d with thr:=d.thr.dropLast++[N++zb3 s],opn:=d.opn++[N.length],stmts:=d.stmts+1}
 else {d with thr:=d.thr.dropLast++[N++[(kL s,0)]],locals:=if (Vg s).toList.isEmpty=false/\Uh d.locals (Vg s)=false then d.locals++[Vg s] else d.locals,stmts:=d.stmts+1}
def dSt(d:DR)(s:St):Except Int DR:=match d.thr.getLast? with
 |none=> .error 3
 |some N=>if Gd (zhf d N) s=false then .error 3 else if zfv d s=false then .error 4 else if zip d s=false then .error 5 else .ok (z4u d N s)
def zo9:Option NK->List NK
 |some k=>if k.1=40 then [(41,0)] else if k.1=108 then [(98,0)] else []
 |none=>[]
def zb9(d:DR):Except Int DR:=match d.opn.getLast?,d.thr.getLast? with
 |some a,some N=> .ok {d with opn:=d.opn.dropLast,thr:=d.thr.dropLast++[N++zo9 N[a]?]}
 |_,_=> .error 3
def Gx(d:DR):Except Int DR:=if 0<d.opn.length then .error 3 else .ok {d with thr:=d.thr++[[]],locals:=[],stmts:=0}
def Ge(d:DR)(x:ByteArray)(n:Int):Except Int DR:=if 0<d.thr.length then .error 3 else if Gc d.shared x=true then .error 4 else .ok {d with shared:=d.shared++[(x,d.cells,n)],cells:=d.cells+n}
def Xw(d:DR):List ByteArray->Except Int DR
 |[]=> .error 2
 |u::us=>if u=Qy then (match us with|[v]=>Ge d v 1|[v,x]=>Ge d v ((Qk x).getD 0)|_=> .error 2)
  else if u=Qt then Gx d else if u=Zd then zb9 d else dSt d (stW (u::us))
def zbn(st:RS)(j:Nat):Prop:=j<st.hs.length/\j∉st.opn
structure Sim(st:RS)(d:DR):Prop where
 sh:d.shared=st.shared
 ce:d.cells=st.cells
 len:d.thr.length=st.threads.length
 nm: ∀p∈st.shared,p.1.toList.isEmpty=false
 no:st.threads=[]->st.opn=[]/\d.opn=[]
 last: ∀tl t,st.threads=tl++[t]->∃ps N,st.opn=t::ps/\(t::ps).Nodup/\st.hk t=some (.thr d.locals d.stmts)/\d.thr.getLast?=some N/\Path st.hs (zbn st) 3 0 t ps N d.opn
 old: ∀i t,i+1<st.threads.length->st.threads[i]?=some t->∃h,st.hs[t]?=some h/\zbn st t/\d.thr[i]?=some (h.ents.flatMap (lin st.hs 3))
 clo: ∀j h,zbn st j->st.hs[j]?=some h->∀k,Sum.inr k∈h.ents->zbn st k
theorem zm9:Sim ⟨[],0,[],[],[]⟩ ⟨[],0,[],[],[],0⟩ where
 sh:=rfl
 ce:=rfl
 len:=rfl
 nm:=λp hp=>by simp at hp
 no:=λ_=>⟨rfl,rfl⟩
 last:=λtl t h=>by simp at h
 old:=λi t h=>by simp at h
 clo:=λj h hj=>by have:=hj.1;simp at this
section
variable{st st':RS}{d:DR}
theorem Sim.share(h:Sim st d)(x:ByteArray)(n:Int)(hx:x.toList.isEmpty=false):Sim {st with shared:=st.shared++[(x,st.cells,n)],cells:=st.cells+n} {d with shared:=d.shared++[(x,d.cells,n)],cells:=d.cells+n} where
 sh:=by show d.shared++_=st.shared++_;rw [h.sh,h.ce]
 ce:=by show d.cells+n=st.cells+n;rw [h.ce]
 len:=h.len
 nm:=λp hp=>by
  rcases List.mem_append.1 hp with hp|hp
  ·exact h.nm p hp
  ·rw [List.mem_singleton.1 hp];exact hx
 no:=h.no
 last:=h.last
 old:=h.old
 clo:=h.clo
theorem zk8(h:Sim st d)(u:ByteArray):Gc d.shared u=st.isSh u:=by unfold Gc RS.isSh;rw [h.sh]
theorem Path.mono{P':Nat->Prop}(hPP: ∀j,P j->P' j): ∀{ps:List Nat} {f base o:Nat} {N:List NK} {os:List Nat},Path hs P f base o ps N os->Path hs P' f base o ps N os
 |[],_,_,_,_,_,⟨h,h1,h2,h3,h4⟩=>⟨h,h1,h2,h3,λk hk=>hPP k (h4 k hk)⟩
 |_::_,_,_,_,_,_,⟨f',h,es,q,s,k,N',os',e0,h1,h2,h3,h4,h5,h6,h7,h8,h9⟩=>⟨f',h,es,q,s,k,N',os',e0,h1,h2,h3,h4,h5,h6,h7,λk hk=>hPP k (h8 k hk),Path.mono hPP h9⟩
theorem Sim.newT(h:Sim st d){k:Nat}(hok:st.Ok k)(ho: ¬1<st.opn.length):Sim st.newT {d with thr:=d.thr++[[]],locals:=[],stmts:=0}/\d.opn=[]:=by
 have hs': ∀j,j<st.hs.length->st.newT.hs[j]?=st.hs[j]?:=λj hj=>by
  show (st.hs++_)[j]?=_
  rw [List.getElem?_append_left hj]
 have hsh: ∀j,zbn st.newT j↔j<st.hs.length:=λj=>by
  unfold zbn RS.newT
  simp
  omega
 have hd:d.opn=[]/\ ∀tl t,st.threads=tl++[t]->st.opn=[t]:=by
  rcases List.eq_nil_or_concat st.threads with e|⟨tl,t,e⟩
  ·exact ⟨(h.no e).2,λtl t e'=>by rw [e] at e';simp at e'⟩
  ·rw [List.concat_eq_append] at e
   obtain ⟨ps,N,h1,_,_,_,h5⟩:=h.last tl t e
   have:ps=[]:=by
    cases ps with
    |nil=>rfl
    |cons p r=>rw [h1] at ho;simp at ho
   subst this
   refine ⟨List.length_eq_zero_iff.1 h5.len,λtl' t' e'=>?_⟩
   rw [e] at e'
   have:=List.append_inj_right' e' rfl
   rw [h1]
   exact this
 have hent: ∀(j:Nat) (x:Hd),st.hs[j]?=some x->∀k,Sum.inr k∈x.ents->k<st.hs.length:=λj x hx k hk=>hok.ent.1 x (List.mem_of_getElem? hx) k hk
 have hfr: ∀(x:Hd) (j:Nat),st.hs[j]?=some x->x.ents.flatMap (lin st.newT.hs 3)=x.ents.flatMap (lin st.hs 3):=λx j hx=>
  Xn (P:=λj=>j<st.hs.length) hs' (λj x _ hx k hk=>hent j x hx k hk) 3 x.ents (hent j x hx)
 refine ⟨{sh:=h.sh,ce:=h.ce,len:=by show (d.thr++[[]]).length=(st.threads++[st.hs.length]).length;simp [h.len],nm:=h.nm,no:=λe=>by simp [RS.newT] at e,last:=?_,old:=?_,clo:=?_},hd.1⟩
 ·intro tl t e
  have et:t=st.hs.length:=by
   have e':st.threads++[st.hs.length]=tl++[t]:=e
   have:=List.append_inj_right' e' rfl
   simpa using this.symm
  subst et
  refine ⟨[],[],rfl,by simp,?_,by simp,⟨⟨.thr [] 0,[]⟩,?_,rfl,hd.1,by simp⟩⟩
  ·show ((st.hs++[_])[st.hs.length]?).map _=_
   simp
  ·show (st.hs++[_])[st.hs.length]?=_
   simp
 ·intro i t hi ht
  have hi':i<st.threads.length:=by
   have:i+1<(st.threads++[st.hs.length]).length:=hi
   simpa using this
  have ht':st.threads[i]?=some t:=by
   have:(st.threads++[st.hs.length])[i]?=some t:=ht
   rwa [List.getElem?_append_left hi'] at this
  have hthr:(d.thr++[[]])[i]?=d.thr[i]?:=List.getElem?_append_left (by rw [h.len];exact hi')
  by_cases hl:i+1<st.threads.length
  ·obtain ⟨x,x1,x2,x3⟩:=h.old i t hl ht'
   refine ⟨x,by rw [hs' t x2.1];exact x1,(hsh t).2 x2.1,?_⟩
   show (d.thr++[[]])[i]?=_
   rw [hthr,x3,hfr x t x1]
  ·rcases List.eq_nil_or_concat st.threads with e|⟨tl,t2,e⟩
   ·rw [e] at hi';simp at hi'
   ·rw [List.concat_eq_append] at e
    have hil:i=tl.length:=by rw [e] at hi' hl;simp at hi' hl;omega
    have htt:t2=t:=by
     rw [e,hil] at ht'
     simpa using ht'
    subst htt
    obtain ⟨ps,N,h1,_,h3,h4,h5⟩:=h.last tl t2 e
    have:ps=[]:=by
     have:=hd.2 tl t2 e
     rw [h1] at this
     simpa using this
    subst this
    obtain ⟨x,x1,x2,_,_⟩:=h5
    have hlt:t2<st.hs.length:=(List.getElem?_eq_some_iff.1 x1).1
    refine ⟨x,by rw [hs' t2 hlt];exact x1,(hsh t2).2 hlt,?_⟩
    show (d.thr++[[]])[i]?=_
    rw [hthr,hfr x t2 x1,<-x2,<-h4,List.getLast?_eq_getElem?,h.len,hil,e]
    simp
 ·intro j x hj hx k hk
  have hj':=(hsh j).1 hj
  rw [hs' j hj'] at hx
  exact (hsh k).2 (hent j x hx k hk)
end
section
variable{st st':RS}{d:DR}{k t o:Nat}{tl ol:List Nat}
theorem Sim.olds(h:Sim st d)(hP: ∀j,zbn st j->st'.hs[j]?=st.hs[j]?)(hsh: ∀j,zbn st j->zbn st' j)(hth:st'.threads=st.threads)(X:List NK):
  ∀i t,i+1<st'.threads.length->st'.threads[i]?=some t->∃h,st'.hs[t]?=some h/\zbn st' t/\(d.thr.dropLast++[X])[i]?=some (h.ents.flatMap (lin st'.hs 3)):=by
 intro i t hi ht
 rw [hth] at hi ht
 obtain ⟨x,x1,x2,x3⟩:=h.old i t hi ht
 refine ⟨x,(hP t x2).trans x1,hsh t x2,?_⟩
 have hl:=h.len
 rw [List.getElem?_append_left (by rw [List.length_dropLast];omega),List.getElem?_dropLast,if_pos yai,x3]
 rw [Xn hP h.clo 3 x.ents (h.clo t x x2 x1)]
theorem Sim.clos(h:Sim st d)(hP: ∀j,zbn st j->st'.hs[j]?=st.hs[j]?)(hsh: ∀j,zbn st' j↔zbn st j): ∀j h,zbn st' j->st'.hs[j]?=some h->∀k,Sum.inr k∈h.ents->zbn st' k:=by
 intro j x hj hx k hk
 have hj':=(hsh j).1 hj
 rw [hP j hj'] at hx
 exact (hsh k).2 (h.clo j x hj' hx k hk)
theorem zna{ps:List Nat}(h:t::ps=ol++[o]):zbd t ps=o:=by
 have:(t::ps).getLast?=some o:=by rw [h];simp
 unfold zbd
 cases ps with
 |nil=>simpa using this
 |cons p r=>
  rw [List.getLast?_cons_cons] at this
  rw [this];rfl
theorem zk9(h:Sim st d)(hth:st.threads=tl++[t])(X:List NK):(d.thr.dropLast++[X]).length=st.threads.length:=by
 have:=h.len
 rw [List.length_append,List.length_dropLast,this,hth]
 simp
theorem Sim.leaf(h:Sim st d)(hth:st.threads=tl++[t])(ho:st.opn=ol++[o])(s:St)(l':List ByteArray)(c':Nat)
  (hsame:st'.shared=st.shared/\st'.cells=st.cells/\st'.threads=st.threads/\st'.opn=st.opn) (hget: ∀j,st'.hs[j]?=(st.hs[j]?).map (Zv t o (.thr l' c') (.leaf s) j))
   (hN:d.thr.getLast?=some N):Sim st' {d with thr:=d.thr.dropLast++[N++[(kL s,0)]],locals:=l',stmts:=c'}:=by
 obtain ⟨s1,s2,s3,s4⟩:=hsame
 obtain ⟨ps,N',h1,h2,h3,h4,h5⟩:=h.last tl t hth
 have:N'=N:=Option.some.inj (h4.symm.trans hN)
 subst this
 have hlen:=Yp hget
 have hto:t∈st.opn:=by rw [h1];simp
 have hoo:o∈st.opn:=yas
 have hP: ∀j,zbn st j->st'.hs[j]?=st.hs[j]?:=λj hj=>by
  rw [hget j]
  have e1:j≠t:=λe=>hj.2 (e▸hto)
  have e2:j≠o:=λe=>hj.2 (e▸hoo)
  cases hx:st.hs[j]? with
  |none=>rfl
  |some x=>simp [Zv,e1,e2]
 have hsh: ∀j,zbn st' j↔zbn st j:=λj=>by unfold zbn;rw [hlen,s4]
 refine {sh:=h.sh.trans s1.symm,ce:=h.ce.trans s2.symm,len:=?_,nm:=by rw [s1];exact h.nm,no:=λe=>?_,last:=?_,old:=h.olds hP (λj hj=>(hsh j).2 hj) s3 _,clo:=h.clos hP hsh}
 ·show (d.thr.dropLast++[_]).length=_
  rw [s3]
  exact zk9 h hth _
 ·rw [s3,hth] at e;simp at e
 ·intro tl' t' e
  have:t'=t:=by
   rw [s3,hth] at e
   have:=List.append_inj_right' e rfl
   simpa using this.symm
  subst this
  obtain ⟨x,x1,x2⟩:=Yy h3
  refine ⟨ps,N'++[(kL s,0)],by rw [s4];exact h1,h2,?_,by simp,?_⟩
  ·unfold RS.hk
   rw [hget t',x1]
   simp [Zv]
  ·have hp:=Path.more hP h.clo (.inl s) (λk e=>by cases e) (λj hj y hy=>⟨Zv t' o (.thr l' c') (.leaf s) j y,by rw [hget j,hy];rfl,by
    rw [zna (h1.symm.trans ho)]
    rfl,λs0 hs0=>by
    have:j≠t':=yah
    simp [Zv,this,hs0]⟩) h2 h5
   have e0: ∀f,lin st'.hs f (.inl s)=[(kL s,0)]:=λf=>by cases f<;>rfl
   rw [e0] at hp
   exact hp.mono λj hj=>(hsh j).2 hj
theorem zpa{s:St}(h:Qf s=true): ∃k,zb3 s=[k]:=by
 rcases s with ⟨to,a⟩|⟨to,k,a,c⟩|⟨to,f,a⟩|⟨f,a,c⟩|a|⟨⟩|a|n
 ·simp [Qf] at h
 ·simp [Qf] at h
 ·simp [Qf] at h
 ·simp [Qf] at h
 ·simp [Qf] at h
 ·exact ⟨_,rfl⟩
 ·exact ⟨_,rfl⟩
 ·exact ⟨_,rfl⟩
theorem Sim.hold(h:Sim st d)(hok:st.Ok k)(hth:st.threads=tl++[t])(ho:st.opn=ol++[o])(hd:st.opn.length<=3)(s:St)(hh:Qf s=true)(l':List ByteArray)(c':Nat)
  (hsame:st'.shared=st.shared/\st'.cells=st.cells/\st'.threads=st.threads/\st'.opn=st.opn++[st.hs.length]) (hget: ∀j,st'.hs[j]?=((st.newH s).hs[j]?).map (Zv t o (.thr l' c') (.sub st.hs.length) j))
   (hN:d.thr.getLast?=some N):Sim st' {d with thr:=d.thr.dropLast++[N++zb3 s],opn:=d.opn++[N.length],locals:=l',stmts:=c'}:=by
 obtain ⟨s1,s2,s3,s4⟩:=hsame
 obtain ⟨ps,N',h1,h2,h3,h4,h5⟩:=h.last tl t hth
 have:N'=N:=Option.some.inj (h4.symm.trans hN)
 subst this
 obtain ⟨k0,hk0⟩:=zpa hh
 have hlen:st'.hs.length=st.hs.length+1:=by rw [Yp hget];simp [RS.newH]
 have hto:t∈st.opn:=by rw [h1];simp
 have hoo:o∈st.opn:=yas
 have hlt: ∀j∈st.opn,j<st.hs.length:=hok.ent.2.2
 have hnew: ∀j,j<st.hs.length->(st.newH s).hs[j]?=st.hs[j]?:=λj hj=>by
  show (st.hs++_)[j]?=_
  rw [List.getElem?_append_left hj]
 have hP: ∀j,zbn st j->st'.hs[j]?=st.hs[j]?:=λj hj=>by
  rw [hget j,hnew j hj.1]
  have e1:j≠t:=λe=>hj.2 (e▸hto)
  have e2:j≠o:=λe=>hj.2 (e▸hoo)
  cases hx:st.hs[j]? with
  |none=>rfl
  |some x=>simp [Zv,e1,e2]
 have hsh: ∀j,zbn st' j↔zbn st j:=λj=>by
  unfold zbn
  rw [hlen,s4]
  simp only [List.mem_append,List.mem_singleton,not_or]
  constructor
  ·rintro ⟨a,b,c⟩;exact ⟨by omega,b⟩
  ·rintro ⟨a,b⟩;exact ⟨by omega,b,by omega⟩
 have h0:st'.hs[st.hs.length]?=some ⟨.st s,[]⟩:=by
  rw [hget]
  have:(st.newH s).hs[st.hs.length]?=some ⟨.st s,[]⟩:=ybm
  rw [this]
  have e1:st.hs.length≠t:=λe=>by have:=hlt t hto;omega
  have e2:st.hs.length≠o:=λe=>by have:=hlt o hoo;omega
  simp [Zv,e1,e2]
 refine {sh:=h.sh.trans s1.symm,ce:=h.ce.trans s2.symm,len:=?_,nm:=by rw [s1];exact h.nm,no:=λe=>?_,last:=?_,old:=h.olds hP (λj hj=>(hsh j).2 hj) s3 _,clo:=h.clos hP hsh}
 ·show (d.thr.dropLast++[_]).length=_
  rw [s3]
  exact zk9 h hth _
 ·rw [s3,hth] at e;simp at e
 ·intro tl' t' e
  have:t'=t:=by
   rw [s3,hth] at e
   have:=List.append_inj_right' e rfl
   simpa using this.symm
  subst this
  obtain ⟨x,x1,x2⟩:=Yy h3
  refine ⟨ps++[st.hs.length],N'++zb3 s,by rw [s4,h1];rfl,?_,?_,by simp,?_⟩
  ·have:(t'::(ps++[st.hs.length]))=(t'::ps)++[st.hs.length]:=rfl
   rw [this,List.nodup_append]
   refine ⟨h2,by simp,λa ha b hb=>?_⟩
   have:=List.mem_singleton.1 hb
   subst this
   have:=hlt a (by rw [h1];exact ha)
   omega
  ·unfold RS.hk
   rw [hget t',hnew t' (hlt t' hto),x1]
   simp [Zv]
  ·have hp:=Path.opening hP h.clo h0 hk0 (λj hj y hy=>⟨Zv t' o (.thr l' c') (.sub st.hs.length) j y,by rw [hget j,hnew j (hlt j (by rw [h1];exact hj)),hy];rfl,by
    rw [zna (h1.symm.trans ho)]
    rfl,λs0 hs0=>by
    have:j≠t':=yah
    simp [Zv,this,hs0]⟩) h2 (by rw [h1] at hd;simp at hd;omega) h5
   rw [hk0]
   have:0+N'.length=N'.length:=Nat.zero_add _
   rw [this] at hp
   exact hp.mono λj hj=>(hsh j).2 hj
end
end Go.Proofs.YtphcopbffecceaaGreatDoor
