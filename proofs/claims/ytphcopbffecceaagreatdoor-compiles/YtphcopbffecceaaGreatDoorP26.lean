import Derived.Test.YtphcopbffecceaaGreatDoorP25
set_option maxRecDepth 100000
set_option maxHeartbeats 2000000
namespace Go.Proofs.YtphcopbffecceaaGreatDoor
open Go.RowKit
variable{L T a bp br c c1 c2 c3 cap cn co cp ct fuel g g1 g2 g3 gn go gt j n o sz:Nat}{N:List NK}{xs:List Value}{w w' w3:World}{sv v wsv x x1:Value}{k:NK}{os ps:List Nat}{hs hs':List Hd}{D P:Nat->Prop}{s s0:St}{p:Option Addr}{st:RS}{lab:Nat->Nat×Nat}{e t:TypeId}{l:Nat×Nat}{u:ByteArray}{b:Bool}{M:Nat->Nat->Prop}{dp:Int}{listed:Array Bool}
def Ff(u:ByteArray):PV:=if Vo u=true then ⟨u,0⟩ else ⟨ByteArray.empty,(Qk u).getD 0⟩
theorem Vt(u:ByteArray)(ws:List ByteArray):gPV (u::ws)=if isAt u=true then some (Ff u,ws) else none:=by
 unfold gPV isAt Ff
 by_cases h:Vo u=true
 ·simp [h]
 ·have h':Vo u=false:=by simpa using h
  cases hn:Qk u with
  |none=>simp [h',hn]
  |some v=>simp [h',hn]
theorem zb7(lo hi:Int)(u:ByteArray)(ws:List ByteArray)(h1:lo=1):gIn lo hi (u::ws)=if Sx hi u=true then some ((Qk u).getD 0,ws) else none:=by
 subst h1
 unfold gIn Sx
 cases hn:Qk u with
 |none=>simp [zco,hn]
 |some n=>simp [zco,hn]
theorem Gw(u:ByteArray)(ws:List ByteArray):gOp (u::ws)=(Uj u).map λk=>(k,ws):=rfl
theorem zcu(u v:ByteArray)(ws:List ByteArray):gAt (u::v::ws)=if (decide (u=wAt)&&isAt v)=true then some (Ff v,ws) else none:=by
 unfold gAt
 by_cases h:u=wAt
 ·simp [h,Vt]
 ·simp [h]
theorem zei:gPV []=none:=rfl
theorem Ju(u:ByteArray)(ws:List ByteArray):gNm (u::ws)=if Vo u=true then some (u,ws) else none:=rfl
theorem zxh(us:List ByteArray)(h:Jr (Jz::us)=false): ∀s,zn4 us≠some (s,[]):=by
 intro s hs
 rw [Gu] at h
 unfold zn4 at hs
 match us,h,hs with
 |[],_,hs=>simp [gNm] at hs
 |[v],_,hs=>
  rw [Ju] at hs
  by_cases a:Vo v=true
  ·simp [a,zei] at hs
  ·simp [a] at hs
 |[v,x],h,hs=>exact z9l
 |[v,x,y],_,hs=>
  rw [Ju] at hs
  by_cases a:Vo v=true
  ·by_cases b:isAt x=true
   ·cases hy:Uj y with
    |none=>simp [a,b,Vt,Gw,hy] at hs
    |some k=>simp [a,b,Vt,Gw,hy,zei] at hs
   ·simp [a,b,Vt] at hs
  ·simp [a] at hs
 |[v,x,y,z],h,hs=>
  rw [Ju] at hs
  by_cases a:Vo v=true
  ·by_cases b:isAt x=true
   ·cases hy:Uj y with
    |none=>simp [a,b,Vt,Gw,hy] at hs
    |some k=>
     by_cases e:isAt z=true
     ·simp [a,b,e,hy] at h
     ·simp [a,b,Vt,Gw,hy,e] at hs
   ·simp [a,b,Vt] at hs
  ·simp [a] at hs
 |v::x::y::z::t::r,_,hs=>
  rw [Ju] at hs
  by_cases a:Vo v=true
  ·by_cases b:isAt x=true
   ·cases hy:Uj y with
    |none=>simp [a,b,Vt,Gw,hy] at hs
    |some k=>
     by_cases e:isAt z=true
     ·simp [a,b,Vt,Gw,hy,e] at hs
     ·simp [a,b,Vt,Gw,hy,e] at hs
   ·simp [a,b,Vt] at hs
  ·simp [a] at hs
theorem zta:gAt []=some (zPV,[]):=rfl
theorem ztb(y:ByteArray):gAt [y]=none:=by
 show (if y=wAt then gPV [] else none)=none
 rw [zei]
 split<;>rfl
theorem zxi(us:List ByteArray)(h:Jr (Vd::us)=false): ∀s,zvd us≠some (s,[]):=by
 intro s hs
 rw [Es] at h
 unfold zvd at hs
 match us,h,hs with
 |[],_,hs=>simp [gNm] at hs
 |[v],_,hs=>
  rw [Ju] at hs
  by_cases a:Vo v=true
  ·simp [a,gNm] at hs
  ·simp [a] at hs
 |[v,x],h,hs=>
  rw [Ju] at hs
  by_cases a:Vo v=true
  ·by_cases b:Vo x=true
   ·simp [a,b] at h
   ·simp [a,b,Ju] at hs
  ·simp [a] at hs
 |[v,x,y],_,hs=>
  rw [Ju] at hs
  by_cases a:Vo v=true
  ·by_cases b:Vo x=true
   ·simp [a,b,Ju,ztb] at hs
   ·simp [a,b,Ju] at hs
  ·simp [a] at hs
 |[v,x,y,z],h,hs=>
  rw [Ju] at hs
  by_cases a:Vo v=true
  ·by_cases b:Vo x=true
   ·by_cases e:(decide (y=wAt)&&isAt z)=true
    ·dsimp only at h;rw [a,b,e] at h;simp at h
    ·exact yad
   ·simp [a,b,Ju] at hs
  ·simp [a] at hs
 |v::x::y::z::t::r,_,hs=>
  rw [Ju] at hs
  by_cases a:Vo v=true
  ·by_cases b:Vo x=true
   ·by_cases e:(decide (y=wAt)&&isAt z)=true
    ·rw [if_pos a,Option.bind_some,Ju,if_pos b,Option.bind_some,zcu,if_pos e] at hs
     simp at hs
    ·exact yad
   ·simp [a,b,Ju] at hs
  ·simp [a] at hs
theorem zxj(us:List ByteArray)(h:Jr (Va::us)=false): ∀s,zve us≠some (s,[]):=by
 intro s hs
 rw [Et] at h
 unfold zve at hs
 match us,h,hs with
 |[],_,hs=>simp [gNm] at hs
 |[v],_,hs=>
  rw [Ju] at hs
  by_cases a:Vo v=true
  ·simp [a,zei] at hs
  ·simp [a] at hs
 |[v,x],h,hs=>exact z9l
 |[v,x,y],_,hs=>
  rw [Ju] at hs
  by_cases a:Vo v=true
  ·by_cases b:isAt x=true
   ·simp [a,b,Vt,ztb] at hs
   ·simp [a,b,Vt] at hs
  ·simp [a] at hs
 |[v,x,y,z],h,hs=>
  rw [Ju] at hs
  by_cases a:Vo v=true
  ·by_cases b:isAt x=true
   ·by_cases e:(decide (y=wAt)&&isAt z)=true
    ·dsimp only at h;rw [a,b,e] at h;simp at h
    ·exact yac
   ·simp [a,b,Vt] at hs
  ·simp [a] at hs
 |v::x::y::z::t::r,_,hs=>
  rw [Ju] at hs
  by_cases a:Vo v=true
  ·by_cases b:isAt x=true
   ·by_cases e:(decide (y=wAt)&&isAt z)=true
    ·rw [if_pos a,Option.bind_some,Vt,if_pos b,Option.bind_some,zcu,if_pos e] at hs
     simp at hs
    ·exact yac
   ·simp [a,b,Vt] at hs
  ·simp [a] at hs
theorem zm7(us:List ByteArray)(h:(match us with|[v]=>isAt v|_=>false)=false): ∀p,gPV us≠some (p,[]):=by
 intro p hp
 match us,h,hp with
 |[],_,hp=>simp [zei] at hp
 |[v],h,hp=>simp at h;simp [Vt,h] at hp
 |v::x::r,_,hp=>
  rw [Vt] at hp
  split at hp
  ·simp at hp
  ·simp at hp
theorem ztc(us:List ByteArray)(h:(match us with|[v]=>Sx 4 v|_=>false)=false): ∀p,gIn 1 4 us≠some (p,[]):=by
 intro p hp
 match us,h,hp with
 |[],_,hp=>simp [gIn,zco] at hp
 |[v],h,hp=>simp at h;rw [zb7 1 4 v [] rfl,if_neg (by simp [h])] at hp;simp at hp
 |v::x::r,_,hp=>
  rw [zb7 1 4 v (x::r) rfl] at hp
  split at hp
  ·simp at hp
  ·simp at hp
theorem zik(us:List ByteArray):Zs Jz us=zn4 us:=by
 unfold Zs
 rw [if_pos rfl]
theorem zil(us:List ByteArray):Zs Vd us=zvd us:=by
 unfold Zs
 rw [if_neg (show ¬Vd=Jz by decide),if_pos rfl]
theorem zim(us:List ByteArray):Zs Va us=zve us:=by
 unfold Zs
 rw [if_neg (show ¬Va=Jz by decide),if_neg (show ¬Va=Vd by decide),if_pos rfl]
theorem zin(us:List ByteArray):Zs Vp us=(gPV us).map λp=>(St.out p.1,p.2):=by
 unfold Zs
 rw [if_neg (show ¬Vp=Jz by decide),if_neg (show ¬Vp=Vd by decide),if_neg (show ¬Vp=Va by decide),if_pos rfl]
theorem zcv(us:List ByteArray):Zs Qs us=some (St.atomic,us):=by
 unfold Zs
 rw [if_neg (show ¬Qs=Jz by decide),if_neg (show ¬Qs=Vd by decide),if_neg (show ¬Qs=Va by decide),if_neg (show ¬Qs=Vp by decide),if_pos rfl]
theorem zm8(us:List ByteArray):Zs Fe us=(gPV us).map λp=>(St.iff p.1,p.2):=by
 unfold Zs
 rw [if_neg (show ¬Fe=Jz by decide),if_neg (show ¬Fe=Vd by decide),if_neg (show ¬Fe=Va by decide),if_neg (show ¬Fe=Vp by decide),if_neg (show ¬Fe=Qs by decide),if_pos rfl]
theorem zej(us:List ByteArray):Zs Jh us=(gIn 1 4 us).map λp=>(St.loop p.1,p.2):=by
 unfold Zs
 rw [if_neg (show ¬Jh=Jz by decide),if_neg (show ¬Jh=Vd by decide),if_neg (show ¬Jh=Va by decide),if_neg (show ¬Jh=Vp by decide),if_neg (show ¬Jh=Qs by decide),if_neg (show ¬Jh=Fe by decide),if_pos rfl]
theorem ztd(st:RS)(ws:List ByteArray)(h:Jr ws=false):Vq st ws= .error 2:=by
 match ws,h with
 |[],_=>rfl
 |u::us,h=>
  have hst: ∀u,u≠Qy->u≠Qt->u≠Zd->(∀s,Zs u us≠some (s,[]))->Vq st (u::us)= .error 2:=by
   intro u n1 n2 n3 hn
   unfold Vq
   dsimp only
   rw [if_neg n1,if_neg n2,if_neg n3]
   match hg:Zs u us,hn with
   |none,_=>rfl
   |some (s,[]),hn=>exact absurd rfl (hn s)
   |some (s,_::_),_=>rfl
  rcases Yk u with rfl|rfl|rfl|rfl|rfl|rfl|rfl|rfl|rfl|rfl|⟨nshared,nthread,nend,natomic,nset,nget,nput,nout,nif,nloop⟩
  ·rw [Zf] at h
   unfold Vq Iq
   dsimp only
   rw [if_pos rfl]
   match us,h with
   |[],_=>rfl
   |[v],h=>
    dsimp only at h
    rw [Ju,if_neg (by simp [h])]
   |[v,x],h=>
    dsimp only at h
    rw [Ju]
    by_cases a:Vo v=true
    ·rw [a] at h
     simp at h
     rw [if_pos a]
     dsimp only
     rw [zb7 1 6 x [] rfl,if_neg (by simp [h])]
    ·rw [if_neg a]
   |v::x::y::r,_=>
    rw [Ju]
    by_cases a:Vo v=true
    ·rw [if_pos a]
     dsimp only
     rw [zb7 1 6 x (y::r) rfl]
     split
     ·rename_i hq
      split at hq
      ·simp at hq
      ·simp at hq
     ·rfl
    ·rw [if_neg a]
  ·rw [Yd] at h
   unfold Vq Ef
   dsimp only
   rw [if_neg yal,if_pos rfl]
   match us,h with
   |[],h=>simp at h
   |_::_,_=>rfl
  ·rw [Sk] at h
   unfold Vq zwb
   dsimp only
   rw [if_neg yal,if_neg yal,if_pos rfl]
   match us,h with
   |[],h=>simp at h
   |_::_,_=>rfl
  ·rw [Zg] at h
   refine hst _ yal yal yal λs hs=>?_
   rw [zcv] at hs
   simp at hs
   rw [hs.2] at h
   simp at h
  ·exact hst _ yal yal yal λs=>by rw [zik];exact zxh us h s
  ·exact hst _ yal yal yal λs=>by rw [zil];exact zxi us h s
  ·exact hst _ yal yal yal λs=>by rw [zim];exact zxj us h s
  ·rw [Eu] at h
   refine hst _ yal yal yal λs hs=>?_
   rw [zin] at hs
   cases hp:gPV us with
   |none=>simp [hp] at hs
   |some p=>
    obtain ⟨p,r⟩:=p
    simp [hp] at hs
    exact zm7 us h p (by rw [hp,hs.2])
  ·rw [zcy] at h
   refine hst _ yal yal yal λs hs=>?_
   rw [zm8] at hs
   cases hp:gPV us with
   |none=>simp [hp] at hs
   |some p=>
    obtain ⟨p,r⟩:=p
    simp [hp] at hs
    exact zm7 us h p (by rw [hp,hs.2])
  ·rw [Uf] at h
   refine hst _ yal yal yal λs hs=>?_
   rw [zej] at hs
   cases hp:gIn 1 4 us with
   |none=>simp [hp] at hs
   |some p=>
    obtain ⟨p,r⟩:=p
    simp [hp] at hs
    exact ztc us h p (by rw [hp,hs.2])
  ·refine hst u nshared nthread nend λs hs=>?_
   unfold Zs at hs
   rw [if_neg nset,if_neg nget,if_neg nput,if_neg nout,if_neg natomic,if_neg nif,if_neg nloop] at hs
   cases hs
def stW:List ByteArray->St
 |[]=>St.atomic
 |u::us=>
  if u=Jz then (match us with|[v,x]=>St.set v (Ff x)|[v,x,y,z]=>St.op v ((Uj y).getD 0) (Ff x) (Ff z)|_=>St.atomic)
  else if u=Vd then (match us with|[v,x]=>St.get v x zPV|[v,x,_,z]=>St.get v x (Ff z)|_=>St.atomic)
  else if u=Va then (match us with|[v,x]=>St.put v zPV (Ff x)|[v,x,_,z]=>St.put v (Ff z) (Ff x)|_=>St.atomic)
  else if u=Vp then (match us with|[v]=>St.out (Ff v)|_=>St.atomic)
  else if u=Fe then (match us with|[v]=>St.iff (Ff v)|_=>St.atomic)
  else if u=Jh then (match us with|[v]=>St.loop ((Qk v).getD 0)|_=>St.atomic)
  else St.atomic
theorem z09(us:List ByteArray)(h:Jr (Jz::us)=true):Zs Jz us=some (stW (Jz::us),[]):=by
 rw [Gu] at h
 rw [zik]
 unfold zn4 stW
 dsimp only
 rw [if_pos rfl]
 match us,h with
 |[],h=>simp at h
 |[v],h=>simp at h
 |[v,x],h=>
  simp at h
  simp [Ju,Vt,h.1,h.2]
 |[v,x,y],h=>simp at h
 |[v,x,y,z],h=>
  simp at h
  obtain ⟨h1,h2,h3,h4⟩:=h
  cases hy:Uj y with
  |none=>simp [hy] at h3
  |some k=>simp [Ju,Vt,Gw,h1,h2,h4,hy]
 |v::x::y::z::t::r,h=>simp at h
theorem z1a(us:List ByteArray)(h:Jr (Vd::us)=true):Zs Vd us=some (stW (Vd::us),[]):=by
 rw [Es] at h
 rw [zil]
 unfold zvd stW
 dsimp only
 rw [if_neg yal,if_pos rfl]
 match us,h with
 |[],h=>simp at h
 |[v],h=>simp at h
 |[v,x],h=>
  simp at h
  simp [Ju,zta,h.1,h.2]
 |[v,x,y],h=>simp at h
 |[v,x,y,z],h=>
  simp at h
  obtain ⟨h1,h2,h3,h4⟩:=h
  simp [Ju,zcu,h1,h2,h3,h4]
 |v::x::y::z::t::r,h=>simp at h
theorem z1b(us:List ByteArray)(h:Jr (Va::us)=true):Zs Va us=some (stW (Va::us),[]):=by
 rw [Et] at h
 rw [zim]
 unfold zve stW
 dsimp only
 rw [if_neg yal,if_neg yal,if_pos rfl]
 match us,h with
 |[],h=>simp at h
 |[v],h=>simp at h
 |[v,x],h=>
  simp at h
  simp [Ju,Vt,zta,h.1,h.2]
 |[v,x,y],h=>simp at h
 |[v,x,y,z],h=>
  simp at h
  obtain ⟨h1,h2,h3,h4⟩:=h
  simp [Ju,Vt,zcu,h1,h2,h3,h4]
 |v::x::y::z::t::r,h=>simp at h
theorem zb8(us:List ByteArray)(h:(match us with|[v]=>isAt v|_=>false)=true): ∃v,us=[v]/\gPV us=some (Ff v,[]):=by
 match us,h with
 |[],h=>simp at h
 |[v],h=>exact ⟨v,rfl,by simp at h;simp [Vt,h]⟩
 |v::x::r,h=>simp at h
theorem zte(st:RS)(u:ByteArray)(us:List ByteArray)(h:Jr (u::us)=true)(n1:u≠Qy)(n2:u≠Qt)(n3:u≠Zd):Vq st (u::us)=gSt st (stW (u::us)):=by
 have hg:Zs u us=some (stW (u::us),[]):=by
  rcases Yk u with rfl|rfl|rfl|rfl|rfl|rfl|rfl|rfl|rfl|rfl|⟨nshared,nthread,nend,natomic,nset,nget,nput,nout,nif,nloop⟩
  ·exact absurd rfl n1
  ·exact absurd rfl n2
  ·exact absurd rfl n3
  ·rw [Zg] at h
   have:us=[]:=yb2
   subst this
   rw [zcv]
   rfl
  ·exact z09 us h
  ·exact z1a us h
  ·exact z1b us h
  ·rw [Eu] at h
   obtain ⟨v,rfl,hp⟩:=zb8 us h
   rw [zin,hp]
   rfl
  ·rw [zcy] at h
   obtain ⟨v,rfl,hp⟩:=zb8 us h
   rw [zm8,hp]
   rfl
  ·rw [Uf] at h
   match us,h with
   |[],h=>simp at h
   |[v],h=>
    simp at h
    rw [zej,zb7 1 4 v [] rfl,if_pos h]
    rfl
   |v::x::r,h=>simp at h
  ·rw [Un us nshared nthread nend natomic nset nget nput nout nif nloop] at h
   cases h
 unfold Vq
 dsimp only
 rw [if_neg n1,if_neg n2,if_neg n3,hg]
structure DR where
 shared:List (ByteArray×Int×Int)
 cells:Int
 thr:List (List NK)
 locals:List ByteArray
 opn:List Nat
 stmts:Nat
theorem zio(hP: ∀j,P j->hs'[j]?=hs[j]?)(hc: ∀j h,P j->hs[j]?=some h->∀k,Sum.inr k∈h.ents->P k):
  ∀(f:Nat) (e:En),(∀k,e= .inr k->P k)->lin hs' f e=lin hs f e
 |f, .inl s,_=>by cases f<;>rfl
 |0, .inr j,_=>rfl
 |f+1, .inr j,hj=>by
  have hpj:=hj j rfl
  simp only [lin]
  rw [hP j hpj]
  match hh:hs[j]? with
  |none=>rfl
  |some ⟨.inl q,es⟩=>rfl
  |some ⟨.inr s,es⟩=>
   have hes:es.flatMap (lin hs' f)=es.flatMap (lin hs f):=by
    have: ∀l:List En,(∀k,Sum.inr k∈l->P k)->l.flatMap (lin hs' f)=l.flatMap (lin hs f):=by
     intro l
     induction l with
     |nil=>intro _;rfl
     |cons e r ih=>
      intro hl
      rw [List.flatMap_cons,List.flatMap_cons,ih λk hk=>hl k (List.mem_cons_of_mem _ hk),zio hP hc f e λk hk=>hl k (by rw [<-hk];simp)]
    exact this es (hc j _ hpj hh)
   simp only [hes]
theorem Xn(hP: ∀j,P j->hs'[j]?=hs[j]?)(hc: ∀j h,P j->hs[j]?=some h->∀k,Sum.inr k∈h.ents->P k)(f:Nat):
  ∀l:List En,(∀k,Sum.inr k∈l->P k)->l.flatMap (lin hs' f)=l.flatMap (lin hs f)
 |[],_=>rfl
 |e::r,hl=>by
  rw [List.flatMap_cons,List.flatMap_cons,Xn hP hc f r λk hk=>hl k (List.mem_cons_of_mem _ hk),zio hP hc f e λk hk=>hl k (by rw [<-hk];simp)]
def Path(hs:List Hd)(P:Nat->Prop):Nat->Nat->Nat->List Nat->List NK->List Nat->Prop
 |f,_,o,[],N,os=>∃h,hs[o]?=some h/\N=h.ents.flatMap (lin hs f)/\os=[]/\ ∀k,Sum.inr k∈h.ents->P k
 |f,base,o,p::ps,N,os=>∃f' h es q s k N' os',f=f'+1/\hs[o]?=some h/\h.ents=es++[.inr p]/\hs[p]?=some q/\q.k= .st s/\zb3 s=[k]/\
   N=es.flatMap (lin hs f)++k::N'/\os=(base+(es.flatMap (lin hs f)).length)::os'/\(∀k,Sum.inr k∈es->P k)/\Path hs P f' (base+(es.flatMap (lin hs f)).length+1) p ps N' os'
section
variable{hs hs':List Hd}{P P':Nat->Prop}
theorem Path.len: ∀{ps:List Nat} {f base o:Nat} {N:List NK} {os:List Nat},Path hs P f base o ps N os->os.length=ps.length
 |[],_,_,_,_,_,⟨_,_,_,e,_⟩=>by rw [e]
 |_::_,_,_,_,_,_,⟨_,_,_,_,_,_,_,_,_,_,_,_,_,_,_,e,_,h⟩=>by rw [e,List.length_cons,List.length_cons,Path.len h]
def zbd(o:Nat)(ps:List Nat):Nat:=ps.getLast?.getD o
theorem Ft(o p:Nat)(ps:List Nat):zbd o (p::ps)=zbd p ps:=by
 unfold zbd
 cases ps with
 |nil=>rfl
 |cons q r=>rw [List.getLast?_cons_cons,List.getLast?_eq_some_getLast (List.cons_ne_nil q r)];rfl
theorem Path.more(hP: ∀j,P j->hs'[j]?=hs[j]?)(hc: ∀j h,P j->hs[j]?=some h->∀k,Sum.inr k∈h.ents->P k)(e:En)(he: ∀k,e= .inr k->P k): ∀{ps:List Nat} {f base o:Nat} {N:List NK} {os:List Nat},
  (∀j∈o::ps,∀h,hs[j]?=some h->∃h',hs'[j]?=some h'/\h'.ents=(if j=zbd o ps then h.ents++[e] else h.ents)/\ ∀s,h.k= .st s->h'.k= .st s)->(o::ps).Nodup ->
  Path hs P f base o ps N os->Path hs' P f base o ps (N++lin hs' (f- ps.length) e) os
 |[],f,base,o,N,os,hn,_,⟨h,h1,h2,h3,h4⟩=>by
  obtain ⟨h',g1,g2,_⟩:=hn o yaj h h1
  rw [if_pos (by rfl)] at g2
  refine ⟨h',g1,?_,h3,?_⟩
  ·rw [g2,List.flatMap_append,Xn hP hc f h.ents h4,h2]
   simp
  ·intro k hk
   rw [g2] at hk
   rcases List.mem_append.1 hk with hk|hk
   ·exact h4 k hk
   ·exact he k (List.mem_singleton.1 hk).symm
 |p::ps,f,base,o,N,os,hn,nd,⟨f',h,es,q,s,k,N',os',e0,h1,h2,h3,h4,h5,h6,h7,h8,h9⟩=>by
  subst e0
  have nd':=(List.nodup_cons.1 nd).2
  have hno:o≠zbd o (p::ps):=z8p
  obtain ⟨h',g1,g2,_⟩:=hn o yaj h h1
  rw [if_neg hno] at g2
  obtain ⟨q',q1,_,q3⟩:=hn p yaj q h3
  have hes:=Xn hP hc (f'+1) es h8
  have ih:=Path.more hP hc e he (λj hj x hx=>by
   have:=hn j (List.mem_cons_of_mem _ hj) x hx
   rwa [Ft] at this) nd' h9
  refine ⟨f',h',es,q',s,k,N'++lin hs' (f'- ps.length) e,os',rfl,g1,g2.trans h2,q1,q3 s h4,h5,?_,?_,h8,?_⟩
  ·rw [h6,hes,List.length_cons,Nat.add_sub_add_right]
   simp
  ·rw [h7,hes]
  ·rw [hes];exact ih
theorem Path.opening(hP: ∀j,P j->hs'[j]?=hs[j]?)(hc: ∀j h,P j->hs[j]?=some h->∀k,Sum.inr k∈h.ents->P k){p0:Nat}{k0:NK}(h0:hs'[p0]?=some ⟨.st s0,[]⟩)(hk0:zb3 s0=[k0]): ∀{ps:List Nat} {f base o:Nat} {N:List NK} {os:List Nat},
  (∀j∈o::ps,∀h,hs[j]?=some h->∃h',hs'[j]?=some h'/\h'.ents=(if j=zbd o ps then h.ents++[.inr p0] else h.ents)/\ ∀s,h.k= .st s->h'.k= .st s)->(o::ps).Nodup->ps.length<f ->
  Path hs P f base o ps N os->Path hs' P f base o (ps++[p0]) (N++[k0]) (os++[base+N.length])
 |[],f,base,o,N,os,hn,_,hf,⟨h,h1,h2,h3,h4⟩=>by
  obtain ⟨h',g1,g2,_⟩:=hn o yaj h h1
  rw [if_pos (by rfl)] at g2
  obtain ⟨f',rfl⟩: ∃f',f=f'+1:=⟨f- 1,by simp at hf;omega⟩
  have hes:=Xn hP hc (f'+1) h.ents h4
  refine ⟨f',h',h.ents,_,s0,k0,[],[],rfl,g1,g2,h0,rfl,hk0,?_,?_,h4,⟨_,h0,rfl,rfl,by simp⟩⟩
  ·rw [hes,<-h2]
  ·rw [hes,<-h2,h3];rfl
 |p::ps,f,base,o,N,os,hn,nd,hf,⟨f',h,es,q,s,k,N',os',e0,h1,h2,h3,h4,h5,h6,h7,h8,h9⟩=>by
  subst e0
  have nd':=(List.nodup_cons.1 nd).2
  have hno:o≠zbd o (p::ps):=z8p
  obtain ⟨h',g1,g2,_⟩:=hn o yaj h h1
  rw [if_neg hno] at g2
  obtain ⟨q',q1,_,q3⟩:=hn p yaj q h3
  have hes:=Xn hP hc (f'+1) es h8
  have ih:=Path.opening hP hc h0 hk0 (λj hj x hx=>by
   have:=hn j (List.mem_cons_of_mem _ hj) x hx
   rwa [Ft] at this) nd' (by simp only [List.length_cons] at hf;omega) h9
  refine ⟨f',h',es,q',s,k,N'++[k0],os'++[base+N.length],rfl,g1,g2.trans h2,q1,q3 s h4,h5,?_,?_,h8,?_⟩
  ·rw [h6,hes]
   simp
  ·rw [h7,hes];rfl
  ·rw [hes]
   have e:base+(es.flatMap (lin hs (f'+1))).length+1+N'.length=base+N.length:=by
    rw [h6,List.length_append,List.length_cons];omega
   rw [e] at ih
   exact ih
theorem Path.shut{p:Nat}(hPP: ∀j,P j->P' j)(hp:P' p)(hk:(hs[p]?).map Hd.k=some (HK.st s0)): ∀{ps:List Nat} {f base o:Nat} {N:List NK} {os:List Nat},
  Path hs P f base o (ps++[p]) N os->Path hs P' f base o ps (N++z0z s0) os.dropLast
 |[],f,base,o,N,os,⟨f',h,es,q,s,k,N',os',e0,h1,h2,h3,h4,h5,h6,h7,h8,⟨h',g1,g2,g3,g4⟩⟩=>by
  subst e0
  have hq:q=h':=by rw [h3] at g1;exact Option.some.inj g1
  subst hq
  have hs0:s=s0:=by
   rw [h3] at hk
   have hk':q.k= .st s0:=Option.some.inj hk
   rw [h4] at hk'
   exact Sum.inr.inj hk'
  subst hs0
  refine ⟨h,h1,?_,?_,?_⟩
  ·rw [h2,List.flatMap_append,h6,g2]
   have:lin hs (f'+1) (.inr p)=zb3 s++(q.ents.flatMap (lin hs f')++z0z s):=by
    simp only [lin]
    obtain ⟨qk,qe⟩:=q
    dsimp only at h4
    subst h4
    rw [h3]
   simp [this,h5]
  ·rw [h7,g3];rfl
  ·intro k hk
   rw [h2] at hk
   rcases List.mem_append.1 hk with hk|hk
   ·exact hPP k (h8 k hk)
   ·have:=List.mem_singleton.1 hk
    cases this
    exact hp
 |p1::ps,f,base,o,N,os,⟨f',h,es,q,s,k,N',os',e0,h1,h2,h3,h4,h5,h6,h7,h8,h9⟩=>by
  subst e0
  have ih:=Path.shut hPP hp hk h9
  have hne:os'≠[]:=by
   intro e
   have:=h9.len
   rw [e] at this
   simp at this
  refine ⟨f',h,es,q,s,k,N'++z0z s0,os'.dropLast,rfl,h1,h2,h3,h4,h5,?_,?_,λk hk=>hPP k (h8 k hk),ih⟩
  ·rw [h6];simp
  ·rw [h7,List.dropLast_cons_of_ne_nil hne]
theorem Path.stands: ∀{ps:List Nat} {f base o:Nat} {N:List NK} {os:List Nat},Path hs P f base o ps N os->∀(i a:Nat),os[i]?=some a->base<=a/\ ∃(p:Nat) (s:St) (k:NK),ps[i]?=some p/\(hs[p]?).map Hd.k=some (HK.st s)/\zb3 s=[k]/\N[a- base]?=some k
 |[],_,_,_,_,_,⟨_,_,_,e,_⟩,i,a,hi=>by rw [e] at hi;simp at hi
 |p::ps,f,base,o,N,os,⟨f',h,es,q,s,k,N',os',e0,h1,h2,h3,h4,h5,h6,h7,h8,h9⟩,i,a,hi=>by
  subst e0
  rw [h7] at hi
  cases i with
  |zero=>
   simp only [List.getElem?_cons_zero,Option.some.injEq] at hi
   subst hi
   refine ⟨Nat.le_add_right _ _,p,s,k,rfl,by rw [h3];simp [h4],h5,?_⟩
   rw [h6,Nat.add_sub_cancel_left,List.getElem?_append_right (Nat.le_refl _),Nat.sub_self]
   rfl
  |succ i=>
   rw [List.getElem?_cons_succ] at hi
   obtain ⟨hb,p',s',k',g1,g2,g3,g4⟩:=Path.stands h9 i a hi
   refine ⟨by omega,p',s',k',by rw [List.getElem?_cons_succ];exact g1,g2,g3,?_⟩
   rw [h6,List.getElem?_append_right yai]
   have:a- base- (es.flatMap (lin hs (f'+1))).length=(a- (base+(es.flatMap (lin hs (f'+1))).length+1))+1:=yai
   rw [this,List.getElem?_cons_succ]
   exact g4
end
def Gc(l:List (ByteArray×Int×Int))(u:ByteArray):Bool:=l.any λp=>decide (p.1=u)
def zhf(d:DR)(N:List NK):Bool:=d.opn.any λo=>decide ((N[o]?).map (·.1)=some 40)
def Gd(inn:Bool):St->Bool
 | .inr (.inr (.inl (_,_,_)))=>inn
 | .inr (.inr (.inr (.inl (_,_,_))))=>inn
 | .inr (.inr (.inr (.inr (.inr (.inl ())))))=>!inn
 |_=>true
def zfv(d:DR)(s:St):Bool:=(Qj s).all (λv=>v.name.toList.isEmpty||Uh d.locals v.name)&&(((Vg s).toList.isEmpty||!Gc d.shared (Vg s))&&(match Xg s with|some f=>Gc d.shared f|none=>true))
def zip(d:DR)(s:St):Bool:=!decide (d.stmts=14)&&(!(!(Vg s).toList.isEmpty&&(!Uh d.locals (Vg s)&&decide (d.locals.length=4)))&&(!Qf s||decide (d.opn.length<=2)))
def z4u(d:DR)(N:List NK)(s:St):DR:=
 if Qf s=true then {d with thr:=d.thr.dropLast++[N++zb3 s],opn:=d.opn++[N.length],stmts:=d.stmts+1}
 else {d with thr:=d.thr.dropLast++[N++[(kL s,0)]],locals:=if (Vg s).toList.isEmpty=false/\Uh d.locals (Vg s)=false then d.locals++[Vg s] else d.locals,stmts:=d.stmts+1}
def dSt(d:DR)(s:St):Except Int DR:=match d.thr.getLast? with
 |none=> .error 3
 |some N=>if Gd (zhf d N) s=false then .error 3 else if zfv d s=false then .error 4 else if zip d s=false then .error 5 else .ok (z4u d N s)
def zo9:Option NK->List NK
 |some k=>if k.1=40 then [(41,0)] else if k.1=108 then [(98,0)] else []
 |none=>[]
def zb9(d:DR):Except Int DR:=match d.opn.getLast?,d.thr.getLast? with
 |some a,some N=> .ok {d with opn:=d.opn.dropLast,thr:=d.thr.dropLast++[N++zo9 N[a]?]}
 |_,_=> .error 3
def Gx(d:DR):Except Int DR:=if 0<d.opn.length then .error 3 else .ok {d with thr:=d.thr++[[]],locals:=[],stmts:=0}
def Ge(d:DR)(x:ByteArray)(n:Int):Except Int DR:=if 0<d.thr.length then .error 3 else if Gc d.shared x=true then .error 4 else .ok {d with shared:=d.shared++[(x,d.cells,n)],cells:=d.cells+n}
def Xw(d:DR):List ByteArray->Except Int DR
 |[]=> .error 2
 |u::us=>if u=Qy then (match us with|[v]=>Ge d v 1|[v,x]=>Ge d v ((Qk x).getD 0)|_=> .error 2)
  else if u=Qt then Gx d else if u=Zd then zb9 d else dSt d (stW (u::us))
def zbn(st:RS)(j:Nat):Prop:=j<st.hs.length/\j∉st.opn
structure Sim(st:RS)(d:DR):Prop where
 sh:d.shared=st.shared
 ce:d.cells=st.cells
 len:d.thr.length=st.threads.length
 nm: ∀p∈st.shared,p.1.toList.isEmpty=false
 no:st.threads=[]->st.opn=[]/\d.opn=[]
 last: ∀tl t,st.threads=tl++[t]->∃ps N,st.opn=t::ps/\(t::ps).Nodup/\st.hk t=some (.thr d.locals d.stmts)/\d.thr.getLast?=some N/\Path st.hs (zbn st) 3 0 t ps N d.opn
 old: ∀i t,i+1<st.threads.length->st.threads[i]?=some t->∃h,st.hs[t]?=some h/\zbn st t/\d.thr[i]?=some (h.ents.flatMap (lin st.hs 3))
 clo: ∀j h,zbn st j->st.hs[j]?=some h->∀k,Sum.inr k∈h.ents->zbn st k
theorem zm9:Sim ⟨[],0,[],[],[]⟩ ⟨[],0,[],[],[],0⟩ where
 sh:=rfl
 ce:=rfl
 len:=rfl
 nm:=λp hp=>by simp at hp
 no:=λ_=>⟨rfl,rfl⟩
 last:=λtl t h=>by simp at h
 old:=λi t h=>by simp at h
 clo:=λj h hj=>by have:=hj.1;simp at this
section
variable{st st':RS}{d:DR}
theorem Sim.share(h:Sim st d)(x:ByteArray)(n:Int)(hx:x.toList.isEmpty=false):Sim {st with shared:=st.shared++[(x,st.cells,n)],cells:=st.cells+n} {d with shared:=d.shared++[(x,d.cells,n)],cells:=d.cells+n} where
 sh:=by show d.shared++_=st.shared++_;rw [h.sh,h.ce]
 ce:=by show d.cells+n=st.cells+n;rw [h.ce]
 len:=h.len
 nm:=λp hp=>by
  rcases List.mem_append.1 hp with hp|hp
  ·exact h.nm p hp
  ·rw [List.mem_singleton.1 hp];exact hx
 no:=h.no
 last:=h.last
 old:=h.old
 clo:=h.clo
theorem zk8(h:Sim st d)(u:ByteArray):Gc d.shared u=st.isSh u:=by unfold Gc RS.isSh;rw [h.sh]
theorem Path.mono{P':Nat->Prop}(hPP: ∀j,P j->P' j): ∀{ps:List Nat} {f base o:Nat} {N:List NK} {os:List Nat},Path hs P f base o ps N os->Path hs P' f base o ps N os
 |[],_,_,_,_,_,⟨h,h1,h2,h3,h4⟩=>⟨h,h1,h2,h3,λk hk=>hPP k (h4 k hk)⟩
 |_::_,_,_,_,_,_,⟨f',h,es,q,s,k,N',os',e0,h1,h2,h3,h4,h5,h6,h7,h8,h9⟩=>⟨f',h,es,q,s,k,N',os',e0,h1,h2,h3,h4,h5,h6,h7,λk hk=>hPP k (h8 k hk),Path.mono hPP h9⟩
theorem Sim.newT(h:Sim st d){k:Nat}(hok:st.Ok k)(ho: ¬1<st.opn.length):Sim st.newT {d with thr:=d.thr++[[]],locals:=[],stmts:=0}/\d.opn=[]:=by
 have hs': ∀j,j<st.hs.length->st.newT.hs[j]?=st.hs[j]?:=λj hj=>by
  show (st.hs++_)[j]?=_
  rw [List.getElem?_append_left hj]
 have hsh: ∀j,zbn st.newT j↔j<st.hs.length:=λj=>by
  unfold zbn RS.newT
  simp
  omega
 have hd:d.opn=[]/\ ∀tl t,st.threads=tl++[t]->st.opn=[t]:=by
  rcases List.eq_nil_or_concat st.threads with e|⟨tl,t,e⟩
  ·exact ⟨(h.no e).2,λtl t e'=>by rw [e] at e';simp at e'⟩
  ·rw [List.concat_eq_append] at e
   obtain ⟨ps,N,h1,_,_,_,h5⟩:=h.last tl t e
   have:ps=[]:=by
    cases ps with
    |nil=>rfl
    |cons p r=>rw [h1] at ho;simp at ho
   subst this
   refine ⟨List.length_eq_zero_iff.1 h5.len,λtl' t' e'=>?_⟩
   rw [e] at e'
   have:=List.append_inj_right' e' rfl
   rw [h1]
   exact this
 have hent: ∀(j:Nat) (x:Hd),st.hs[j]?=some x->∀k,Sum.inr k∈x.ents->k<st.hs.length:=λj x hx k hk=>hok.ent.1 x (List.mem_of_getElem? hx) k hk
 have hfr: ∀(x:Hd) (j:Nat),st.hs[j]?=some x->x.ents.flatMap (lin st.newT.hs 3)=x.ents.flatMap (lin st.hs 3):=λx j hx=>
  Xn (P:=λj=>j<st.hs.length) hs' (λj x _ hx k hk=>hent j x hx k hk) 3 x.ents (hent j x hx)
 refine ⟨{sh:=h.sh,ce:=h.ce,len:=by show (d.thr++[[]]).length=(st.threads++[st.hs.length]).length;simp [h.len],nm:=h.nm,no:=λe=>by simp [RS.newT] at e,last:=?_,old:=?_,clo:=?_},hd.1⟩
 ·intro tl t e
  have et:t=st.hs.length:=by
   have e':st.threads++[st.hs.length]=tl++[t]:=e
   have:=List.append_inj_right' e' rfl
   simpa using this.symm
  subst et
  refine ⟨[],[],rfl,by simp,?_,by simp,⟨⟨.thr [] 0,[]⟩,?_,rfl,hd.1,by simp⟩⟩
  ·show ((st.hs++[_])[st.hs.length]?).map _=_
   simp
  ·show (st.hs++[_])[st.hs.length]?=_
   simp
 ·intro i t hi ht
  have hi':i<st.threads.length:=by
   have:i+1<(st.threads++[st.hs.length]).length:=hi
   simpa using this
  have ht':st.threads[i]?=some t:=by
   have:(st.threads++[st.hs.length])[i]?=some t:=ht
   rwa [List.getElem?_append_left hi'] at this
  have hthr:(d.thr++[[]])[i]?=d.thr[i]?:=List.getElem?_append_left (by rw [h.len];exact hi')
  by_cases hl:i+1<st.threads.length
  ·obtain ⟨x,x1,x2,x3⟩:=h.old i t hl ht'
   refine ⟨x,by rw [hs' t x2.1];exact x1,(hsh t).2 x2.1,?_⟩
   show (d.thr++[[]])[i]?=_
   rw [hthr,x3,hfr x t x1]
  ·rcases List.eq_nil_or_concat st.threads with e|⟨tl,t2,e⟩
   ·rw [e] at hi';simp at hi'
   ·rw [List.concat_eq_append] at e
    have hil:i=tl.length:=by rw [e] at hi' hl;simp at hi' hl;omega
    have htt:t2=t:=by
     rw [e,hil] at ht'
     simpa using ht'
    subst htt
    obtain ⟨ps,N,h1,_,h3,h4,h5⟩:=h.last tl t2 e
    have:ps=[]:=by
     have:=hd.2 tl t2 e
     rw [h1] at this
     simpa using this
    subst this
    obtain ⟨x,x1,x2,_,_⟩:=h5
    have hlt:t2<st.hs.length:=(List.getElem?_eq_some_iff.1 x1).1
    refine ⟨x,by rw [hs' t2 hlt];exact x1,(hsh t2).2 hlt,?_⟩
    show (d.thr++[[]])[i]?=_
    rw [hthr,hfr x t2 x1,<-x2,<-h4,List.getLast?_eq_getElem?,h.len,hil,e]
    simp
 ·intro j x hj hx k hk
  have hj':=(hsh j).1 hj
  rw [hs' j hj'] at hx
  exact (hsh k).2 (hent j x hx k hk)
end
section
variable{st st':RS}{d:DR}{k t o:Nat}{tl ol:List Nat}
theorem Sim.olds(h:Sim st d)(hP: ∀j,zbn st j->st'.hs[j]?=st.hs[j]?)(hsh: ∀j,zbn st j->zbn st' j)(hth:st'.threads=st.threads)(X:List NK):
  ∀i t,i+1<st'.threads.length->st'.threads[i]?=some t->∃h,st'.hs[t]?=some h/\zbn st' t/\(d.thr.dropLast++[X])[i]?=some (h.ents.flatMap (lin st'.hs 3)):=by
 intro i t hi ht
 rw [hth] at hi ht
 obtain ⟨x,x1,x2,x3⟩:=h.old i t hi ht
 refine ⟨x,(hP t x2).trans x1,hsh t x2,?_⟩
 have hl:=h.len
 rw [List.getElem?_append_left (by rw [List.length_dropLast];omega),List.getElem?_dropLast,if_pos yai,x3]
 rw [Xn hP h.clo 3 x.ents (h.clo t x x2 x1)]
theorem Sim.clos(h:Sim st d)(hP: ∀j,zbn st j->st'.hs[j]?=st.hs[j]?)(hsh: ∀j,zbn st' j↔zbn st j): ∀j h,zbn st' j->st'.hs[j]?=some h->∀k,Sum.inr k∈h.ents->zbn st' k:=by
 intro j x hj hx k hk
 have hj':=(hsh j).1 hj
 rw [hP j hj'] at hx
 exact (hsh k).2 (h.clo j x hj' hx k hk)
theorem zna(h:t::ps=ol++[o]):zbd t ps=o:=by
 have:(t::ps).getLast?=some o:=by rw [h];simp
 unfold zbd
 cases ps with
 |nil=>simpa using this
 |cons p r=>
  rw [List.getLast?_cons_cons] at this
  rw [this];rfl
theorem zk9(h:Sim st d)(hth:st.threads=tl++[t])(X:List NK):(d.thr.dropLast++[X]).length=st.threads.length:=by
 have:=h.len
 rw [List.length_append,List.length_dropLast,this,hth]
 simp
theorem Sim.leaf(h:Sim st d)(hth:st.threads=tl++[t])(ho:st.opn=ol++[o])(s:St)(l':List ByteArray)(c':Nat)
  (hsame:st'.shared=st.shared/\st'.cells=st.cells/\st'.threads=st.threads/\st'.opn=st.opn) (hget: ∀j,st'.hs[j]?=(st.hs[j]?).map (Zv t o (.thr l' c') (.leaf s) j))
   (hN:d.thr.getLast?=some N):Sim st' {d with thr:=d.thr.dropLast++[N++[(kL s,0)]],locals:=l',stmts:=c'}:=by
 obtain ⟨s1,s2,s3,s4⟩:=hsame
 obtain ⟨ps,N',h1,h2,h3,h4,h5⟩:=h.last tl t hth
 have:N'=N:=Option.some.inj (h4.symm.trans hN)
 subst this
 have hlen:=Yp hget
 have hto:t∈st.opn:=by rw [h1];simp
 have hoo:o∈st.opn:=yas
 have hP: ∀j,zbn st j->st'.hs[j]?=st.hs[j]?:=λj hj=>by
  rw [hget j]
  have e1:j≠t:=λe=>hj.2 (e▸hto)
  have e2:j≠o:=λe=>hj.2 (e▸hoo)
  cases hx:st.hs[j]? with
  |none=>rfl
  |some x=>simp [Zv,e1,e2]
 have hsh: ∀j,zbn st' j↔zbn st j:=λj=>by unfold zbn;rw [hlen,s4]
 refine {sh:=h.sh.trans s1.symm,ce:=h.ce.trans s2.symm,len:=?_,nm:=by rw [s1];exact h.nm,no:=λe=>?_,last:=?_,old:=h.olds hP (λj hj=>(hsh j).2 hj) s3 _,clo:=h.clos hP hsh}
 ·show (d.thr.dropLast++[_]).length=_
  rw [s3]
  exact zk9 h hth _
 ·rw [s3,hth] at e;simp at e
 ·intro tl' t' e
  have:t'=t:=by
   rw [s3,hth] at e
   have:=List.append_inj_right' e rfl
   simpa using this.symm
  subst this
  obtain ⟨x,x1,x2⟩:=Yy h3
  refine ⟨ps,N'++[(kL s,0)],by rw [s4];exact h1,h2,?_,by simp,?_⟩
  ·unfold RS.hk
   rw [hget t',x1]
   simp [Zv]
  ·have hp:=Path.more hP h.clo (.inl s) (λk e=>by cases e) (λj hj y hy=>⟨Zv t' o (.thr l' c') (.leaf s) j y,by rw [hget j,hy];rfl,by
    rw [zna (h1.symm.trans ho)]
    rfl,λs0 hs0=>by
    have:j≠t':=yah
    simp [Zv,this,hs0]⟩) h2 h5
   have e0: ∀f,lin st'.hs f (.inl s)=[(kL s,0)]:=λf=>by cases f<;>rfl
   rw [e0] at hp
   exact hp.mono λj hj=>(hsh j).2 hj
theorem zpa(h:Qf s=true): ∃k,zb3 s=[k]:=by
 rcases s with ⟨to,a⟩|⟨to,k,a,c⟩|⟨to,f,a⟩|⟨f,a,c⟩|a|⟨⟩|a|n
 ·simp [Qf] at h
 ·simp [Qf] at h
 ·simp [Qf] at h
 ·simp [Qf] at h
 ·simp [Qf] at h
 ·exact ⟨_,rfl⟩
 ·exact ⟨_,rfl⟩
 ·exact ⟨_,rfl⟩
theorem Sim.hold(h:Sim st d)(hok:st.Ok k)(hth:st.threads=tl++[t])(ho:st.opn=ol++[o])(hd:st.opn.length<=3)(s:St)(hh:Qf s=true)(l':List ByteArray)(c':Nat)
  (hsame:st'.shared=st.shared/\st'.cells=st.cells/\st'.threads=st.threads/\st'.opn=st.opn++[st.hs.length]) (hget: ∀j,st'.hs[j]?=((st.newH s).hs[j]?).map (Zv t o (.thr l' c') (.sub st.hs.length) j))
   (hN:d.thr.getLast?=some N):Sim st' {d with thr:=d.thr.dropLast++[N++zb3 s],opn:=d.opn++[N.length],locals:=l',stmts:=c'}:=by
 obtain ⟨s1,s2,s3,s4⟩:=hsame
 obtain ⟨ps,N',h1,h2,h3,h4,h5⟩:=h.last tl t hth
 have:N'=N:=Option.some.inj (h4.symm.trans hN)
 subst this
 obtain ⟨k0,hk0⟩:=zpa hh
 have hlen:st'.hs.length=st.hs.length+1:=by rw [Yp hget];simp [RS.newH]
 have hto:t∈st.opn:=by rw [h1];simp
 have hoo:o∈st.opn:=yas
 have hlt: ∀j∈st.opn,j<st.hs.length:=hok.ent.2.2
 have hnew: ∀j,j<st.hs.length->(st.newH s).hs[j]?=st.hs[j]?:=λj hj=>by
  show (st.hs++_)[j]?=_
  rw [List.getElem?_append_left hj]
 have hP: ∀j,zbn st j->st'.hs[j]?=st.hs[j]?:=λj hj=>by
  rw [hget j,hnew j hj.1]
  have e1:j≠t:=λe=>hj.2 (e▸hto)
  have e2:j≠o:=λe=>hj.2 (e▸hoo)
  cases hx:st.hs[j]? with
  |none=>rfl
  |some x=>simp [Zv,e1,e2]
 have hsh: ∀j,zbn st' j↔zbn st j:=λj=>by
  unfold zbn
  rw [hlen,s4]
  simp only [List.mem_append,List.mem_singleton,not_or]
  constructor
  ·rintro ⟨a,b,c⟩;exact ⟨by omega,b⟩
  ·rintro ⟨a,b⟩;exact ⟨by omega,b,by omega⟩
 have h0:st'.hs[st.hs.length]?=some ⟨.st s,[]⟩:=by
  rw [hget]
  have:(st.newH s).hs[st.hs.length]?=some ⟨.st s,[]⟩:=ybm
  rw [this]
  have e1:st.hs.length≠t:=λe=>by have:=hlt t hto;omega
  have e2:st.hs.length≠o:=λe=>by have:=hlt o hoo;omega
  simp [Zv,e1,e2]
 refine {sh:=h.sh.trans s1.symm,ce:=h.ce.trans s2.symm,len:=?_,nm:=by rw [s1];exact h.nm,no:=λe=>?_,last:=?_,old:=h.olds hP (λj hj=>(hsh j).2 hj) s3 _,clo:=h.clos hP hsh}
 ·show (d.thr.dropLast++[_]).length=_
  rw [s3]
  exact zk9 h hth _
 ·rw [s3,hth] at e;simp at e
 ·intro tl' t' e
  have:t'=t:=by
   rw [s3,hth] at e
   have:=List.append_inj_right' e rfl
   simpa using this.symm
  subst this
  obtain ⟨x,x1,x2⟩:=Yy h3
  refine ⟨ps++[st.hs.length],N'++zb3 s,by rw [s4,h1];rfl,?_,?_,by simp,?_⟩
  ·have:(t'::(ps++[st.hs.length]))=(t'::ps)++[st.hs.length]:=rfl
   rw [this,List.nodup_append]
   refine ⟨h2,by simp,λa ha b hb=>?_⟩
   have:=List.mem_singleton.1 hb
   subst this
   have:=hlt a (by rw [h1];exact ha)
   omega
  ·unfold RS.hk
   rw [hget t',hnew t' (hlt t' hto),x1]
   simp [Zv]
  ·have hp:=Path.opening hP h.clo h0 hk0 (λj hj y hy=>⟨Zv t' o (.thr l' c') (.sub st.hs.length) j y,by rw [hget j,hnew j (hlt j (by rw [h1];exact hj)),hy];rfl,by
    rw [zna (h1.symm.trans ho)]
    rfl,λs0 hs0=>by
    have:j≠t':=yah
    simp [Zv,this,hs0]⟩) h2 (by rw [h1] at hd;simp at hd;omega) h5
   rw [hk0]
   have:0+N'.length=N'.length:=Nat.zero_add _
   rw [this] at hp
   exact hp.mono λj hj=>(hsh j).2 hj
end
theorem Path.inner: ∀{ps:List Nat} {f base o:Nat} {N:List NK} {os:List Nat},Path hs P f base o ps N os->∃h,hs[zbd o ps]?=some h/\ ∀k,Sum.inr k∈h.ents->P k
 |[],_,_,_,_,_,⟨h,h1,_,_,h4⟩=>⟨h,h1,h4⟩
 |_::_,_,_,_,_,_,⟨_,_,_,_,_,_,_,_,_,_,_,_,_,_,_,_,_,h9⟩=>by rw [Ft];exact Path.inner h9
theorem z1c(h:zb3 s=[k]):zo9 (some k)=z0z s:=z76
theorem ztf(h:zb3 s=[k]):decide (k.1=40)=HK.isAtomic (.st s):=z76
section
variable{st st':RS}{d:DR}{k t o:Nat}{tl ol:List Nat}
theorem Path.inn{f:Nat}(h:Path hs P f 0 o ps N os):(os.any λa=>decide ((N[a]?).map (·.1)=some 40))=ps.any λp=>(((hs[p]?).map Hd.k).map HK.isAtomic).getD false:=by
 have key: ∀(i a:Nat),os[i]?=some a->∃p,ps[i]?=some p/\decide ((N[a]?).map (·.1)=some 40)=(((hs[p]?).map Hd.k).map HK.isAtomic).getD false:=by
  intro i a hi
  obtain ⟨_,p,s,k,h1,h2,h3,h4⟩:=h.stands i a hi
  refine ⟨p,h1,?_⟩
  rw [Nat.sub_zero] at h4
  rw [h4,h2]
  have:=ztf h3
  simp only [Option.map_some,Option.getD_some,Option.some.injEq]
  exact this
 have hl:=h.len
 rw [Bool.eq_iff_iff,List.any_eq_true,List.any_eq_true]
 constructor
 ·rintro ⟨a,ha,hq⟩
  obtain ⟨i,hi⟩:=List.getElem?_of_mem ha
  obtain ⟨p,h1,h2⟩:=key i a hi
  exact ⟨p,List.mem_of_getElem? h1,h2▸hq⟩
 ·rintro ⟨p,hp,hq⟩
  obtain ⟨i,hi⟩:=List.getElem?_of_mem hp
  have hlt:i<os.length:=by rw [hl];exact (List.getElem?_eq_some_iff.1 hi).1
  obtain ⟨p',h1,h2⟩:=key i os[i] (List.getElem?_eq_getElem hlt)
  rw [hi] at h1
  obtain rfl:=Option.some.inj h1
  exact ⟨os[i],List.getElem_mem hlt,h2.trans hq⟩
theorem Sim.pop(h:Sim st d)(hok:st.Ok k)(ho: ¬st.opn.length<2): ∃d',zb9 d= .ok d'/\Sim {st with opn:=st.opn.dropLast} d':=by
 rcases List.eq_nil_or_concat st.threads with e|⟨tl,t,e⟩
 ·have:=(h.no e).1
  rw [this] at ho
  simp at ho
 ·rw [List.concat_eq_append] at e
  obtain ⟨ps,N,h1,h2,h3,h4,h5⟩:=h.last tl t e
  rcases List.eq_nil_or_concat ps with hp|⟨ps',p,hp⟩
  ·rw [h1,hp] at ho;simp at ho
  rw [List.concat_eq_append] at hp
  subst hp
  have hol:=h5.len
  rcases List.eq_nil_or_concat d.opn with hq|⟨os',a,hq⟩
  ·rw [hq] at hol;simp at hol
  rw [List.concat_eq_append] at hq
  have hla:d.opn.getLast?=some a:=by rw [hq];simp
  have hal:d.opn[ps'.length]?=some a:=by
   have:os'.length=ps'.length:=by rw [hq] at hol;simpa using hol
   rw [hq,<-this];simp
  obtain ⟨_,p1,s,k1,g1,g2,g3,g4⟩:=h5.stands _ a hal
  have:p1=p:=by simpa using g1.symm
  subst this
  rw [Nat.sub_zero] at g4
  have hdl:st.opn.dropLast=t::ps':=by
   rw [h1,<-List.cons_append,List.dropLast_concat]
  have hnp:p1∉t::ps':=by
   rw [<-List.cons_append,List.nodup_append] at h2
   intro hm
   exact h2.2.2 p1 hm p1 yaj rfl
  have hsub: ∀j,zbn st j->zbn {st with opn:=st.opn.dropLast} j:=λj hj=>⟨hj.1,λhm=>hj.2 (List.dropLast_subset _ hm)⟩
  have hpl:p1<st.hs.length:=hok.ent.2.2 p1 (by rw [h1];simp)
  have hp1:zbn {st with opn:=st.opn.dropLast} p1:=⟨hpl,by show p1∉st.opn.dropLast;rw [hdl];exact hnp⟩
  have hinv: ∀j,zbn {st with opn:=st.opn.dropLast} j->j=p1\/zbn st j:=λj hj=>by
   by_cases e:j=p1
   ·exact .inl e
   ·refine .inr ⟨hj.1,λhm=>?_⟩
    have:j∉st.opn.dropLast:=hj.2
    rw [hdl] at this
    rw [h1,<-List.cons_append] at hm
    rcases List.mem_append.1 hm with hm|hm
    ·exact this hm
    ·exact e (List.mem_singleton.1 hm)
  have hpath:=Path.shut hsub hp1 g2 h5
  refine ⟨{d with opn:=d.opn.dropLast,thr:=d.thr.dropLast++[N++zo9 N[a]?]},?_,?_⟩
  ·unfold zb9
   rw [hla,h4]
  ·rw [g4,z1c g3]
   refine {sh:=h.sh,ce:=h.ce,len:=zk9 h e _,nm:=h.nm,no:=λq=>?_,last:=?_,old:=h.olds (st':={st with opn:=st.opn.dropLast}) (λj _=>rfl) hsub rfl _,clo:=?_}
   ·have q':st.threads=[]:=q
    rw [e] at q';simp at q'
   ·intro tl' t' q
    have q':st.threads=tl'++[t']:=q
    have:t'=t:=by
     rw [e] at q'
     have:=List.append_inj_right' q' rfl
     simpa using this.symm
    subst this
    refine ⟨ps',_,hdl,?_,h3,by simp,hpath⟩
    rw [<-List.cons_append,List.nodup_append] at h2
    exact h2.1
   ·intro j x hj hx k hk
    have hx':st.hs[j]?=some x:=hx
    rcases hinv j hj with rfl|hj'
    ·obtain ⟨y,y1,y2⟩:=h5.inner
     have hlo:zbd t (ps'++[j])=j:=by simp [zbd]
     rw [hlo,hx'] at y1
     obtain rfl:=Option.some.inj y1
     exact hsub k (y2 k hk)
    ·exact hsub k (h.clo j x hj' hx' k hk)
end
def z3w(r:Except Int RS)(q:Except Int DR):Prop:=match r,q with
 | .error e, .error e'=>e=e'
 | .ok st, .ok d=>Sim st d
 |_,_=>False
section
variable{st st':RS}{d:DR}{k t o:Nat}{tl ol:List Nat}
theorem Sim.inB_is(h:Sim st d)(hth:st.threads=tl++[t])(hN:d.thr.getLast?=some N):st.inB=zhf d N:=by
 obtain ⟨ps,N',h1,h2,h3,h4,h5⟩:=h.last tl t hth
 have:N'=N:=Option.some.inj (h4.symm.trans hN)
 subst this
 unfold zhf RS.inB
 rw [h5.inn,h1,List.any_cons,h3]
 rfl
theorem Sim.noEmpty(h:Sim st d)(u:ByteArray)(hu:u.toList.isEmpty=true):st.isSh u=false:=by
 unfold RS.isSh
 rw [List.any_eq_false]
 intro p hp
 have:=h.nm p hp
 intro e
 have e':p.1=u:=by simpa using e
 rw [e',hu] at this
 cases this
theorem Sim.names_is(h:Sim st d)(s:St):st.mayName d.locals s=zfv d s:=by
 unfold RS.mayName zfv
 have e1:(!st.isSh (Vg s))=((Vg s).toList.isEmpty||!Gc d.shared (Vg s)):=by
  rw [zk8 h]
  cases hu:(Vg s).toList.isEmpty with
  |true=>rw [h.noEmpty _ hu];rfl
  |false=>rfl
 rw [e1]
 cases Xg s with
 |none=>rfl
 |some f=>simp only [zk8 h]
theorem Sim.room_is(h:Sim st d)(hth:st.threads=tl++[t])(s:St):st.hasRoom d.locals d.stmts s=zip d s:=by
 obtain ⟨ps,N',h1,h2,h3,h4,h5⟩:=h.last tl t hth
 unfold RS.hasRoom zip
 have:decide (st.opn.length<=3)=decide (d.opn.length<=2):=by
  rw [h5.len,h1,List.length_cons]
  simp
 rw [this]
theorem z3x(h:Sim st d)(hok:st.Ok k)(s:St):z3w (gSt st s) (dSt d s):=by
 rcases List.eq_nil_or_concat st.threads with e|⟨tl,t,e⟩
 ·have h1:=(h.no e).1
  have hm:st.mayStand s=false:=by
   rcases s with ⟨to,a⟩|⟨to,k,a,c⟩|⟨to,f,a⟩|⟨f,a,c⟩|a|⟨⟩|a|n<;>simp [RS.mayStand,h1]
  have hd:d.thr=[]:=List.length_eq_zero_iff.1 (by rw [h.len,e];rfl)
  unfold gSt dSt
  rw [if_pos hm,hd]
  exact rfl
 ·rw [List.concat_eq_append] at e
  obtain ⟨ps,N,h1,h2,h3,h4,h5⟩:=h.last tl t e
  have hl:st.lastT=some (t,d.locals,d.stmts):=zc4 e h3
  obtain ⟨ol,o,ho⟩: ∃ol o,st.opn=ol++[o]:=by
   rcases List.eq_nil_or_concat st.opn with q|⟨ol,o,q⟩
   ·rw [h1] at q;cases q
   ·exact ⟨ol,o,by rw [q,List.concat_eq_append]⟩
  have hog:st.opn.getLast?=some o:=yas
  have hm:st.mayStand s=Gd (zhf d N) s:=by
   rw [<-h.inB_is e h4]
   have:0<st.opn.length:=by rw [h1];simp
   rcases s with ⟨to,a⟩|⟨to,k,a,c⟩|⟨to,f,a⟩|⟨f,a,c⟩|a|⟨⟩|a|n<;>simp [RS.mayStand,Gd,this]
  unfold gSt dSt
  rw [hl,hog,h4,hm]
  dsimp only
  rw [h.names_is s,h.room_is e s]
  by_cases c1:Gd (zhf d N) s=false
  ·rw [if_pos c1,if_pos c1];exact rfl
  rw [if_neg c1,if_neg c1]
  by_cases c2:zfv d s=false
  ·rw [if_pos c2,if_pos c2];exact rfl
  rw [if_neg c2,if_neg c2]
  by_cases c3:zip d s=false
  ·rw [if_pos c3,if_pos c3];exact rfl
  rw [if_neg c3,if_neg c3]
  show Sim _ _
  have hr:st.hasRoom d.locals d.stmts s=true:=by rw [h.room_is e s];simpa using c3
  obtain ⟨_,_,r3⟩:=Om hr
  unfold RS.lay z4u
  by_cases hh:Qf s=true
  ·rw [if_pos hh,if_pos hh]
   obtain ⟨a1,a2,a3,a4⟩:=Ze (st.newH s) t o (.thr d.locals (d.stmts+1)) (.sub st.hs.length)
   exact h.hold (st':={(((st.newH s).setK t (.thr d.locals (d.stmts+1))).addE o (.sub st.hs.length)) with opn:=st.opn++[st.hs.length]}) hok e ho (r3 hh) s hh d.locals (d.stmts+1) ⟨a1,a2,a3,rfl⟩ (Vx _ _ _ _ _) h4
  ·rw [if_neg hh,if_neg hh]
   by_cases hn:(Vg s).toList.isEmpty=false/\Uh d.locals (Vg s)=false
   ·rw [if_pos hn,if_pos hn]
    obtain ⟨a1,a2,a3,a4⟩:=Ze (st.setK t (.thr d.locals (d.stmts+1))) t o (.thr (d.locals++[Vg s]) (d.stmts+1)) (.leaf s)
    obtain ⟨b1,b2,b3,b4⟩:=Xu (st:=st) t (.thr d.locals (d.stmts+1))
    exact h.leaf e ho s (d.locals++[Vg s]) (d.stmts+1) ⟨a1.trans b1,a2.trans b2,a3.trans b3,a4.trans b4⟩ (Ol _ _ _ _ _ _) h4
   ·rw [if_neg hn,if_neg hn]
    obtain ⟨a1,a2,a3,a4⟩:=Ze st t o (.thr d.locals (d.stmts+1)) (.leaf s)
    exact h.leaf e ho s d.locals (d.stmts+1) ⟨a1,a2,a3,a4⟩ (Vx _ _ _ _ _) h4
theorem z1d(h:Sim st d)(hok:st.Ok k):z3w (zwb st []) (zb9 d):=by
 unfold zwb
 dsimp only
 by_cases c:st.opn.length<2
 ·rw [if_pos c]
  have hd:d.opn=[]:=by
   rcases List.eq_nil_or_concat st.threads with e|⟨tl,t,e⟩
   ·exact (h.no e).2
   ·rw [List.concat_eq_append] at e
    obtain ⟨ps,N,h1,h2,h3,h4,h5⟩:=h.last tl t e
    apply List.length_eq_zero_iff.1
    rw [h5.len]
    rw [h1,List.length_cons] at c
    omega
  unfold zb9
  rw [hd]
  exact rfl
 ·rw [if_neg c]
  obtain ⟨d',e,hs⟩:=h.pop hok c
  rw [e]
  exact hs
theorem zpb(h:Sim st d)(hok:st.Ok k):z3w (Ef st []) (Gx d):=by
 unfold Ef Gx
 dsimp only
 have hd:(1<st.opn.length)↔0<d.opn.length:=by
  rcases List.eq_nil_or_concat st.threads with e|⟨tl,t,e⟩
  ·rw [(h.no e).1,(h.no e).2];simp
  ·rw [List.concat_eq_append] at e
   obtain ⟨ps,N,h1,h2,h3,h4,h5⟩:=h.last tl t e
   rw [h5.len,h1,List.length_cons]
   omega
 by_cases c:1<st.opn.length
 ·rw [if_pos c,if_pos (hd.1 c)];exact rfl
 ·rw [if_neg c,if_neg λq=>c (hd.2 q)]
  exact (h.newT hok c).1
theorem ziq(h:Sim st d)(x:ByteArray)(n:Int)(hx:x.toList.isEmpty=false):z3w (if 0<st.threads.length then .error 3 else if st.isSh x=true then .error 4 else .ok {st with shared:=st.shared++[(x,st.cells,n)],cells:=st.cells+n}) (Ge d x n):=by
 unfold Ge
 rw [h.len,zk8 h]
 by_cases c:0<st.threads.length
 ·rw [if_pos c,if_pos c];exact rfl
 rw [if_neg c,if_neg c]
 by_cases c2:st.isSh x=true
 ·rw [if_pos c2,if_pos c2];exact rfl
 rw [if_neg c2,if_neg c2]
 exact h.share x n hx
theorem zla(h:Vo u=true):u.toList.isEmpty=false:=by
 unfold Vo at h
 simp only [Bool.and_eq_true,decide_eq_true_eq] at h
 have h1:=h.1
 rw [ByteArray.toList_eq]
 cases hd:u.data.toList with
 |nil=>
  have:u.size=u.data.toList.length:=ybz
  rw [hd,List.length_nil] at this
  omega
 |cons a b=>rfl
theorem zxk(h:Sim st d)(hok:st.Ok k)(ws:List ByteArray)(hb:Jr ws=true):z3w (Vq st ws) (Xw d ws):=by
 match ws,hb with
 |[],hb=>cases hb
 |u::us,hb=>
  by_cases n1:u=Qy
  ·subst n1
   rw [Zf] at hb
   unfold Vq Xw
   dsimp only
   rw [if_pos rfl,if_pos rfl]
   unfold Iq
   match us,hb with
   |[],hb=>cases hb
   |[v],hb=>
    have hb:Vo v=true:=hb
    rw [Ju,if_pos hb]
    exact ziq h v 1 (zla hb)
   |[v,x],hb=>
    have hb:(Vo v&&Sx 6 x)=true:=hb
    obtain ⟨b1,b2⟩:=Bool.and_eq_true_iff.1 hb
    rw [Ju,if_pos b1]
    dsimp only
    rw [zb7 1 6 x [] rfl,if_pos b2]
    exact ziq h v _ (zla b1)
   |_::_::_::_,hb=>cases hb
  by_cases n2:u=Qt
  ·subst n2
   rw [Yd] at hb
   have:us=[]:=ybu
   subst this
   unfold Vq Xw
   dsimp only
   rw [if_neg n1,if_neg n1,if_pos rfl,if_pos rfl]
   exact zpb h hok
  by_cases n3:u=Zd
  ·subst n3
   rw [Sk] at hb
   have:us=[]:=ybu
   subst this
   unfold Vq Xw
   dsimp only
   rw [if_neg n1,if_neg n1,if_neg n2,if_neg n2,if_pos rfl,if_pos rfl]
   exact z1d h hok
  rw [zte st u us hb n1 n2 n3]
  unfold Xw
  dsimp only
  rw [if_neg n1,if_neg n2,if_neg n3]
  exact z3x h hok _
end
def x0:Cx:=⟨[],[],0,0,0⟩
theorem ztg(hu:u.size<=maxLen):x0.varOk u:=⟨hu,0,0,rfl,by omega,by omega⟩
section
variable{st:RS}{lv:Nat->Nat}{ib:Nat->Bool}{wt:Nat->Nat}
theorem znb(hl:z0s st b s):x0.leafOk b s:=by
 have hr:=λv (hv:v∈Qj s)=>zw0 hl.sz hl.nm hv
 have hto:=hl.sz.to
 have hof:=hl.of
 have hofz:=hl.sz.of
 have hop:=hl.nm.op
 have hnh:=hl.nh
 clear hl
 rcases s with ⟨to,a⟩|⟨to,o,a,c⟩|⟨to,f,a⟩|⟨f,a,c⟩|a|⟨⟩|a|n
 ·exact ⟨hto,hr a yau⟩
 ·exact ⟨hto,hop,hr a yau,hr c yau⟩
 ·exact ⟨(hof f rfl).1,hto,ztg (hofz f rfl),hr a yau⟩
 ·exact ⟨(hof f rfl).1,ztg (hofz f rfl),hr a yau,hr c yau⟩
 ·exact hr a yau
 ·simp [Qf] at hnh
 ·simp [Qf] at hnh
 ·simp [Qf] at hnh
theorem zy8(h:Fit st lv ib wt)(he: ∀(j:Nat) (y:Hd),st.hs[j]?=some y->y.ents.length<=14): ∀(f i:Nat) (y:Hd),st.hs[i]?=some y->lv i+f=3->∀e∈y.ents,enW st.hs x0 f (ib i) e
 |0,i,y,hy,_, .inl s,hm=>znb (h.leaf i y hy s hm)
 |f+1,i,y,hy,_, .inl s,hm=>znb (h.leaf i y hy s hm)
 |0,i,y,hy,hf, .inr j,hm=>by
  obtain ⟨q1,s,q2,q3⟩:=h.nest i y hy j hm
  obtain ⟨z,hz,_⟩:=Yy q2
  have:=h.le j (List.getElem?_eq_some_iff.1 hz).1
  omega
 |f+1,i,y,hy,hf, .inr j,hm=>by
  obtain ⟨q1,s,q2,q3⟩:=h.nest i y hy j hm
  obtain ⟨z,hz,hzk⟩:=Yy q2
  have ih:=zy8 h he f j z hz yai
  have hzz:st.hs[j]?=some ⟨.st s,z.ents⟩:=by rw [hz,<-hzk]
  refine ⟨z.ents,he j z hz,?_⟩
  have hh:=q3.hh
  have hr:=λv (hv:v∈Qj s)=>zw0 q3.sz q3.nm hv
  have h1:=q3.at1
  have h0:=q3.at0
  have hlp:=q3.lp
  clear q3 q2
  rcases s with ⟨to,a⟩|⟨to,o,a,c⟩|⟨to,f,a⟩|⟨f,a,c⟩|a|⟨⟩|a|n
  ·simp [Qf] at hh
  ·simp [Qf] at hh
  ·simp [Qf] at hh
  ·simp [Qf] at hh
  ·simp [Qf] at hh
  ·obtain ⟨e1,e2⟩:=h1 rfl
   rw [e2] at ih
   exact .inl ⟨hzz,e1,ih⟩
  ·rw [h0 rfl] at ih
   exact .inr (.inl ⟨a,hzz,hr a yau,ih⟩)
  ·rw [h0 rfl] at ih
   exact .inr (.inr ⟨n,hzz,hlp n rfl,ih⟩)
end
theorem zir{s:ByteArray}(hg:Jl s= .ok st)(hok:st.Ok 2000)(t:Nat)(ht:t∈st.threads):
  (st.ents t).length<=14/\(∀e∈st.ents t,enW st.hs x0 3 false e)/\((st.ents t).map (wE st.hs 3)).sum<=14:=by
 obtain ⟨lv,ib,wt,h⟩:=zd8 hg
 obtain ⟨l,c,q1,q2,q3⟩:=hok.thr t ht
 obtain ⟨y,hy,_⟩:=Yy q1
 have he:st.ents t=y.ents:=by unfold RS.ents;rw [hy]
 obtain ⟨l0,i0⟩:=h.thr t ht
 have hw:=h.w t y hy
 have hcc:=h.c t ht l c q1
 rw [he]
 refine ⟨hok.e14 t y hy,?_,?_⟩
 ·have:=zy8 h hok.e14 3 t y hy yai
  rw [i0] at this
  exact this
 ·exact z8h
def zxl(L:List NK):CS:=L.foldl Js ⟨0,0,0,[1],[1],false⟩
def Gy(L:List NK):Bool:=decide (3<(zxl L).blocks)||decide (8<(zxl L).most)
def zfa(d:DR):Bool:=decide (6<d.cells)||(decide (3<d.thr.length)||d.thr.any Gy)
theorem Sim.whole{d:DR}(h:Sim st d)(ho:st.opn.length=1)(i t:Nat)(ht:st.threads[i]?=some t):d.thr[i]?=some ((st.ents t).flatMap (lin st.hs 3)):=by
 have hi:i<st.threads.length:=(List.getElem?_eq_some_iff.1 ht).1
 by_cases hl:i+1<st.threads.length
 ·obtain ⟨x,x1,_,x3⟩:=h.old i t hl ht
  rw [x3]
  unfold RS.ents
  rw [x1]
 ·rcases List.eq_nil_or_concat st.threads with e|⟨tl,t2,e⟩
  ·rw [e] at hi;simp at hi
  ·rw [List.concat_eq_append] at e
   have hil:i=tl.length:=by rw [e] at hi hl;simp at hi hl;omega
   have htt:t2=t:=by
    rw [e,hil] at ht
    simpa using ht
   subst htt
   obtain ⟨ps,N,h1,_,h3,h4,h5⟩:=h.last tl t2 e
   have:ps=[]:=by
    rw [h1] at ho
    simpa using ho
   subst this
   obtain ⟨x,x1,x2,_,_⟩:=h5
   unfold RS.ents
   rw [x1]
   dsimp only
   rw [<-x2,<-h4,List.getLast?_eq_getElem?,h.len,hil,e]
   simp
theorem z1e{α β:Type}(l:List α)(m:List β)(p:α->Bool)(q:β->Bool)(hl:m.length=l.length)(h: ∀(i:Nat) (a:α),l[i]?=some a->∃b,m[i]?=some b/\p a=q b):l.any p=m.any q:=by
 rw [Bool.eq_iff_iff,List.any_eq_true,List.any_eq_true]
 constructor
 ·rintro ⟨a,ha,hq⟩
  obtain ⟨i,hi⟩:=List.getElem?_of_mem ha
  obtain ⟨b,h1,h2⟩:=h i a hi
  exact ⟨b,List.mem_of_getElem? h1,h2▸hq⟩
 ·rintro ⟨b,hb,hq⟩
  obtain ⟨i,hi⟩:=List.getElem?_of_mem hb
  have hlt:i<l.length:=by rw [<-hl];exact (List.getElem?_eq_some_iff.1 hi).1
  obtain ⟨b',h1,h2⟩:=h i l[i] (List.getElem?_eq_getElem hlt)
  rw [hi] at h1
  obtain rfl:=Option.some.inj h1
  exact ⟨l[i],List.getElem_mem hlt,h2.trans hq⟩
theorem znc{s:ByteArray}{d:DR}(h:Sim st d)(hg:Jl s= .ok st)(hok:st.Ok 2000)(ho:st.opn.length=1):
  zay st=zfa d/\ ∀L∈d.thr,L.length<=28/\ ∀i,i<=L.length->zec (cAt L i):=by
 constructor
 ·unfold zay zfa
  rw [h.ce,h.len]
  congr 2
  refine z1e _ _ _ _ h.len λi t ht=>⟨_,h.whole ho i t ht,?_⟩
  obtain ⟨_,he,_⟩:=zir hg hok t (List.mem_of_getElem? ht)
  obtain ⟨o,hc⟩:=zo2 (st.ents t) he
  rw [zo3 st t he]
  unfold Gy zxl
  rw [hc]
 ·intro L hL
  obtain ⟨i,hi⟩:=List.getElem?_of_mem hL
  have hlt:i<st.threads.length:=by rw [<-h.len];exact (List.getElem?_eq_some_iff.1 hi).1
  have:=h.whole ho i st.threads[i] (List.getElem?_eq_getElem hlt)
  rw [hi] at this
  obtain rfl:=Option.some.inj this
  obtain ⟨_,he,hw⟩:=zir hg hok _ (List.getElem_mem hlt)
  exact zif he hw
theorem zek(l r:List UInt8)(h:(10:UInt8)∉l):Lib.cut (l++10::r) [10]=(l,r,true):=by
 unfold Lib.cut
 rw [zc8 10 l r h,if_pos yai]
 simp
theorem zfw(l:List UInt8)(h:(10:UInt8)∉l):(Lib.cut l [10]).2.2=false:=by
 unfold Lib.cut
 rw [Fs 10 l h,if_neg yai]
theorem zbe: ∀(f:Nat) (r:List UInt8) (j:Nat) (st st':RS),st.Ok j->j+r.length<=2000->Yc f r j st= .ok st'->st'.Ok 2000
 |0,r,j,st,st',hok,hl,hg=>by
  rw [Yc] at hg
  obtain rfl:=Except.ok.inj hg
  exact Ok.mono hok yai
 |f+1,r,j,st,st',hok,hl,hg=>by
  rw [Yc] at hg
  by_cases c:r=[]/\j≠0
  ·rw [if_pos c] at hg
   obtain rfl:=Except.ok.inj hg
   exact Ok.mono hok yai
  ·rw [if_neg c] at hg
   rcases zda 10 r with hno|⟨a,r',rfl,hno⟩
   ·have:=zfw r hno
    split at hg
    ·cases hg
    ·rename_i q;rw [q] at this;cases this
   ·rw [zek a r' hno] at hg
    dsimp only at hg
    cases h1:Vq st (Ql a) with
    |error er=>rw [h1] at hg;cases hg
    |ok st1=>
     rw [h1] at hg
     exact zbe f r' (j+1) st1 st' (Ir hok h1) (by simp at hl;omega) hg
def Vz:List (List UInt8)->Nat->DR->Except (Int×Int) DR
 |[],_,d=> .ok d
 |[l],j,d=>if l=[]/\j≠0 then .ok d else .error (2,j+1)
 |l::l2::r,j,d=>if Jr (Ql l)=false then .error (2,j+1) else match Xw d (Ql l) with
  | .ok d'=>Vz (l2::r) (j+1) d'
  | .error er=> .error (er,j+1)
def z56(r:Except (Int×Int) RS)(q:Except (Int×Int) DR):Prop:=match r,q with
 | .error e, .error e'=>e=e'
 | .ok st, .ok d=>Sim st d
 |_,_=>False
theorem zel: ∀(f:Nat) (r:List UInt8) (j:Nat) (st:RS) (d:DR),r.length+1<=f->st.Ok j->Sim st d->z56 (Yc f r j st) (Vz (Xe 10 r) j d)
 |0,r,j,st,d,hf,_,_=>by omega
 |f+1,r,j,st,d,hf,hok,h=>by
  rw [Yc]
  rcases zda 10 r with hno|⟨a,r',rfl,hno⟩
  ·rw [Iw 10 r hno,Vz]
   by_cases c:r=[]/\j≠0
   ·rw [if_pos c,if_pos c];exact h
   ·rw [if_neg c,if_neg c]
    have:=zfw r hno
    split
    ·exact rfl
    ·rename_i q;rw [q] at this;cases this
  ·rw [if_neg (λq=>by have:=q.1;simp at this),zek a r' hno,zc9 10 a r' hno]
   obtain ⟨l2,rr,e2⟩: ∃l2 rr,Xe 10 r'=l2::rr:=by
    cases q:Xe 10 r' with
    |nil=>exact absurd q (zb4 _ _)
    |cons l2 rr=>exact ⟨l2,rr,rfl⟩
   rw [e2,Vz,<-e2]
   dsimp only
   by_cases c:Jr (Ql a)=false
   ·rw [if_pos c,ztd st _ c]
    exact rfl
   ·rw [if_neg c]
    have hs:=zxk h hok (Ql a) (by simpa using c)
    cases hg:Vq st (Ql a) with
    |error er=>
     rw [hg] at hs
     cases hd:Xw d (Ql a) with
     |error er'=>
      rw [hd] at hs
      have:er=er':=hs
      rw [this]
      exact rfl
     |ok d'=>rw [hd] at hs;exact hs.elim
    |ok st'=>
     rw [hg] at hs
     cases hd:Xw d (Ql a) with
     |error er'=>rw [hd] at hs;exact hs.elim
     |ok d'=>
      rw [hd] at hs
      exact zel f r' (j+1) st' d' (by simp at hf;omega) (Ir hok hg) hs
theorem zfx(c:UInt8): ∀(n:Nat) (l:List UInt8),l.length<=n->(Xe c l).length=l.count c+1
 |n,l,hn=>by
  rcases zda c l with hno|⟨a,r,rfl,hno⟩
  ·rw [Iw c l hno,List.count_eq_zero_of_not_mem hno];rfl
  ·rw [zc9 c a r hno,List.length_cons,List.count_append,List.count_eq_zero_of_not_mem hno,List.count_cons_self]
   cases n with
   |zero=>simp at hn
   |succ n=>
    rw [zfx c n r (by simp at hn;omega)]
    omega
def d0:DR:=⟨[],0,[],[],[],0⟩
def zis(s:ByteArray):Except (Int×Int) DR:=if 2000<s.size then .error (1,0) else match Vz (Xe 10 s.data.toList) 0 d0 with
 | .error e=> .error e
 | .ok d=>if 0<d.opn.length\/d.thr.length=0 then .error (3,((Xe 10 s.data.toList).length:Int)) else if zfa d=true then .error (5,0) else .ok d
theorem zxm(s:ByteArray):z56 (zaz s) (zis s):=by
 have hok: ∀st,Jl s= .ok st->st.Ok 2000:=λst hg=>by
  have hz:=Iv hg
  unfold Jl at hg
  rw [if_neg yai] at hg
  exact zbe _ _ 0 _ _ none_ok yc1 hg
 unfold zaz zis
 by_cases hz:2000<s.size
 ·have:Jl s= .error (1,0):=by unfold Jl;rw [if_pos hz]
  rw [this,if_pos hz]
  exact rfl
 ·have he:Jl s=Yc (s.size+2) s.data.toList 0 RS.none:=by unfold Jl;rw [if_neg hz]
  have hs:=zel (s.size+2) s.data.toList 0 RS.none d0 ydr none_ok zm9
  rw [<-he] at hs
  rw [if_neg hz]
  cases hg:Jl s with
  |error e=>
   rw [hg] at hs
   cases hd:Vz (Xe 10 s.data.toList) 0 d0 with
   |error e'=>
    rw [hd] at hs
    have:e=e':=hs
    rw [this]
    exact rfl
   |ok d=>rw [hd] at hs;exact hs.elim
  |ok st=>
   rw [hg] at hs
   cases hd:Vz (Xe 10 s.data.toList) 0 d0 with
   |error e'=>rw [hd] at hs;exact hs.elim
   |ok d=>
    rw [hd] at hs
    have h:Sim st d:=hs
    dsimp only
    have hop:st.opn.length≠1↔(0<d.opn.length\/d.thr.length=0):=by
     rw [h.len]
     rcases List.eq_nil_or_concat st.threads with e|⟨tl,t,e⟩
     ·rw [(h.no e).1,e];simp
     ·rw [List.concat_eq_append] at e
      obtain ⟨ps,N,h1,h2,h3,h4,h5⟩:=h.last tl t e
      rw [h5.len,h1,e,List.length_cons,List.length_append,List.length_singleton]
      omega
    by_cases c:st.opn.length≠1
    ·rw [if_pos c,if_pos (hop.1 c),zfx 10 _ _ (Nat.le_refl _)]
     exact rfl
    ·rw [if_neg c,if_neg λq=>c (hop.2 q)]
     obtain ⟨hm,_⟩:=znc h hg (hok st hg) yai
     rw [hm]
     by_cases c2:zfa d=true
     ·rw [if_pos c2,if_pos c2];exact rfl
     ·rw [if_neg c2,if_neg c2];exact h
def plc(ws:List ByteArray)(u:ByteArray):Int:=match ws.findIdx? λx=>decide (x=u) with
 |some k=>(k:Int)
 |none=>-1
def zth(w:World)(sv:Value)(ws:List ByteArray):Prop:=(sv= .slice none 0 0/\ws=[])\/ ∃g c,sv= .slice (some ⟨g,0,none⟩) ws.length c/\g<w.heap.size/\StrsAt w g ws
theorem zem{ws:List ByteArray}(h:w.ownsRow 0 9 1 sv ws.length (ws.map .string)):zth w sv ws:=by
 rcases h.2 with ⟨e1,e2⟩|⟨g,cap,cur,e1,_⟩
 ·left
  refine ⟨e1,?_⟩
  simpa using e2
 ·right
  refine ⟨g,cap,e1,?_,λj hj=>?_⟩
  ·exact (h.lt g (by rw [e1];rfl)).2
  ·subst e1
   obtain ⟨q1,_,_⟩:=Qm h j hj
   rw [q1,List.getElem?_map,List.getElem?_eq_getElem hj]
   rfl
section
variable{w:World}{sv:Value}{ws:List ByteArray}{u:ByteArray}
theorem zpc:Cl 22 #[.slice none 0 0, .string u] w λe w'=>e= .returned (.int .i64 (-1))/\w'=w:=by
 go_enter Tryz.func22,Tryz.ntmps22
 go_wp2
 go_loopw [5] (λv wr=>v= .int .i64 0/\wr=w) (λ_ _=>0)
 case atStart=>exact ⟨rfl,rfl⟩
 case round=>
  obtain ⟨rfl,rfl⟩:=hrel
  go_wp2
  go_ret
  exact ⟨rfl,rfl⟩
theorem zca(h:zth w sv ws)(hl:ws.length<1000000):Cl 22 #[sv, .string u] w λe w'=>e= .returned (.int .i64 (plc ws u))/\w'=w:=by
 rcases h with ⟨rfl,rfl⟩|⟨g,c,rfl,_,hs⟩
 ·exact zpc
 ·unfold plc
  cases hk:ws.findIdx? λx=>decide (x=u) with
  |none=>
   have hno:=List.findIdx?_eq_none_iff.1 hk
   exact Ga w g c ws u hl (hid hs) (hid λj hj=>by
    have:=hno ws[j] (List.getElem_mem hj)
    simpa using this)
  |some k=>
   obtain ⟨hlt,hp,hbef⟩:=List.findIdx?_eq_some_iff_getElem.1 hk
   exact Ou w g c ws u hl (hid hs) k hlt (hid λj hj=>by
    have:=hbef j hj
    simpa using this) (hid (by simpa using hp))
theorem zlb(ws:List ByteArray)(u:ByteArray):decide (0<=plc ws u)=Uh ws u:=by
 unfold plc Uh
 cases hk:ws.findIdx? λx=>decide (x=u) with
 |none=>
  have hno:=List.findIdx?_eq_none_iff.1 hk
  symm
  simp only [show decide ((0:Int)<=-1)=false from rfl]
  rw [List.any_eq_false]
  intro x hx
  simpa using hno x hx
 |some k=>
  obtain ⟨hlt,hp,_⟩:=List.findIdx?_eq_some_iff_getElem.1 hk
  symm
  simp only [show decide ((0:Int)<=(k:Int))=true by simp]
  exact List.any_eq_true.2 ⟨ws[k],List.getElem_mem hlt,hp⟩
def atV(l:List ByteArray)(u:ByteArray):Bool×Int×Bool:=match Qk u with
 |some n=>(false,n,true)
 |none=>(true,plc l u,Uh l u)
theorem zpd{n:Int}(K:Hid (∀w,Cl 41 #[.string u] w λe w'=>e= .returned (.tuple #[.int .i64 n, .bool true])/\w'=w)):
  Cl 42 #[ptr br, .string u] w λe w'=>e= .returned (.tuple #[.agg #[.bool false, .int .i64 n], .bool true])/\Below w.heap.size w w':=by
 go_enter Tryz.func42,Tryz.ntmps42
 go_wp2_with fail
 refine (K.out _).mono ?_
 rintro e w1 ⟨rfl,rfl⟩
 go_wp2
 refine ⟨rfl, .tuple #[.agg #[.bool false, .int .i64 n], .bool true],?_,rfl,(Below.refl _ w).alloc (Nat.le_refl _) _⟩
 simp [results,Tryz.results42,go_sem]
theorem zpe{k:Int}(hbk:decide (0<=k)=b)(c4:w.cell? ⟨br,4,none⟩=some sv)(K:Hid (∀w,Cl 41 #[.string u] w λe w'=>e= .returned (.tuple #[.int .i64 0, .bool false])/\w'=w))
  (KP:Hid (∀w',Below w.heap.size w w'->Cl 22 #[sv, .string u] w' λe w2=>e= .returned (.int .i64 k)/\w2=w')):
  Cl 42 #[ptr br, .string u] w λe w'=>e= .returned (.tuple #[.agg #[.bool true, .int .i64 k], .bool b])/\Below w.heap.size w w':=by
 have hlt:br<w.heap.size:=blt c4
 have c4':(w.alloc (.cells #[.bool false, .int .i64 0] 75)).cell? ⟨br,4,none⟩=some sv:=(World.cell?_alloc_past _ _ _ hlt).trans c4
 have HK:=hid hbk
 clear hbk
 go_enter Tryz.func42,Tryz.ntmps42
 go_wp2_with fail
 refine (K.out _).mono ?_
 rintro e w1 ⟨rfl,rfl⟩
 go_wp2_with fail
 refine (KP.out _ ((Below.refl _ w).alloc (Nat.le_refl _) _)).mono ?_
 rintro e w1 ⟨rfl,rfl⟩
 go_wp2
 refine ⟨rfl, .tuple #[.agg #[.bool true, .int .i64 k], .bool b],?_,rfl,(Below.refl _ w).alloc (Nat.le_refl _) _⟩
 rw [<-HK.out]
 simp [results,Tryz.results42,go_sem]
theorem zpf{l:List ByteArray}(c4:w.cell? ⟨br,4,none⟩=some sv)(hr:zth w sv l)(hl:l.length<1000000):
  Cl 42 #[ptr br, .string u] w λe w'=>e= .returned (.tuple #[.agg #[.bool (atV l u).1, .int .i64 (atV l u).2.1], .bool (atV l u).2.2])/\Below w.heap.size w w':=by
 have K: ∀w,Cl 41 #[.string u] w λe w'=>e=Oc u/\w'=w:=λw=>Ym w u
 unfold atV
 cases hn:Qk u with
 |some n=>
  rw [Yj hn] at K
  exact zpd (hid K)
 |none=>
  rw [Vy hn] at K
  refine zpe (zlb l u) c4 (hid K) (hid λw' hb=>zca ?_ hl)
  rcases hr with h|⟨g,c,h1,h2,h3⟩
  ·exact .inl h
  ·exact .inr ⟨g,c,h1,Nat.lt_of_lt_of_le h2 hb.size,h3.keep h2 hb⟩
end
structure DT where
 nv:Value
 kb:Nat
 xs:List Value
 N:List NK
structure NodesAt(xs:List Value)(N:List NK):Prop where
 len:xs.length=N.length*14
 kind: ∀(i:Nat) (k:NK),N[i]?=some k->xs[i*14]?=some (.int .u8 (k.1:Int))
 n: ∀(i:Nat) (k:NK),N[i]?=some k->xs[i*14+12]?=some (.int .i64 k.2)
 deep: ∀(i:Nat),i<N.length->∃v,xs[i*14+13]?=some (.int .i64 v)
structure DThAt(w:World)(c:Nat)(t:DT):Prop where
 row:w.ownsRow 0 77 14 t.nv t.N.length t.xs
 nodes:NodesAt t.xs t.N
 ksh:w.shape? t.kb=some (4,c)
 kfree: ∀j,w.frozen? ⟨t.kb,j,none⟩=false
structure DM where
 br:Nat
 bp:Nat
 sv:Value
 fv:Value
 zv:Value
 lv:Value
 ov:Value
 tv:Value
 cv:Value
 pv:Value
 ps:List Bool
 ts:List DT
structure DMach(D:Nat->Prop)(lab:Nat->Nat×Nat)(w:World)(m:DM)(d:DR):Prop where
 sh:w.shape? m.br=some (54,9)
 psh:w.shape? m.bp=some (42,4)
 free: ∀j,w.frozen? ⟨m.br,j,none⟩=false
 pfree: ∀j,w.frozen? ⟨m.bp,j,none⟩=false
 c0:w.cell? ⟨m.br,0,none⟩=some (ptr m.bp)
 c1:w.cell? ⟨m.br,1,none⟩=some m.sv
 c2:w.cell? ⟨m.br,2,none⟩=some m.fv
 c3:w.cell? ⟨m.br,3,none⟩=some m.zv
 c4:w.cell? ⟨m.br,4,none⟩=some m.lv
 c5:w.cell? ⟨m.br,5,none⟩=some m.ov
 c6:w.cell? ⟨m.br,6,none⟩=some (.int .i64 d.stmts)
 c7:w.cell? ⟨m.br,7,none⟩=some (.bool false)
 p0:w.cell? ⟨m.bp,0,none⟩=some m.tv
 p1:w.cell? ⟨m.bp,1,none⟩=some (.int .i64 d.cells)
 p2:w.cell? ⟨m.bp,2,none⟩=some m.cv
 p3:w.cell? ⟨m.bp,3,none⟩=some m.pv
 srow:w.ownsRow 0 9 1 m.sv d.shared.length (d.shared.map λp=> .string p.1)
 frow:w.ownsRow 0 3 1 m.fv d.shared.length (d.shared.map λp=> .int .i64 p.2.1)
 zrow:w.ownsRow 0 3 1 m.zv d.shared.length (d.shared.map λp=> .int .i64 p.2.2)
 lrow:w.ownsRow 0 9 1 m.lv d.locals.length (d.locals.map .string)
 orow:w.ownsRow 0 3 1 m.ov d.opn.length (d.opn.map λ(k:Nat)=> .int .i64 (k:Int))
 trow:w.ownsRow 0 59 1 m.tv d.thr.length (m.ts.map DT.nv)
 crow:w.ownsRow 0 40 1 m.cv d.thr.length (m.ts.map λt=> .slice (some ⟨t.kb,0,none⟩) d.cells.toNat d.cells.toNat)
 prow:w.ownsRow 0 4 1 m.pv d.thr.length (m.ps.map .bool)
 thr:m.ts.map DT.N=d.thr
 th: ∀(i:Nat) (t:DT),m.ts[i]?=some t->DThAt w d.cells.toNat t
 lb:lab m.br=(0,0)/\D m.br
 lp:lab m.bp=(0,1)/\D m.bp
 ls: ∀g,m.sv.ownBlock=some g->lab g=(0,2)/\D g
 lf: ∀g,m.fv.ownBlock=some g->lab g=(0,3)/\D g
 lz: ∀g,m.zv.ownBlock=some g->lab g=(0,4)/\D g
 ll: ∀g,m.lv.ownBlock=some g->lab g=(0,5)/\D g
 lo: ∀g,m.ov.ownBlock=some g->lab g=(0,6)/\D g
 lt: ∀g,m.tv.ownBlock=some g->lab g=(0,7)/\D g
 lc: ∀g,m.cv.ownBlock=some g->lab g=(0,8)/\D g
 lq: ∀g,m.pv.ownBlock=some g->lab g=(0,9)/\D g
 ln: ∀(i:Nat) (t:DT),m.ts[i]?=some t->∀g,t.nv.ownBlock=some g->lab g=(i+1,0)/\D g
 lk: ∀(i:Nat) (t:DT),m.ts[i]?=some t->lab t.kb=(i+1,1)/\D t.kb
theorem DThAt.keep{t:DT}(h:DThAt w c t)(hc:Chg M w w')(hn: ∀g,t.nv.ownBlock=some g->∀i,¬M g i):DThAt w' c t where
 row:=Qc h.row hc hn
 nodes:=h.nodes
 ksh:=(hc.shape _ (Qd h.ksh)).trans h.ksh
 kfree:=λj=>(hc.frozen _ _ (Qd h.ksh)).trans (h.kfree j)
theorem DMach.keep{m:DM}{d:DR}(h:DMach D lab w m d)(hc:Chg M w w')(hM: ∀k i,D k->¬M k i):DMach D lab w' m d:=by
 have lb:=Qd h.sh
 have lp:=Qd h.psh
 have B:=λi=>hM m.br i h.lb.2
 have P:=λi=>hM m.bp i h.lp.2
 exact {h with
  sh:=(hc.shape _ lb).trans h.sh
  psh:=(hc.shape _ lp).trans h.psh
  free:=λj=>(hc.frozen _ _ lb).trans (h.free j)
  pfree:=λj=>(hc.frozen _ _ lp).trans (h.pfree j)
  c0:=(hc.cell _ _ lb (B _)).trans h.c0
  c1:=(hc.cell _ _ lb (B _)).trans h.c1
  c2:=(hc.cell _ _ lb (B _)).trans h.c2
  c3:=(hc.cell _ _ lb (B _)).trans h.c3
  c4:=(hc.cell _ _ lb (B _)).trans h.c4
  c5:=(hc.cell _ _ lb (B _)).trans h.c5
  c6:=(hc.cell _ _ lb (B _)).trans h.c6
  c7:=(hc.cell _ _ lb (B _)).trans h.c7
  p0:=(hc.cell _ _ lp (P _)).trans h.p0
  p1:=(hc.cell _ _ lp (P _)).trans h.p1
  p2:=(hc.cell _ _ lp (P _)).trans h.p2
  p3:=(hc.cell _ _ lp (P _)).trans h.p3
  srow:=Qc h.srow hc λg hg i=>hM g i (h.ls g hg).2
  frow:=Qc h.frow hc λg hg i=>hM g i (h.lf g hg).2
  zrow:=Qc h.zrow hc λg hg i=>hM g i (h.lz g hg).2
  lrow:=Qc h.lrow hc λg hg i=>hM g i (h.ll g hg).2
  orow:=Qc h.orow hc λg hg i=>hM g i (h.lo g hg).2
  trow:=Qc h.trow hc λg hg i=>hM g i (h.lt g hg).2
  crow:=Qc h.crow hc λg hg i=>hM g i (h.lc g hg).2
  prow:=Qc h.prow hc λg hg i=>hM g i (h.lq g hg).2
  th:=λi t ht=>(h.th i t ht).keep hc λg hg j=>hM g j (h.ln i t ht g hg).2}
theorem DMach.below{m:DM}{d:DR}(h:DMach D lab w m d)(hb:Below w.heap.size w w'):DMach D lab w' m d:=
 h.keep (M:=λ_ _=>False) (Chg.of_below hb) (λ_ _ _ e=>e)
theorem DMach.atom{m:DM}{d:DR}(h:DMach D lab w m d)(hl:d.locals.length<1000000)(u:ByteArray):
  Cl 42 #[ptr m.br, .string u] w λe w'=>e= .returned (.tuple #[.agg #[.bool (atV d.locals u).1, .int .i64 (atV d.locals u).2.1], .bool (atV d.locals u).2.2])/\Below w.heap.size w w':=
 zpf h.c4 (zem h.lrow) hl
section
variable{D:Nat->Prop}{lab:Nat->Nat×Nat}{w:World}{m:DM}{d:DR}{u:ByteArray}{bx:Nat}
theorem DMach.inSh(h:DMach D lab w m d)(hl:d.shared.length<1000000)(u:ByteArray): ∀w',Below w.heap.size w w'->Cl 22 #[m.sv, .string u] w' λe w2=>e= .returned (.int .i64 (plc (d.shared.map (·.1)) u))/\w2=w':=λw' hb=>by
 have hr:=(h.below hb).srow
 have:w'.ownsRow 0 9 1 m.sv (d.shared.map (·.1)).length ((d.shared.map (·.1)).map .string):=by
  rw [List.length_map,List.map_map];exact hr
 exact zca (zem this) (by rw [List.length_map];exact hl)
theorem DMach.inLoc(h:DMach D lab w m d)(hl:d.locals.length<1000000)(u:ByteArray): ∀w',Below w.heap.size w w'->Cl 22 #[m.lv, .string u] w' λe w2=>e= .returned (.int .i64 (plc d.locals u))/\w2=w':=λ_ hb=>
 zca (zem (h.below hb).lrow) hl
theorem zit(d:DR)(u:ByteArray):Gc d.shared u=Uh (d.shared.map (·.1)) u:=by
 unfold Gc Uh
 rw [List.any_map]
 rfl
theorem z1f{k:Int}(c1:w.cell? ⟨br,1,none⟩=some sv)(hk:0<=k)(KS:Hid (Cl 22 #[sv, .string u] w λe w2=>e= .returned (.int .i64 k)/\w2=w)):
  Cl 45 #[ptr br,ptr bx, .string u] w λe w'=>e= .returned (.int .i64 4)/\w'=w:=by
 have hlt:br<w.heap.size:=blt c1
 go_enter Tryz.func45,Tryz.ntmps45
 go_wp2_with fail
 refine KS.out.mono ?_
 rintro e w1 ⟨rfl,rfl⟩
 go_wp2
 go_ret
 exact ⟨rfl,rfl⟩
theorem zxn{lv:Value}{k j:Int}(c1:w.cell? ⟨br,1,none⟩=some sv)(c4:w.cell? ⟨br,4,none⟩=some lv)(cx:w.cell? ⟨bx,1,none⟩=some x1)(fx:w.frozen? ⟨bx,1,none⟩=false)(hk: ¬0<=k)(hj: ¬j<0)
  (KS:Hid (Cl 22 #[sv, .string u] w λe w2=>e= .returned (.int .i64 k)/\w2=w)) (KL:Hid (Cl 22 #[lv, .string u] w λe w2=>e= .returned (.int .i64 j)/\w2=w)):
  Cl 45 #[ptr br,ptr bx, .string u] w λe w'=>e= .returned (.int .i64 0)/\w'=w.setCell ⟨bx,1,none⟩ (.int .i64 j):=by
 have hlt:br<w.heap.size:=blt c1
 have hlx:bx<w.heap.size:=blt cx
 go_enter Tryz.func45,Tryz.ntmps45
 go_wp2_with fail
 refine KS.out.mono ?_
 rintro e w1 ⟨rfl,rfl⟩
 go_wp2_with fail
 refine KL.out.mono ?_
 rintro e w1 ⟨rfl,rfl⟩
 go_wp2
 go_ret
 exact ⟨rfl,rfl⟩
theorem zti{k j:Int}(c1:w.cell? ⟨br,1,none⟩=some sv)(c4:w.cell? ⟨br,4,none⟩=some (.slice p 4 c))(hk: ¬0<=k)(hj:j<0)
  (KS:Hid (Cl 22 #[sv, .string u] w λe w2=>e= .returned (.int .i64 k)/\w2=w)) (KL:Hid (Cl 22 #[.slice p 4 c, .string u] w λe w2=>e= .returned (.int .i64 j)/\w2=w)):
  Cl 45 #[ptr br,ptr bx, .string u] w λe w'=>e= .returned (.int .i64 5)/\w'=w:=by
 have hlt:br<w.heap.size:=blt c1
 go_enter Tryz.func45,Tryz.ntmps45
 go_wp2_with fail
 refine KS.out.mono ?_
 rintro e w1 ⟨rfl,rfl⟩
 go_wp2_with fail
 refine KL.out.mono ?_
 rintro e w1 ⟨rfl,rfl⟩
 go_wp2
 go_ret
 exact ⟨rfl,rfl⟩
theorem znd:(Tryz.prog.info? 9).map (λi=>(i.zero,i.size,i.bytes))=some (some (.string ByteArray.empty),1,16):=yak
theorem zxo{k j:Int}(c1:w.cell? ⟨br,1,none⟩=some sv)(c4:w.cell? ⟨br,4,none⟩=some (.slice p n c))(f4:w.frozen? ⟨br,4,none⟩=false)(hn:n<4)(hr:w.ownsRow 0 9 1 (.slice p n c) n xs)(no: ∀b,(Value.slice p n c).ownBlock=some b->b≠br/\b≠bx)(_hbb:br≠bx)(cx:w.cell? ⟨bx,1,none⟩=some x1)(fx:w.frozen? ⟨bx,1,none⟩=false)(hk: ¬0<=k)(hj:j<0)
  (KS:Hid (Cl 22 #[sv, .string u] w λe w2=>e= .returned (.int .i64 k)/\w2=w)) (KL:Hid (Cl 22 #[.slice p n c, .string u] w λe w2=>e= .returned (.int .i64 j)/\w2=w)):
  Cl 45 #[ptr br,ptr bx, .string u] w λe w'=>e= .returned (.int .i64 0)/\ ∃w3 g cp,w3.ownsRow 0 9 1 (.slice (some ⟨g,0,none⟩) (n+1) cp) (n+1) (xs++[.string u])/\Chg (λb _=>(Value.slice p n c).ownBlock=some b) (w.alloc (.cells #[.string u] 9)) w3/\((Value.slice p n c).ownBlock=some g\/g=w.heap.size+1)/\w'=(w3.setCell ⟨br,4,none⟩ (.slice (some ⟨g,0,none⟩) (n+1) cp)).setCell ⟨bx,1,none⟩ (.int .i64 n):=by
 have hlt:br<w.heap.size:=blt c1
 have hlx:bx<w.heap.size:=blt cx
 obtain ⟨i0,hi0,hz0,hz1,hz2⟩:=info_parts znd
 have hn4: ¬(n:Int)=4:=yai
 have hl1:n+1<=maxLen:=yap
 have hl2:(n+1)*16<=140737488355328:=yai
 have HO:=hid hr
 have HCB:Hid (∀w3 o,Chg (λb _=>(Value.slice p n c).ownBlock=some b) (w.alloc o) w3->w3.cell? ⟨br,4,none⟩=some (.slice p n c)/\w3.frozen? ⟨br,4,none⟩=false/\w3.cell? ⟨bx,1,none⟩=some x1/\w3.frozen? ⟨bx,1,none⟩=false):=hid (λw3 o hch=>
  ⟨(hch.cell _ _ yan (λe=>(no _ e).1 rfl)).trans ((World.cell?_alloc_past _ _ _ hlt).trans c4),(hch.frozen _ _ yan).trans ((World.frozen?_alloc_past _ _ _ hlt).trans f4),
   (hch.cell _ _ yan (λe=>(no _ e).2 rfl)).trans ((World.cell?_alloc_past _ _ _ hlx).trans cx),(hch.frozen _ _ yan).trans ((World.frozen?_alloc_past _ _ _ hlx).trans fx)⟩)
 clear hr no
 go_enter Tryz.func45,Tryz.ntmps45
 go_wp2_with fail
 refine KS.out.mono ?_
 rintro e w1 ⟨rfl,hw⟩
 subst w1
 go_wp2_with fail
 refine KL.out.mono ?_
 rintro e w1 ⟨rfl,hw⟩
 subst w1
 go_wp2_with (at_builtin;refine Zk rfl _ _ 49 rfl 9 i0 (.string ByteArray.empty) 16 Tryz.underlying49 hi0 hz0 hz1 hz2 rfl (.slice p n c) n xs rfl (HO.out.alloc _) ⟨w.heap.size,0,none⟩ (.string u) rfl (cell_one_new _ _ _) rfl hl1 hl2 ?_;go_must (intro g cp w3 hown1 hch hg;have hcb:=(HCB.out w3 _ hch).1;have hfb:=(HCB.out w3 _ hch).2.1;have hcx:=(HCB.out w3 _ hch).2.2.1;have hfx:=(HCB.out w3 _ hch).2.2.2;have HO1:=hid hown1;have HC1:=hid hch;have HG1:=hid hg;clear hown1 hch hg))
 go_ret
 exact ⟨rfl,w3,g,cp,HO1.out,HC1.out,by simpa using HG1.out,rfl⟩
end
section
variable{D:Nat->Prop}{lab:Nat->Nat×Nat}{w:World}{m:DM}{d:DR}{u:ByteArray}
theorem DMach.addLocal(h:DMach D lab w m d)(hD: ∀k,w.heap.size<=k->D k)
  (ho:w3.ownsRow 0 9 1 (.slice (some ⟨g,0,none⟩) (d.locals.length+1) cp) (d.locals.length+1) (d.locals.map .string++[.string u]))
  (hc:Chg (λb _=>m.lv.ownBlock=some b) w w3) (hg:m.lv.ownBlock=some g\/w.heap.size<=g):
  ∃lab',DMach D lab' (w3.setCell ⟨m.br,4,none⟩ (.slice (some ⟨g,0,none⟩) (d.locals.length+1) cp)) {m with lv:= .slice (some ⟨g,0,none⟩) (d.locals.length+1) cp} {d with locals:=d.locals++[u]}:=by
 have lb:=Qd h.sh
 have lp:=Qd h.psh
 have nl: ¬m.lv.ownBlock=some m.br:=λe=>by have:=(h.ll _ e).1;rw [h.lb.1] at this;cases this
 have hset:Chg (λk j=>k=m.br/\j=4) w3 (w3.setCell ⟨m.br,4,none⟩ (.slice (some ⟨g,0,none⟩) (d.locals.length+1) cp)):=(Chg.refl _ w3).setCell (λ_=>⟨rfl,rfl⟩) _
 have hall:Chg (λk j=>m.lv.ownBlock=some k\/(k=m.br/\j=4)) w (w3.setCell ⟨m.br,4,none⟩ (.slice (some ⟨g,0,none⟩) (d.locals.length+1) cp)):=(hc.mono (λ_ _ _ e=> .inl e)).trans (hset.mono (λ_ _ _ e=> .inr e))
 have hgb:g≠m.br:=by
  rcases hg with e|e
  ·exact λe'=>nl (e'▸e)
  ·omega
 have hDg:D g:=by
  rcases hg with e|e
  ·exact (h.ll g e).2
  ·exact hD g yai
 have hold: ∀k,k<w.heap.size->(if k=g then (0,5) else lab k)=lab k:=by
  intro k hk
  by_cases e:k=g
  ·rw [if_pos e]
   rcases hg with hg|hg
   ·rw [e];exact (h.ll g hg).1.symm
   ·omega
  ·rw [if_neg e]
 have nk: ∀k l,lab k=l->l≠(0,5)->l≠(0,0)->∀j,¬(m.lv.ownBlock=some k\/(k=m.br/\j=4)):=λk l hk h1 h2 j e=>by
  rcases e with e|e
  ·exact h1 (hk.symm.trans (h.ll k e).1)
  ·exact h2 (hk.symm.trans (e.1▸h.lb.1))
 have kb: ∀j,j≠4->¬(m.lv.ownBlock=some m.br\/(m.br=m.br/\j=4)):=λj hj e=>e.elim nl (λe=>hj e.2)
 have kp:=nk m.bp _ h.lp.1 yal yal
 refine ⟨λk=>if k=g then (0,5) else lab k,{
  sh:=(hall.shape _ lb).trans h.sh
  psh:=(hall.shape _ lp).trans h.psh
  free:=λj=>(hall.frozen _ _ lb).trans (h.free j)
  pfree:=λj=>(hall.frozen _ _ lp).trans (h.pfree j)
  c0:=(hall.cell _ _ lb (kb 0 yai)).trans h.c0
  c1:=(hall.cell _ _ lb (kb 1 yai)).trans h.c1
  c2:=(hall.cell _ _ lb (kb 2 yai)).trans h.c2
  c3:=(hall.cell _ _ lb (kb 3 yai)).trans h.c3
  c4:=Qg ((hc.cell _ _ lb nl).trans h.c4) rfl
  c5:=(hall.cell _ _ lb (kb 5 yai)).trans h.c5
  c6:=(hall.cell _ _ lb (kb 6 yai)).trans h.c6
  c7:=(hall.cell _ _ lb (kb 7 yai)).trans h.c7
  p0:=(hall.cell _ _ lp (kp 0)).trans h.p0
  p1:=(hall.cell _ _ lp (kp 1)).trans h.p1
  p2:=(hall.cell _ _ lp (kp 2)).trans h.p2
  p3:=(hall.cell _ _ lp (kp 3)).trans h.p3
  srow:=Qc h.srow hall λq hq=>nk q _ (h.ls q hq).1 yal yal
  frow:=Qc h.frow hall λq hq=>nk q _ (h.lf q hq).1 yal yal
  zrow:=Qc h.zrow hall λq hq=>nk q _ (h.lz q hq).1 yal yal
  lrow:=z77
  orow:=Qc h.orow hall λq hq=>nk q _ (h.lo q hq).1 yal yal
  trow:=Qc h.trow hall λq hq=>nk q _ (h.lt q hq).1 yal yal
  crow:=Qc h.crow hall λq hq=>nk q _ (h.lc q hq).1 yal yal
  prow:=Qc h.prow hall λq hq=>nk q _ (h.lq q hq).1 yal yal
  thr:=h.thr
  th:=λi t ht=>(h.th i t ht).keep hall λq hq=>nk q _ (h.ln i t ht q hq).1 yaj yaj
  lb:=⟨(hold _ lb).trans h.lb.1,h.lb.2⟩
  lp:=⟨(hold _ lp).trans h.lp.1,h.lp.2⟩
  ls:=λq hq=>⟨(hold q (h.srow.lt q hq).2).trans (h.ls q hq).1,(h.ls q hq).2⟩
  lf:=λq hq=>⟨(hold q (h.frow.lt q hq).2).trans (h.lf q hq).1,(h.lf q hq).2⟩
  lz:=λq hq=>⟨(hold q (h.zrow.lt q hq).2).trans (h.lz q hq).1,(h.lz q hq).2⟩
  ll:=λq hq=>by
   simp [Value.ownBlock] at hq
   subst hq
   exact ⟨if_pos rfl,hDg⟩
  lo:=λq hq=>⟨(hold q (h.orow.lt q hq).2).trans (h.lo q hq).1,(h.lo q hq).2⟩
  lt:=λq hq=>⟨(hold q (h.trow.lt q hq).2).trans (h.lt q hq).1,(h.lt q hq).2⟩
  lc:=λq hq=>⟨(hold q (h.crow.lt q hq).2).trans (h.lc q hq).1,(h.lc q hq).2⟩
  lq:=λq hq=>⟨(hold q (h.prow.lt q hq).2).trans (h.lq q hq).1,(h.lq q hq).2⟩
  ln:=λi t ht q hq=>⟨(hold q ((h.th i t ht).row.lt q hq).2).trans (h.ln i t ht q hq).1,(h.ln i t ht q hq).2⟩
  lk:=λi t ht=>⟨(hold _ (Qd (h.th i t ht).ksh)).trans (h.lk i t ht).1,(h.lk i t ht).2⟩}⟩
end
section
variable{w:World}
theorem ziu:Cl 13 #[.slice none 0 0] w λe w'=>e= .returned (.tuple #[.int .i64 0, .int .i64 0])/\Below w.heap.size w w':=by
 have hb:Below w.heap.size w ((w.alloc (.cells #[.int .i64 1] 3)).alloc (.cells #[.int .i64 1] 3)):=((Below.refl _ w).alloc (Nat.le_refl _) _).alloc yaj _
 have HB:=hid hb
 clear hb
 go_enter Tryz.func13,Tryz.ntmps13
 go_wp2
 go_loopw [4,6,10] (λv4 v6 v10 wr=>v4= .int .i64 0/\v6= .int .i64 0/\v10= .int .i64 0/\Hid (Below w.heap.size w wr)) (λ_ _ _ _=>0)
 case atStart=>exact ⟨rfl,rfl,rfl,HB⟩
 case round=>
  obtain ⟨rfl,rfl,rfl,HW⟩:=hrel
  go_wp2
  refine ⟨rfl, .tuple #[.int .i64 0, .int .i64 0],?_,rfl,HW.out⟩
  simp [results,Tryz.results13,go_sem]
theorem z3y(c5:w.cell? ⟨br,5,none⟩=some (.slice p 0 c)):Cl 24 #[ptr br] w λe w'=>e= .returned (.int .i64 3)/\w'=w:=by
 have hlt:br<w.heap.size:=blt c5
 go_enter Tryz.func24,Tryz.ntmps24
 go_wp2
 go_ret
 exact ⟨rfl,rfl⟩
theorem zlc(c0:w.cell? ⟨br,0,none⟩=some (ptr bp))(p0:w.cell? ⟨bp,0,none⟩=some (.slice p n c))(hn:0<(n:Int)):Cl 23 #[ptr br,wsv] w λe w'=>e= .returned (.int .i64 3)/\w'=w:=by
 have hlt:br<w.heap.size:=blt c0
 have hlp:bp<w.heap.size:=blt p0
 go_enter Tryz.func23,Tryz.ntmps23
 go_wp2
 go_ret
 exact ⟨rfl,rfl⟩
end
section
variable{w:World}
theorem end_if(c0:w.cell? ⟨br,0,none⟩=some (ptr bp))(c5:w.cell? ⟨br,5,none⟩=some (.slice (some ⟨go,0,none⟩) (n+1) co))(f5:w.frozen? ⟨br,5,none⟩=false)
  (oc:w.cell? ⟨go,n,none⟩=some (.int .i64 (a:Int))) (p0:w.cell? ⟨bp,0,none⟩=some (.slice (some ⟨gt,0,none⟩) (T+1) ct)) (tc:w.cell? ⟨gt,T,none⟩=some (.slice (some ⟨gn,0,none⟩) L cn)) (ft:w.frozen? ⟨gt,T,none⟩=false)
  (kc:w.cell? ⟨gn,a*14,none⟩=some (.int .u8 122)) (xc:w.cell? ⟨gn,a*14+11,none⟩=some x) (fx:w.frozen? ⟨gn,a*14+11,none⟩=false)
  (hn:n<=3) (hT:T<=2000) (ha:a<L) (_hL:L<=1000) (hco:n+1<=co) (_n1:br≠bp) (_n2:br≠gn) (n3:br≠gt) (n4:gn≠bp) (n5:gn≠gt) (n6:br≠go):
  Cl 24 #[ptr br] w λe w'=>e= .returned (.int .i64 0)/\w'=((w.setCell ⟨br,5,none⟩ (.slice (some ⟨go,0,none⟩) n co)).setCell ⟨gn,a*14+11,none⟩ (.int .i64 (L:Int))).setCell ⟨gt,T,none⟩ (.slice (some ⟨gn,0,none⟩) L cn):=by
 have b0:br<w.heap.size:=blt c0
 have b1:bp<w.heap.size:=blt p0
 have b2:go<w.heap.size:=blt oc
 have b3:gt<w.heap.size:=blt tc
 have b4:gn<w.heap.size:=blt kc
 have e1:wrap64 (((n+1:Nat):Int)- 1)=(n:Int):=yao
 have e2:wrap64 (((T+1:Nat):Int)- 1)=(T:Int):=yao
 have hneg: ¬(n:Int)<0:=yai
 go_enter Tryz.func24,Tryz.ntmps24
 go_wp2
 go_ret
 exact ⟨rfl,rfl⟩
end
theorem Ox:(Tryz.prog.info? 77).map (λi=>(i.zero,i.size,i.bytes))=some (some (.agg #[.int .u8 0, .int .i64 0, .string ⟨#[]⟩, .bool false, .int .i64 0, .bool false, .int .i64 0, .bool false, .int .i64 0, .int .i64 0, .int .i64 0, .int .i64 0, .int .i64 0, .int .i64 0]),14,120):=yak
def zen:List Value:=[.int .u8 41, .int .i64 0, .string ⟨#[]⟩, .bool false, .int .i64 0, .bool false, .int .i64 0, .bool false, .int .i64 0, .int .i64 0, .int .i64 0, .int .i64 0, .int .i64 0, .int .i64 0]
theorem Fu(w:World)(us:List Value)(t:TypeId): ∀j u',us[j]?=some u'->(w.alloc (.cells us.toArray t)).cell? ((⟨w.heap.size,0,none⟩:Addr).add j)=some u':=by
 intro j u' hj
 have:((⟨w.heap.size,0,none⟩:Addr).add j)=⟨w.heap.size,j,none⟩:=by simp [Addr.add];exact λe=>e.symm
 rw [this]
 exact (World.cell?_alloc_new w us.toArray t j).trans ya4
theorem Zr(h:w.ownsRow 0 e sz (.slice (some ⟨g,0,none⟩) n cap) n xs)(j:Nat)(hj:j<n*sz):
  w.cell? ⟨g,j,none⟩=xs[j]?/\w.frozen? ⟨g,j,none⟩=false/\g<w.heap.size:=by
 rcases h.2 with ⟨h2,_⟩|⟨g',cap',cur,hv,_,hg,hn,hm,hs,ht⟩
 ·cases h2
 ·cases hv
  refine ⟨?_,by simp [World.frozen?,hg],(Array.getElem?_eq_some_iff.1 hg).1⟩
  rw [<-ht,List.getElem?_take,if_pos hj]
  simp [World.cell?,hg]
section
variable{w:World}
theorem end_at(c0:w.cell? ⟨br,0,none⟩=some (ptr bp))(c5:w.cell? ⟨br,5,none⟩=some (.slice (some ⟨go,0,none⟩) (n+1) co))(f5:w.frozen? ⟨br,5,none⟩=false)
  (oc:w.cell? ⟨go,n,none⟩=some (.int .i64 (a:Int))) (p0:w.cell? ⟨bp,0,none⟩=some (.slice (some ⟨gt,0,none⟩) (T+1) ct)) (tc:w.cell? ⟨gt,T,none⟩=some (.slice (some ⟨gn,0,none⟩) L cn)) (ft:w.frozen? ⟨gt,T,none⟩=false)
  (hr:w.ownsRow 0 77 14 (.slice (some ⟨gn,0,none⟩) L cn) L xs) (kc:w.cell? ⟨gn,a*14,none⟩=some (.int .u8 40)) (hx:xs[a*14+11]?=some x)
  (hn:n<=3) (hT:T<=2000) (ha:a<L) (hL:L<=1000) (hco:n+1<=co) (_n1:br≠bp) (n2:br≠gn) (n3:br≠gt) (n4:gn≠bp) (n5:gn≠gt) (_n6:br≠go):
  Cl 24 #[ptr br] w λe w'=>e= .returned (.int .i64 0)/\ ∃w3 g cp,w3.ownsRow 0 77 14 (.slice (some ⟨g,0,none⟩) (L+1) cp) (L+1) (xs++zen)/\
   Chg (λb _=>b=gn) ((w.setCell ⟨br,5,none⟩ (.slice (some ⟨go,0,none⟩) n co)).alloc (.cells zen.toArray 77)) w3/\(g=gn\/g=w.heap.size+1)/\
   w'=(w3.setCell ⟨g,a*14+11,none⟩ (.int .i64 ((L+1:Nat):Int))).setCell ⟨gt,T,none⟩ (.slice (some ⟨g,0,none⟩) (L+1) cp):=by
 have b0:br<w.heap.size:=blt c0
 have b1:bp<w.heap.size:=blt p0
 have b2:go<w.heap.size:=blt oc
 have b3:gt<w.heap.size:=blt tc
 have b4:gn<w.heap.size:=blt kc
 have e1:wrap64 (((n+1:Nat):Int)- 1)=(n:Int):=yao
 have e2:wrap64 (((T+1:Nat):Int)- 1)=(T:Int):=yao
 have hneg: ¬(n:Int)<0:=yai
 obtain ⟨i0,hi0,hz0,hz1,hz2⟩:=info_parts Ox
 have hl1:L+1<=maxLen:=yap
 have hl2:(L+1)*120<=140737488355328:=yai
 have HO:Hid (((w.setCell ⟨br,5,none⟩ (.slice (some ⟨go,0,none⟩) n co)).alloc (.cells zen.toArray 77)).ownsRow 0 77 14 (.slice (some ⟨gn,0,none⟩) L cn) L xs):=
  hid (Qc hr (((Chg.refl (λk j=>k=br/\j=5) w).setCell (λ_=>⟨rfl,rfl⟩) _).alloc _) (λg hg i e=>by simp [Value.ownBlock] at hg;exact n2 (e.1.symm.trans hg.symm)))
 have HCB:Hid (∀w3 g cp,Chg (λb _=>(Value.slice (some ⟨gn,0,none⟩) L cn).ownBlock=some b) ((w.setCell ⟨br,5,none⟩ (.slice (some ⟨go,0,none⟩) n co)).alloc (.cells zen.toArray 77)) w3->w3.ownsRow 0 77 14 (.slice (some ⟨g,0,none⟩) (L+1) cp) (L+1) (xs++zen) ->
   w3.cell? ⟨br,0,none⟩=some (ptr bp)/\w3.cell? ⟨bp,0,none⟩=some (.slice (some ⟨gt,0,none⟩) (T+1) ct)/\w3.cell? ⟨gt,T,none⟩=some (.slice (some ⟨gn,0,none⟩) L cn)/\w3.frozen? ⟨gt,T,none⟩=false/\w3.cell? ⟨g,a*14+11,none⟩=some x/\w3.frozen? ⟨g,a*14+11,none⟩=false):=hid (by
  intro w3 g cp hch hown
  have hch2:Chg (λk j=>k=gn\/(k=br/\j=5)) w w3:=((((Chg.refl (λk j=>k=br/\j=5) w).setCell (λ_=>⟨rfl,rfl⟩) _).alloc _).mono (λ_ _ _ e=> .inr e)).trans (hch.mono (λk _ _ e=> .inl (by simp [Value.ownBlock] at e;exact e.symm)))
  obtain ⟨q1,q2,_⟩:=Zr hown (a*14+11) yai
  refine ⟨(hch2.cell _ _ b0 ?_).trans c0,(hch2.cell _ _ b1 ?_).trans p0,(hch2.cell _ _ b3 ?_).trans tc,(hch2.frozen _ _ b3).trans ft,?_,q2⟩
  ·rintro (e|e)
   ·exact n2 e
   ·omega
  ·rintro (e|e)
   ·exact n4 e.symm
   ·omega
  ·rintro (e|e)
   ·exact n5 e.symm
   ·exact n3 e.1.symm
  ·rw [q1,List.getElem?_append_left (by rw [hr.1];omega)]
   exact hx)
 have HCN:Hid (∀(j:Nat) (u':Value),zen[j]?=some u'->((w.setCell ⟨br,5,none⟩ (.slice (some ⟨go,0,none⟩) n co)).alloc (.cells zen.toArray 77)).cell? ((⟨w.heap.size,0,none⟩:Addr).add j)=some u'):=hid (by
  have:=Fu (w.setCell ⟨br,5,none⟩ (.slice (some ⟨go,0,none⟩) n co)) zen 77
  rw [Jq] at this
  exact this)
 have HNE:Hid (∀g,((Value.slice (some ⟨gn,0,none⟩) L cn).ownBlock=some g\/g=((w.setCell ⟨br,5,none⟩ (.slice (some ⟨go,0,none⟩) n co)).alloc (.cells zen.toArray 77)).heap.size)->g≠br/\g≠bp/\g≠gt):=hid (by
  rintro g (e|e)
  ·simp [Value.ownBlock] at e
   subst e
   exact ⟨λq=>n2 q.symm,n4,n5⟩
  ·have:g=w.heap.size+1:=by rw [e];simp
   omega)
 clear hr hx
 go_enter Tryz.func24,Tryz.ntmps24
 go_wp2_with (at_builtin;refine zds rfl _ _ 59 rfl 77 i0 _ 14 120 yal Tryz.underlying59 hi0 hz0 hz1 hz2 rfl (.slice (some ⟨gn,0,none⟩) L cn) L xs rfl HO.out ⟨w.heap.size,0,none⟩ zen rfl rfl HCN.out yal hl1 hl2 ?_;go_must (intro g cp w3 hown1 hch hg;have hq:=HCB.out w3 g cp hch hown1;have hne:=HNE.out g hg;have m1:=hne.1;have m2:=hne.2.1;have m3:=hne.2.2;have ha2:a<L+1:=Nat.lt_succ_of_lt ha;have q0:=hq.1;have q1:=hq.2.1;have q2:=hq.2.2.1;have q3:=hq.2.2.2.1;have q4:=hq.2.2.2.2.1;have q5:=hq.2.2.2.2.2;have HO1:=hid hown1;have HC1:=hid hch;have HG1:=hid hg;clear hown1 hch hg hq hne))
 go_ret
 exact ⟨rfl,w3,g,cp,HO1.out,HC1.out.mono (λk _ _ e=>by simp [Value.ownBlock] at e;exact e.symm),by have:=HG1.out;simp [Value.ownBlock] at this;rcases this with e|e;exact .inl e.symm;exact .inr e,rfl⟩
end
def zcb(a:Nat)(dp:Int):List Value:=[.int .u8 98, .int .i64 0, .string ⟨#[]⟩, .bool false, .int .i64 0, .bool false, .int .i64 0, .bool false, .int .i64 0, .int .i64 0, .int .i64 0, .int .i64 ((a:Int)+1), .int .i64 0, .int .i64 dp]
theorem ztj(a:Nat)(dp:Int): ∀u'∈zcb a dp,u'.oneCell'=true:=by
 intro u' hu
 simp only [zcb,List.mem_cons,List.not_mem_nil,or_false] at hu
 rcases hu with rfl|rfl|rfl|rfl|rfl|rfl|rfl|rfl|rfl|rfl|rfl|rfl|rfl|rfl<;>rfl
section
variable{w:World}
theorem end_lp(c0:w.cell? ⟨br,0,none⟩=some (ptr bp))(c5:w.cell? ⟨br,5,none⟩=some (.slice (some ⟨go,0,none⟩) (n+1) co))(f5:w.frozen? ⟨br,5,none⟩=false)
  (oc:w.cell? ⟨go,n,none⟩=some (.int .i64 (a:Int))) (p0:w.cell? ⟨bp,0,none⟩=some (.slice (some ⟨gt,0,none⟩) (T+1) ct)) (tc:w.cell? ⟨gt,T,none⟩=some (.slice (some ⟨gn,0,none⟩) L cn)) (ft:w.frozen? ⟨gt,T,none⟩=false)
  (hr:w.ownsRow 0 77 14 (.slice (some ⟨gn,0,none⟩) L cn) L xs) (kc:w.cell? ⟨gn,a*14,none⟩=some (.int .u8 108)) (dc:w.cell? ⟨gn,a*14+13,none⟩=some (.int .i64 dp)) (hx:xs[a*14+11]?=some x)
  (hn:n<=3) (hT:T<=2000) (ha:a<L) (hL:L<=1000) (hco:n+1<=co) (_n1:br≠bp) (n2:br≠gn) (n3:br≠gt) (n4:gn≠bp) (n5:gn≠gt) (_n6:br≠go):
  Cl 24 #[ptr br] w λe w'=>e= .returned (.int .i64 0)/\ ∃w3 g cp,w3.ownsRow 0 77 14 (.slice (some ⟨g,0,none⟩) (L+1) cp) (L+1) (xs++(zcb a dp))/\
   Chg (λb _=>b=gn) ((w.setCell ⟨br,5,none⟩ (.slice (some ⟨go,0,none⟩) n co)).alloc (.cells (zcb a dp).toArray 77)) w3/\(g=gn\/g=w.heap.size+1)/\
   w'=(w3.setCell ⟨g,a*14+11,none⟩ (.int .i64 ((L+1:Nat):Int))).setCell ⟨gt,T,none⟩ (.slice (some ⟨g,0,none⟩) (L+1) cp):=by
 have b0:br<w.heap.size:=blt c0
 have b1:bp<w.heap.size:=blt p0
 have b2:go<w.heap.size:=blt oc
 have b3:gt<w.heap.size:=blt tc
 have b4:gn<w.heap.size:=blt kc
 have e1:wrap64 (((n+1:Nat):Int)- 1)=(n:Int):=yao
 have e2:wrap64 (((T+1:Nat):Int)- 1)=(T:Int):=yao
 have hneg: ¬(n:Int)<0:=yai
 obtain ⟨i0,hi0,hz0,hz1,hz2⟩:=info_parts Ox
 have hl1:L+1<=maxLen:=yap
 have hl2:(L+1)*120<=140737488355328:=yai
 have HO:Hid (((w.setCell ⟨br,5,none⟩ (.slice (some ⟨go,0,none⟩) n co)).alloc (.cells (zcb a dp).toArray 77)).ownsRow 0 77 14 (.slice (some ⟨gn,0,none⟩) L cn) L xs):=
  hid (Qc hr (((Chg.refl (λk j=>k=br/\j=5) w).setCell (λ_=>⟨rfl,rfl⟩) _).alloc _) (λg hg i e=>by simp [Value.ownBlock] at hg;exact n2 (e.1.symm.trans hg.symm)))
 have HCB:Hid (∀w3 g cp,Chg (λb _=>(Value.slice (some ⟨gn,0,none⟩) L cn).ownBlock=some b) ((w.setCell ⟨br,5,none⟩ (.slice (some ⟨go,0,none⟩) n co)).alloc (.cells (zcb a dp).toArray 77)) w3->w3.ownsRow 0 77 14 (.slice (some ⟨g,0,none⟩) (L+1) cp) (L+1) (xs++(zcb a dp)) ->
   w3.cell? ⟨br,0,none⟩=some (ptr bp)/\w3.cell? ⟨bp,0,none⟩=some (.slice (some ⟨gt,0,none⟩) (T+1) ct)/\w3.cell? ⟨gt,T,none⟩=some (.slice (some ⟨gn,0,none⟩) L cn)/\w3.frozen? ⟨gt,T,none⟩=false/\w3.cell? ⟨g,a*14+11,none⟩=some x/\w3.frozen? ⟨g,a*14+11,none⟩=false):=hid (by
  intro w3 g cp hch hown
  have hch2:Chg (λk j=>k=gn\/(k=br/\j=5)) w w3:=((((Chg.refl (λk j=>k=br/\j=5) w).setCell (λ_=>⟨rfl,rfl⟩) _).alloc _).mono (λ_ _ _ e=> .inr e)).trans (hch.mono (λk _ _ e=> .inl (by simp [Value.ownBlock] at e;exact e.symm)))
  obtain ⟨q1,q2,_⟩:=Zr hown (a*14+11) yai
  refine ⟨(hch2.cell _ _ b0 ?_).trans c0,(hch2.cell _ _ b1 ?_).trans p0,(hch2.cell _ _ b3 ?_).trans tc,(hch2.frozen _ _ b3).trans ft,?_,q2⟩
  ·rintro (e|e)
   ·exact n2 e
   ·omega
  ·rintro (e|e)
   ·exact n4 e.symm
   ·omega
  ·rintro (e|e)
   ·exact n5 e.symm
   ·exact n3 e.1.symm
  ·rw [q1,List.getElem?_append_left (by rw [hr.1];omega)]
   exact hx)
 have HCN:Hid (∀(j:Nat) (u':Value),(zcb a dp)[j]?=some u'->((w.setCell ⟨br,5,none⟩ (.slice (some ⟨go,0,none⟩) n co)).alloc (.cells (zcb a dp).toArray 77)).cell? ((⟨w.heap.size,0,none⟩:Addr).add j)=some u'):=hid (by
  have:=Fu (w.setCell ⟨br,5,none⟩ (.slice (some ⟨go,0,none⟩) n co)) (zcb a dp) 77
  rw [Jq] at this
  exact this)
 have HNE:Hid (∀g,((Value.slice (some ⟨gn,0,none⟩) L cn).ownBlock=some g\/g=((w.setCell ⟨br,5,none⟩ (.slice (some ⟨go,0,none⟩) n co)).alloc (.cells (zcb a dp).toArray 77)).heap.size)->g≠br/\g≠bp/\g≠gt):=hid (by
  rintro g (e|e)
  ·simp [Value.ownBlock] at e
   subst e
   exact ⟨λq=>n2 q.symm,n4,n5⟩
  ·have:g=w.heap.size+1:=by rw [e];simp
   omega)
 clear hr hx
 go_enter Tryz.func24,Tryz.ntmps24
 go_wp2_with (at_builtin;refine zds rfl _ _ 59 rfl 77 i0 _ 14 120 yal Tryz.underlying59 hi0 hz0 hz1 hz2 rfl (.slice (some ⟨gn,0,none⟩) L cn) L xs rfl HO.out ⟨w.heap.size,0,none⟩ (zcb a dp) rfl rfl HCN.out (ztj a dp) hl1 hl2 ?_;go_must (intro g cp w3 hown1 hch hg;have hq:=HCB.out w3 g cp hch hown1;have hne:=HNE.out g hg;have m1:=hne.1;have m2:=hne.2.1;have m3:=hne.2.2;have ha2:a<L+1:=Nat.lt_succ_of_lt ha;have q0:=hq.1;have q1:=hq.2.1;have q2:=hq.2.2.1;have q3:=hq.2.2.2.1;have q4:=hq.2.2.2.2.1;have q5:=hq.2.2.2.2.2;have HO1:=hid hown1;have HC1:=hid hch;have HG1:=hid hg;clear hown1 hch hg hq hne))
 go_ret
 exact ⟨rfl,w3,g,cp,HO1.out,HC1.out.mono (λk _ _ e=>by simp [Value.ownBlock] at e;exact e.symm),by have:=HG1.out;simp [Value.ownBlock] at this;rcases this with e|e;exact .inl e.symm;exact .inr e,rfl⟩
end
theorem zg2(h:w.ownsRow 0 e sz (.slice (some ⟨g,0,none⟩) n cap) n xs)(j:Nat)(u:Value):
  (w.setCell ⟨g,j,none⟩ u).ownsRow 0 e sz (.slice (some ⟨g,0,none⟩) n cap) n (xs.set j u):=by
 refine ⟨by simpa using h.1,?_⟩
 rcases h.2 with ⟨h2,_⟩|⟨g',cap',cur,hv,hb,hg,hn,hm,hs,ht⟩
 ·cases h2
 ·exact z8e
theorem NodesAt.set(h:NodesAt xs N)(a:Nat)(v:Value):NodesAt (xs.set (a*14+11) v) N where
 len:=by rw [List.length_set];exact h.len
 kind:=λi k hi=>by rw [List.getElem?_set_ne yai];exact h.kind i k hi
 n:=λi k hi=>by rw [List.getElem?_set_ne yai];exact h.n i k hi
 deep:=λi hi=>by
  obtain ⟨v',hv⟩:=h.deep i hi
  exact ⟨v',by rw [List.getElem?_set_ne yai];exact hv⟩
theorem NodesAt.app{us:List Value}(h:NodesAt xs N)(hl:us.length=14)(h0:us[0]?=some (.int .u8 (k.1:Int)))(h12:us[12]?=some (.int .i64 k.2))(h13:us[13]?=some (.int .i64 dp)):NodesAt (xs++us) (N++[k]) where
 len:=by rw [List.length_append,List.length_append,h.len,hl,List.length_singleton];omega
 kind:=λi q hi=>by
  have hxl:=h.len
  by_cases c:i<N.length
  ·rw [List.getElem?_append_left c] at hi
   rw [List.getElem?_append_left yai]
   exact h.kind i q hi
  ·have:i=N.length:=by
    have:=(List.getElem?_eq_some_iff.1 hi).1
    rw [List.length_append,List.length_singleton] at this
    omega
   subst this
   have:q=k:=by simpa using hi.symm
   subst this
   rw [List.getElem?_append_right yai,hxl,Nat.sub_self]
   exact h0
 n:=λi q hi=>by
  have hxl:=h.len
  by_cases c:i<N.length
  ·rw [List.getElem?_append_left c] at hi
   rw [List.getElem?_append_left yai]
   exact h.n i q hi
  ·have:i=N.length:=by
    have:=(List.getElem?_eq_some_iff.1 hi).1
    rw [List.length_append,List.length_singleton] at this
    omega
   subst this
   have:q=k:=by simpa using hi.symm
   subst this
   rw [List.getElem?_append_right yai,hxl,Nat.add_sub_cancel_left]
   exact h12
 deep:=λi hi=>by
  have hxl:=h.len
  by_cases c:i<N.length
  ·obtain ⟨v',hv⟩:=h.deep i c
   exact ⟨v',by rw [List.getElem?_append_left yai];exact hv⟩
  ·have:i=N.length:=by
    rw [List.length_append,List.length_singleton] at hi
    omega
   subst this
   refine ⟨dp,?_⟩
   rw [List.getElem?_append_right yai,hxl,Nat.add_sub_cancel_left]
   exact h13
section
variable{D:Nat->Prop}{lab:Nat->Nat×Nat}{w:World}{m:DM}{d:DR}
theorem DMach.popOpen(h:DMach D lab w m d)(ho:d.opn=os++[a])(hv:m.ov= .slice (some ⟨go,0,none⟩) (os.length+1) co):
  DMach D lab (w.setCell ⟨m.br,5,none⟩ (.slice (some ⟨go,0,none⟩) os.length co)) {m with ov:= .slice (some ⟨go,0,none⟩) os.length co} {d with opn:=os}:=by
 have lb:=Qd h.sh
 have lp:=Qd h.psh
 have hall:Chg (λk j=>k=m.br/\j=5) w (w.setCell ⟨m.br,5,none⟩ (.slice (some ⟨go,0,none⟩) os.length co)):=(Chg.refl _ w).setCell (λ_=>⟨rfl,rfl⟩) _
 have nk: ∀k l,lab k=l->l≠(0,0)->∀j,¬(k=m.br/\j=5):=λk l hk h2 j e=>h2 (hk.symm.trans (e.1▸h.lb.1))
 have kb: ∀j,j≠5->¬(m.br=m.br/\j=5):=λj hj e=>hj e.2
 have kp:=nk m.bp _ h.lp.1 yal
 have hl:d.opn.length=os.length+1:=yas
 exact {h with
  sh:=(hall.shape _ lb).trans h.sh
  psh:=(hall.shape _ lp).trans h.psh
  free:=λj=>(hall.frozen _ _ lb).trans (h.free j)
  pfree:=λj=>(hall.frozen _ _ lp).trans (h.pfree j)
  c0:=(hall.cell _ _ lb (kb 0 yai)).trans h.c0
  c1:=(hall.cell _ _ lb (kb 1 yai)).trans h.c1
  c2:=(hall.cell _ _ lb (kb 2 yai)).trans h.c2
  c3:=(hall.cell _ _ lb (kb 3 yai)).trans h.c3
  c4:=(hall.cell _ _ lb (kb 4 yai)).trans h.c4
  c5:=Qg h.c5 rfl
  c6:=(hall.cell _ _ lb (kb 6 yai)).trans h.c6
  c7:=(hall.cell _ _ lb (kb 7 yai)).trans h.c7
  p0:=(hall.cell _ _ lp (kp 0)).trans h.p0
  p1:=(hall.cell _ _ lp (kp 1)).trans h.p1
  p2:=(hall.cell _ _ lp (kp 2)).trans h.p2
  p3:=(hall.cell _ _ lp (kp 3)).trans h.p3
  srow:=Qc h.srow hall λq hq=>nk q _ (h.ls q hq).1 yal
  frow:=Qc h.frow hall λq hq=>nk q _ (h.lf q hq).1 yal
  zrow:=Qc h.zrow hall λq hq=>nk q _ (h.lz q hq).1 yal
  lrow:=Qc h.lrow hall λq hq=>nk q _ (h.ll q hq).1 yal
  orow:=by
   have h1:=Qc h.orow hall λq hq=>nk q _ (h.lo q hq).1 yal
   rw [hl,hv] at h1
   have h2:=zkx h1 (Nat.le_succ os.length)
   have e:(d.opn.map λ(k:Nat)=>Value.int .i64 (k:Int)).take os.length=os.map λ(k:Nat)=>Value.int .i64 (k:Int):=yas
   rw [e] at h2
   exact h2
  trow:=Qc h.trow hall λq hq=>nk q _ (h.lt q hq).1 yal
  crow:=Qc h.crow hall λq hq=>nk q _ (h.lc q hq).1 yal
  prow:=Qc h.prow hall λq hq=>nk q _ (h.lq q hq).1 yal
  th:=λi t ht=>(h.th i t ht).keep hall λq hq=>nk q _ (h.ln i t ht q hq).1 yaj
  lo:=λq hq=>h.lo q (by rw [hv];exact hq)}
end
section
variable{D:Nat->Prop}{lab:Nat->Nat×Nat}{w:World}{m:DM}{d:DR}
theorem Sl(h:DMach D lab w m d):m.ts.length=d.thr.length:=by rw [<-h.thr,List.length_map]
theorem DMach.setThr(h:DMach D lab w m d)(hD: ∀k,w.heap.size<=k->D k){tl:List DT}{t:DT}(hts:m.ts=tl++[t])(hv:m.tv= .slice (some ⟨gt,0,none⟩) (tl.length+1) ct)
  (ho:w3.ownsRow 0 77 14 (.slice (some ⟨g,0,none⟩) N.length cp) N.length xs) (hN:NodesAt xs N)
  (hc:Chg (λb _=>t.nv.ownBlock=some b) w w3) (hg:t.nv.ownBlock=some g\/w.heap.size<=g):
  ∃lab',DMach D lab' (w3.setCell ⟨gt,tl.length,none⟩ (.slice (some ⟨g,0,none⟩) N.length cp)) {m with ts:=tl++[⟨.slice (some ⟨g,0,none⟩) N.length cp,t.kb,xs,N⟩]} {d with thr:=d.thr.dropLast++[N]}:=by
 have lb:=Qd h.sh
 have lp:=Qd h.psh
 have hti:m.ts[tl.length]?=some t:=ybo
 have hln:=h.ln tl.length t hti
 have hgt:lab gt=(0,7)/\D gt:=h.lt gt (by rw [hv];rfl)
 have bgt:gt<w.heap.size:=(h.trow.lt gt (by rw [hv];rfl)).2
 have hlen:=Sl h
 have htl:d.thr.length=tl.length+1:=yb3
 have hset:Chg (λk j=>k=gt/\j=tl.length) w3 (w3.setCell ⟨gt,tl.length,none⟩ (.slice (some ⟨g,0,none⟩) N.length cp)):=(Chg.refl _ w3).setCell (λ_=>⟨rfl,rfl⟩) _
 have hall:Chg (λk j=>t.nv.ownBlock=some k\/(k=gt/\j=tl.length)) w (w3.setCell ⟨gt,tl.length,none⟩ (.slice (some ⟨g,0,none⟩) N.length cp)):=(hc.mono (λ_ _ _ e=> .inl e)).trans (hset.mono (λ_ _ _ e=> .inr e))
 have hggt:g≠gt:=by
  rcases hg with e|e
  ·intro q
   have:=(hln g e).1
   rw [q,hgt.1] at this
   simp at this
  ·omega
 have hDg:D g:=by
  rcases hg with e|e
  ·exact (hln g e).2
  ·exact hD g e
 have hold: ∀k,k<w.heap.size->(if k=g then (tl.length+1,0) else lab k)=lab k:=by
  intro k hk
  by_cases e:k=g
  ·rw [if_pos e]
   rcases hg with hg|hg
   ·rw [e];exact (hln g hg).1.symm
   ·omega
  ·rw [if_neg e]
 have nk: ∀k l,lab k=l->l≠(tl.length+1,0)->l≠(0,7)->∀j,¬(t.nv.ownBlock=some k\/(k=gt/\j=tl.length)):=λk l hk h1 h2 j e=>by
  rcases e with e|e
  ·exact h1 (hk.symm.trans (hln k e).1)
  ·exact h2 (hk.symm.trans (e.1▸hgt.1))
 have kb:=nk m.br _ h.lb.1 yaj yal
 have kp:=nk m.bp _ h.lp.1 yaj yal
 have hnew: ∀(i:Nat) (q:DT),(tl++[⟨.slice (some ⟨g,0,none⟩) N.length cp,t.kb,xs,N⟩])[i]?=some q->(i<tl.length/\m.ts[i]?=some q)\/(i=tl.length/\q=⟨.slice (some ⟨g,0,none⟩) N.length cp,t.kb,xs,N⟩):=by
  intro i q hi
  by_cases c:i<tl.length
  ·rw [List.getElem?_append_left c] at hi
   exact .inl ⟨c,by rw [hts,List.getElem?_append_left c];exact hi⟩
  ·have:i=tl.length:=by
    have:=(List.getElem?_eq_some_iff.1 hi).1
    rw [List.length_append,List.length_singleton] at this
    omega
   subst this
   exact .inr ⟨rfl,by simpa using hi.symm⟩
 have hlen':(d.thr.dropLast++[N]).length=d.thr.length:=by rw [List.length_append,List.length_dropLast,List.length_singleton];omega
 refine ⟨λk=>if k=g then (tl.length+1,0) else lab k,{
  sh:=(hall.shape _ lb).trans h.sh
  psh:=(hall.shape _ lp).trans h.psh
  free:=λj=>(hall.frozen _ _ lb).trans (h.free j)
  pfree:=λj=>(hall.frozen _ _ lp).trans (h.pfree j)
  c0:=(hall.cell _ _ lb (kb 0)).trans h.c0
  c1:=(hall.cell _ _ lb (kb 1)).trans h.c1
  c2:=(hall.cell _ _ lb (kb 2)).trans h.c2
  c3:=(hall.cell _ _ lb (kb 3)).trans h.c3
  c4:=(hall.cell _ _ lb (kb 4)).trans h.c4
  c5:=(hall.cell _ _ lb (kb 5)).trans h.c5
  c6:=(hall.cell _ _ lb (kb 6)).trans h.c6
  c7:=(hall.cell _ _ lb (kb 7)).trans h.c7
  p0:=(hall.cell _ _ lp (kp 0)).trans h.p0
  p1:=(hall.cell _ _ lp (kp 1)).trans h.p1
  p2:=(hall.cell _ _ lp (kp 2)).trans h.p2
  p3:=(hall.cell _ _ lp (kp 3)).trans h.p3
  srow:=Qc h.srow hall λq hq=>nk q _ (h.ls q hq).1 yaj yal
  frow:=Qc h.frow hall λq hq=>nk q _ (h.lf q hq).1 yaj yal
  zrow:=Qc h.zrow hall λq hq=>nk q _ (h.lz q hq).1 yaj yal
  lrow:=Qc h.lrow hall λq hq=>nk q _ (h.ll q hq).1 yaj yal
  orow:=Qc h.orow hall λq hq=>nk q _ (h.lo q hq).1 yaj yal
  trow:=by
   have h1:=Qc h.trow hc λq hq i e=>by
    have:=(hln q e).1
    rw [(h.lt q hq).1] at this
    simp at this
   rw [htl,hv] at h1
   have h2:=Ut h1 tl.length (.slice (some ⟨g,0,none⟩) N.length cp)
   show World.ownsRow _ 0 59 1 m.tv (d.thr.dropLast++[N]).length _
   rw [hlen',htl,hv]
   have e:(m.ts.map DT.nv).set tl.length (.slice (some ⟨g,0,none⟩) N.length cp)=(tl++[(⟨.slice (some ⟨g,0,none⟩) N.length cp,t.kb,xs,N⟩:DT)]).map DT.nv:=ybo
   rw [e] at h2
   exact h2
  crow:=by
   have h1:=Qc h.crow hall λq hq=>nk q _ (h.lc q hq).1 yaj yal
   show World.ownsRow _ 0 40 1 m.cv (d.thr.dropLast++[N]).length _
   rw [hlen']
   rw [hts] at h1
   simpa using h1
  prow:=by
   have h1:=Qc h.prow hall λq hq=>nk q _ (h.lq q hq).1 yaj yal
   show World.ownsRow _ 0 4 1 m.pv (d.thr.dropLast++[N]).length _
   rw [hlen']
   exact h1
  thr:=by
   show (tl++[_]).map DT.N=d.thr.dropLast++[N]
   rw [<-h.thr,hts]
   simp
  th:=λi q hq=>by
   rcases hnew i q hq with ⟨c,hq'⟩|⟨_,rfl⟩
   ·refine (h.th i q hq').keep hall λb hb=>nk b _ (h.ln i q hq' b hb).1 yan yaj
   ·have ht:=h.th tl.length t hti
    have hk:=Qd ht.ksh
    exact ⟨Qc ho hset (λk hk j e=>by simp [Value.ownBlock] at hk;exact hggt (hk.trans e.1)),hN,(hall.shape _ hk).trans ht.ksh,λj=>(hall.frozen _ _ hk).trans (ht.kfree j)⟩
  lb:=⟨(hold _ lb).trans h.lb.1,h.lb.2⟩
  lp:=⟨(hold _ lp).trans h.lp.1,h.lp.2⟩
  ls:=λq hq=>⟨(hold q (h.srow.lt q hq).2).trans (h.ls q hq).1,(h.ls q hq).2⟩
  lf:=λq hq=>⟨(hold q (h.frow.lt q hq).2).trans (h.lf q hq).1,(h.lf q hq).2⟩
  lz:=λq hq=>⟨(hold q (h.zrow.lt q hq).2).trans (h.lz q hq).1,(h.lz q hq).2⟩
  ll:=λq hq=>⟨(hold q (h.lrow.lt q hq).2).trans (h.ll q hq).1,(h.ll q hq).2⟩
  lo:=λq hq=>⟨(hold q (h.orow.lt q hq).2).trans (h.lo q hq).1,(h.lo q hq).2⟩
  lt:=λq hq=>⟨(hold q (h.trow.lt q hq).2).trans (h.lt q hq).1,(h.lt q hq).2⟩
  lc:=λq hq=>⟨(hold q (h.crow.lt q hq).2).trans (h.lc q hq).1,(h.lc q hq).2⟩
  lq:=λq hq=>⟨(hold q (h.prow.lt q hq).2).trans (h.lq q hq).1,(h.lq q hq).2⟩
  ln:=λi q hq b hb=>by
   rcases hnew i q hq with ⟨_,hq'⟩|⟨rfl,rfl⟩
   ·exact ⟨(hold b ((h.th i q hq').row.lt b hb).2).trans (h.ln i q hq' b hb).1,(h.ln i q hq' b hb).2⟩
   ·simp [Value.ownBlock] at hb
    subst hb
    exact ⟨if_pos rfl,hDg⟩
  lk:=λi q hq=>by
   rcases hnew i q hq with ⟨_,hq'⟩|⟨rfl,rfl⟩
   ·exact ⟨(hold _ (Qd (h.th i q hq').ksh)).trans (h.lk i q hq').1,(h.lk i q hq').2⟩
   ·exact ⟨(hold _ (Qd (h.th _ t hti).ksh)).trans (h.lk _ t hti).1,(h.lk _ t hti).2⟩}⟩
end
theorem Za(h:w.ownsRow 0 e sz v n xs)(hn:0<n): ∃g cap,v= .slice (some ⟨g,0,none⟩) n cap/\n<=cap:=by
 rcases h.2 with ⟨_,e2⟩|⟨g,cap,cur,e1,_,_,hc,_⟩
 ·omega
 ·exact ⟨g,cap,e1,hc⟩
section
variable{D:Nat->Prop}{lab:Nat->Nat×Nat}{w:World}{m:DM}{d:DR}
structure z5u(w:World)(m:DM)(d:DR)(os:List Nat)(a:Nat)(N:List NK)(go co gt ct gn cn:Nat)(tl:List DT)(t:DT):Prop where
 ov:m.ov= .slice (some ⟨go,0,none⟩) (os.length+1) co
 hco:os.length+1<=co
 tv:m.tv= .slice (some ⟨gt,0,none⟩) (tl.length+1) ct
 ts:m.ts=tl++[t]
 tN:t.N=N
 nv:t.nv= .slice (some ⟨gn,0,none⟩) N.length cn
 oc:w.cell? ⟨go,os.length,none⟩=some (.int .i64 (a:Int))
 tc:w.cell? ⟨gt,tl.length,none⟩=some (.slice (some ⟨gn,0,none⟩) N.length cn)
 ft:w.frozen? ⟨gt,tl.length,none⟩=false
 n2:m.br≠gn
 n3:m.br≠gt
 n4:gn≠m.bp
 n5:gn≠gt
 n6:m.br≠go
 n1:m.br≠m.bp
theorem DMach.endAt(h:DMach D lab w m d)(ho:d.opn=os++[a])(hN:d.thr.getLast?=some N)(ha:a<N.length): ∃go co gt ct gn cn tl t,z5u w m d os a N go co gt ct gn cn tl t:=by
 have hol:d.opn.length=os.length+1:=yas
 have hlen:=Sl h
 have hne:d.thr≠[]:=ycg
 have hpos:0<d.thr.length:=List.length_pos_iff.2 hne
 obtain ⟨tl,t,hts⟩: ∃tl t,m.ts=tl++[t]:=by
  rcases List.eq_nil_or_concat m.ts with e|⟨tl,t,e⟩
  ·rw [e] at hlen;simp at hlen;omega
  ·exact ⟨tl,t,by rw [e,List.concat_eq_append]⟩
 have htl:d.thr.length=tl.length+1:=yb3
 have htN:t.N=N:=by
  have:=h.thr
  rw [hts] at this
  rw [<-this] at hN
  simpa using hN
 have hti:m.ts[tl.length]?=some t:=ybo
 have hth:=h.th _ t hti
 obtain ⟨go,co,hov,hco⟩:=Za h.orow yai
 obtain ⟨gt,ct,htv,_⟩:=Za h.trow hpos
 obtain ⟨gn,cn,hnv,_⟩:=Za hth.row (by rw [htN];omega)
 rw [hol] at hov hco
 rw [htl] at htv
 rw [htN] at hnv
 have lo:=(h.lo go (by rw [hov];rfl)).1
 have lt:=(h.lt gt (by rw [htv];rfl)).1
 have ln:=(h.ln _ t hti gn (by rw [hnv];rfl)).1
 have h1:=h.orow
 rw [hol,hov] at h1
 have h2:=h.trow
 rw [htl,htv] at h2
 obtain ⟨q1,_,_⟩:=Qm h1 os.length yai
 obtain ⟨r1,r2,_⟩:=Qm h2 tl.length yai
 refine ⟨go,co,gt,ct,gn,cn,tl,t,⟨hov,hco,htv,hts,htN,hnv,?_,?_,r2,?_,?_,?_,?_,?_,?_⟩⟩
 ·rw [q1,ho];simp
 ·rw [r1,hts,<-hnv];simp
 ·intro e;have:=h.lb.1;rw [e,ln] at this;simp at this
 ·intro e;have:=h.lb.1;rw [e,lt] at this;simp at this
 ·intro e;have:=h.lp.1;rw [<-e,ln] at this;simp at this
 ·intro e;rw [e,lt] at ln;simp at ln
 ·intro e;have:=h.lb.1;rw [e,lo] at this;simp at this
 ·intro e;have:=h.lb.1;rw [e,h.lp.1] at this;simp at this
theorem DMach.end_if(h:DMach D lab w m d)(hD: ∀k,w.heap.size<=k->D k)(ho:d.opn=os++[a])(hN:d.thr.getLast?=some N)(hk:N[a]?=some k)(h122:k.1=122)(b1:os.length<=3)(b2:d.thr.length<=2000)(b3:N.length<=1000):
  Cl 24 #[ptr m.br] w λe w'=>e= .returned (.int .i64 0)/\Chg (λb _=>D b) w w'/\ ∃lab' m',m'.br=m.br/\m'.bp=m.bp/\DMach D lab' w' m' {d with opn:=os,thr:=d.thr.dropLast++[N]}:=by
 have ha:a<N.length:=(List.getElem?_eq_some_iff.1 hk).1
 obtain ⟨go,co,gt,ct,gn,cn,tl,t,E⟩:=h.endAt ho hN ha
 have hti:m.ts[tl.length]?=some t:=by rw [E.ts];simp
 have hth:=h.th _ t hti
 have hrow:=hth.row
 rw [E.tN,E.nv] at hrow
 have hnod:=hth.nodes
 rw [E.tN] at hnod
 obtain ⟨k1,_,_⟩:=Zr hrow (a*14) yai
 obtain ⟨k2,k3,_⟩:=Zr hrow (a*14+11) yai
 have hkc:w.cell? ⟨gn,a*14,none⟩=some (.int .u8 122):=by
  rw [k1,hnod.kind a k hk,h122];rfl
 obtain ⟨x,hx⟩: ∃x,t.xs[a*14+11]?=some x:=z9k
 have hlen:=Sl h
 have hTl:tl.length<=2000:=yc5
 refine (Go.Proofs.YtphcopbffecceaaGreatDoor.end_if h.c0 yc2 (h.free 5) E.oc yc3 E.tc E.ft hkc (k2.trans hx) k3 b1 hTl ha b3 E.hco E.n1 E.n2 E.n3 E.n4 E.n5 E.n6).mono ?_
 rintro e w' ⟨rfl,rfl⟩
 have h1:=h.popOpen ho E.ov
 have hDn:=(h.ln _ t hti gn ybp).2
 have hDt:=(h.lt gt (by rw [E.tv];rfl)).2
 have hrow1:=(h1.th tl.length t hti).row
 rw [E.tN,E.nv] at hrow1
 obtain ⟨lab',h2⟩:=h1.setThr (λq hq=>hD q yc4) E.ts E.tv (zg2 hrow1 (a*14+11) (.int .i64 (N.length:Int))) (hnod.set a _) ((Chg.refl _ _).setCell (λ_=>by rw [E.nv];rfl) _) (.inl ybp)
 refine ⟨rfl,?_,lab',_,?_,?_,h2⟩
 rotate_left
 ·rfl
 ·rfl
 exact (((Chg.refl (λb _=>D b) w).setCell (λ_=>h.lb.2) _).setCell (λ_=>hDn) _).setCell (λ_=>hDt) _
end
section
variable{D:Nat->Prop}{lab:Nat->Nat×Nat}{w:World}{m:DM}{d:DR}
theorem DMach.end_at(h:DMach D lab w m d)(hD: ∀k,w.heap.size<=k->D k)(ho:d.opn=os++[a])(hN:d.thr.getLast?=some N)(hk:N[a]?=some k)(h40:k.1=40)(b1:os.length<=3)(b2:d.thr.length<=2000)(b3:N.length<=1000):
  Cl 24 #[ptr m.br] w λe w'=>e= .returned (.int .i64 0)/\Chg (λb _=>D b) w w'/\ ∃lab' m',m'.br=m.br/\m'.bp=m.bp/\DMach D lab' w' m' {d with opn:=os,thr:=d.thr.dropLast++[N++[(41,0)]]}:=by
 have ha:a<N.length:=(List.getElem?_eq_some_iff.1 hk).1
 obtain ⟨go,co,gt,ct,gn,cn,tl,t,E⟩:=h.endAt ho hN ha
 have hti:m.ts[tl.length]?=some t:=by rw [E.ts];simp
 have hth:=h.th _ t hti
 have hrow:=hth.row
 rw [E.tN,E.nv] at hrow
 have hnod:=hth.nodes
 rw [E.tN] at hnod
 obtain ⟨k1,_,_⟩:=Zr hrow (a*14) yai
 have hkc:w.cell? ⟨gn,a*14,none⟩=some (.int .u8 40):=by
  rw [k1,hnod.kind a k hk,h40];rfl
 obtain ⟨x,hx⟩: ∃x,t.xs[a*14+11]?=some x:=z9k
 have hlen:=Sl h
 have hTl:tl.length<=2000:=yc5
 refine (Go.Proofs.YtphcopbffecceaaGreatDoor.end_at h.c0 yc2 (h.free 5) E.oc yc3 E.tc E.ft hrow hkc hx b1 hTl ha b3 E.hco E.n1 E.n2 E.n3 E.n4 E.n5 E.n6).mono ?_
 rintro e w' ⟨rfl,w3,g,cp,q1,q2,q3,rfl⟩
 have h1:=h.popOpen ho E.ov
 have hDn:=(h.ln _ t hti gn ybp).2
 have hDt:=(h.lt gt (by rw [E.tv];rfl)).2
 have hDg:D g:=by
  rcases q3 with rfl|e
  ·exact hDn
  ·exact hD g yai
 have hch:Chg (λb _=>b=gn) (w.setCell ⟨m.br,5,none⟩ (.slice (some ⟨go,0,none⟩) os.length co)) w3:=((Chg.refl (λb _=>b=gn) _).alloc _).trans q2
 have hch':Chg (λb _=>t.nv.ownBlock=some b) (w.setCell ⟨m.br,5,none⟩ (.slice (some ⟨go,0,none⟩) os.length co)) (w3.setCell ⟨g,a*14+11,none⟩ (.int .i64 ((N.length+1:Nat):Int))):=(hch.mono (λb _ _ e=>by rw [E.nv,e];rfl)).setCell (λhlt=>by
  rcases q3 with rfl|e
  ·rw [E.nv];rfl
  ·rw [Jq] at hlt;omega) _
 have hl:(N++[((41:Nat),(0:Int))]).length=N.length+1:=yaj
 have hrow2:=zg2 q1 (a*14+11) (.int .i64 ((N.length+1:Nat):Int))
 rw [<-hl] at hrow2 hch'
 have hn2:NodesAt ((t.xs++zen).set (a*14+11) (.int .i64 (((N++[((41:Nat),(0:Int))]).length:Nat):Int))) (N++[(41,0)]):=(hnod.app (dp:=0) rfl rfl rfl rfl).set a _
 obtain ⟨lab',h2⟩:=h1.setThr (λq hq=>hD q yc4) E.ts E.tv hrow2 hn2 hch' (by
  rcases q3 with rfl|e
  ·exact .inl ybp
  ·exact .inr (by rw [Jq];omega))
 rw [hl] at h2
 refine ⟨rfl,?_,lab',_,?_,?_,h2⟩
 rotate_left
 ·rfl
 ·rfl
 have c1:Chg (λb _=>D b) w w3:=((Chg.refl (λb _=>D b) w).setCell (λ_=>h.lb.2) _).trans (hch.mono λb _ _ e=>e▸hDn)
 exact (c1.setCell (λ_=>hDg) _).setCell (λ_=>hDt) _
theorem DMach.end_lp(h:DMach D lab w m d)(hD: ∀k,w.heap.size<=k->D k)(ho:d.opn=os++[a])(hN:d.thr.getLast?=some N)(hk:N[a]?=some k)(h108:k.1=108)(b1:os.length<=3)(b2:d.thr.length<=2000)(b3:N.length<=1000):
  Cl 24 #[ptr m.br] w λe w'=>e= .returned (.int .i64 0)/\Chg (λb _=>D b) w w'/\ ∃lab' m',m'.br=m.br/\m'.bp=m.bp/\DMach D lab' w' m' {d with opn:=os,thr:=d.thr.dropLast++[N++[(98,0)]]}:=by
 have ha:a<N.length:=(List.getElem?_eq_some_iff.1 hk).1
 obtain ⟨go,co,gt,ct,gn,cn,tl,t,E⟩:=h.endAt ho hN ha
 have hti:m.ts[tl.length]?=some t:=by rw [E.ts];simp
 have hth:=h.th _ t hti
 have hrow:=hth.row
 rw [E.tN,E.nv] at hrow
 have hnod:=hth.nodes
 rw [E.tN] at hnod
 obtain ⟨k1,_,_⟩:=Zr hrow (a*14) yai
 have hkc:w.cell? ⟨gn,a*14,none⟩=some (.int .u8 108):=by
  rw [k1,hnod.kind a k hk,h108];rfl
 obtain ⟨x,hx⟩: ∃x,t.xs[a*14+11]?=some x:=z9k
 obtain ⟨dp,hdp⟩:=hnod.deep a ha
 obtain ⟨k4,_,_⟩:=Zr hrow (a*14+13) yai
 have hlen:=Sl h
 have hTl:tl.length<=2000:=yc5
 refine (Go.Proofs.YtphcopbffecceaaGreatDoor.end_lp h.c0 yc2 (h.free 5) E.oc yc3 E.tc E.ft hrow hkc (k4.trans hdp) hx b1 hTl ha b3 E.hco E.n1 E.n2 E.n3 E.n4 E.n5 E.n6).mono ?_
 rintro e w' ⟨rfl,w3,g,cp,q1,q2,q3,rfl⟩
 have h1:=h.popOpen ho E.ov
 have hDn:=(h.ln _ t hti gn ybp).2
 have hDt:=(h.lt gt (by rw [E.tv];rfl)).2
 have hDg:D g:=by
  rcases q3 with rfl|e
  ·exact hDn
  ·exact hD g yai
 have hch:Chg (λb _=>b=gn) (w.setCell ⟨m.br,5,none⟩ (.slice (some ⟨go,0,none⟩) os.length co)) w3:=((Chg.refl (λb _=>b=gn) _).alloc _).trans q2
 have hch':Chg (λb _=>t.nv.ownBlock=some b) (w.setCell ⟨m.br,5,none⟩ (.slice (some ⟨go,0,none⟩) os.length co)) (w3.setCell ⟨g,a*14+11,none⟩ (.int .i64 ((N.length+1:Nat):Int))):=(hch.mono (λb _ _ e=>by rw [E.nv,e];rfl)).setCell (λhlt=>by
  rcases q3 with rfl|e
  ·rw [E.nv];rfl
  ·rw [Jq] at hlt;omega) _
 have hl:(N++[((98:Nat),(0:Int))]).length=N.length+1:=yaj
 have hrow2:=zg2 q1 (a*14+11) (.int .i64 ((N.length+1:Nat):Int))
 rw [<-hl] at hrow2 hch'
 have hn2:NodesAt ((t.xs++zcb a dp).set (a*14+11) (.int .i64 (((N++[((98:Nat),(0:Int))]).length:Nat):Int))) (N++[(98,0)]):=(hnod.app (dp:=dp) rfl rfl rfl rfl).set a _
 obtain ⟨lab',h2⟩:=h1.setThr (λq hq=>hD q yc4) E.ts E.tv hrow2 hn2 hch' (by
  rcases q3 with rfl|e
  ·exact .inl ybp
  ·exact .inr (by rw [Jq];omega))
 rw [hl] at h2
 refine ⟨rfl,?_,lab',_,?_,?_,h2⟩
 rotate_left
 ·rfl
 ·rfl
 have c1:Chg (λb _=>D b) w w3:=((Chg.refl (λb _=>D b) w).setCell (λ_=>h.lb.2) _).trans (hch.mono λb _ _ e=>e▸hDn)
 exact (c1.setCell (λ_=>hDg) _).setCell (λ_=>hDt) _
end
section
variable{D:Nat->Prop}{lab:Nat->Nat×Nat}{w:World}{m:DM}{d:DR}
def DPost(D:Nat->Prop)(w:World)(m:DM)(r:Except Int DR)(e:Ending)(w':World):Prop:=Chg (λb _=>D b) w w'/\match r with
 | .ok d'=>e= .returned (.int .i64 0)/\ ∃lab' m',m'.br=m.br/\m'.bp=m.bp/\DMach D lab' w' m' d'
 | .error er=>e= .returned (.int .i64 er)
theorem DMach.end_is(h:DMach D lab w m d)(hD: ∀k,w.heap.size<=k->D k)(hne:d.opn≠[]->∃N,d.thr.getLast?=some N/\N.length<=1000/\ ∀a∈d.opn,∃k,N[a]?=some k/\(k.1=40\/k.1=108\/k.1=122))(b1:d.opn.length<=4)(b2:d.thr.length<=2000):
  Cl 24 #[ptr m.br] w (DPost D w m (zb9 d)):=by
 rcases List.eq_nil_or_concat d.opn with e|⟨os,a,e⟩
 ·have h5:=h.c5
  obtain ⟨p,c,hv⟩: ∃p c,m.ov= .slice p 0 c:=by
   have hr:=h.orow
   rw [e] at hr
   rcases hr.2 with ⟨e1,_⟩|⟨g,cap,cur,e1,_⟩
   ·exact ⟨_,_,e1⟩
   ·exact ⟨_,_,e1⟩
  rw [hv] at h5
  refine (z3y h5).mono ?_
  rintro e' w' ⟨rfl,rfl⟩
  have:zb9 d= .error 3:=by unfold zb9;rw [e];rfl
  rw [this]
  exact ⟨Chg.refl _ _,rfl⟩
 ·rw [List.concat_eq_append] at e
  obtain ⟨N,hN,hl,hk⟩:=hne ybl
  obtain ⟨k,hka,hkk⟩:=hk a ybl
  have hos:os.length<=3:=by rw [e] at b1;simp at b1;omega
  have hd:zb9 d= .ok {d with opn:=os,thr:=d.thr.dropLast++[N++zo9 (some k)]}:=by
   unfold zb9
   have e1:d.opn.getLast?=some a:=ybl
   have e2:d.opn.dropLast=os:=ybl
   rw [e1,hN,e2]
   dsimp only
   rw [hka]
  rw [hd]
  rcases hkk with q|q|q
  ·have hc:zo9 (some k)=[(41,0)]:=by unfold zo9;dsimp only;rw [if_pos q]
   rw [hc]
   refine (h.end_at hD e hN hka q hos b2 hl).mono ?_
   rintro e' w' ⟨rfl,h1,h2⟩
   exact ⟨h1,rfl,h2⟩
  ·have hc:zo9 (some k)=[(98,0)]:=by unfold zo9;dsimp only;rw [if_neg yai,if_pos q]
   rw [hc]
   refine (h.end_lp hD e hN hka q hos b2 hl).mono ?_
   rintro e' w' ⟨rfl,h1,h2⟩
   exact ⟨h1,rfl,h2⟩
  ·have hc:zo9 (some k)=[]:=by unfold zo9;dsimp only;rw [if_neg yai,if_neg yai]
   rw [hc,List.append_nil]
   refine (h.end_if hD e hN hka q hos b2 hl).mono ?_
   rintro e' w' ⟨rfl,h1,h2⟩
   exact ⟨h1,rfl,h2⟩
end
def FM(D:Nat->Prop)(lab:Nat->Nat×Nat)(m:DM)(L:List (Nat×Nat))(C P:List Nat)(k j:Nat):Prop:=D k->lab k∈L\/(k=m.br/\j∈C)\/(k=m.bp/\j∈P)
section
variable{D:Nat->Prop}{lab:Nat->Nat×Nat}{w w':World}{m:DM}{d:DR}{L:List (Nat×Nat)}{C P:List Nat}
theorem DMach.fm(h:DMach D lab w m d){k:Nat}(hk:lab k=l/\D k)(hl:l∉L)(h0:l≠(0,0))(h1:l≠(0,1)): ∀j,¬FM D lab m L C P k j:=λj e=>by
 rcases e hk.2 with e|e|e
 ·rw [hk.1] at e;exact hl e
 ·exact h0 (hk.1.symm.trans (e.1▸h.lb.1))
 ·exact h1 (hk.1.symm.trans (e.1▸h.lp.1))
theorem DMach.fmb(h:DMach D lab w m d)(h0:(0,0)∉L)(hj:j∉C): ¬FM D lab m L C P m.br j:=λe=>by
 rcases e h.lb.2 with e|e|e
 ·rw [h.lb.1] at e;exact h0 e
 ·exact hj e.2
 ·have:=h.lb.1
  rw [e.1,h.lp.1] at this
  cases this
theorem DMach.fmp(h:DMach D lab w m d)(h0:(0,1)∉L)(hj:j∉P): ¬FM D lab m L C P m.bp j:=λe=>by
 rcases e h.lp.2 with e|e|e
 ·rw [h.lp.1] at e;exact h0 e
 ·have:=h.lp.1
  rw [e.1,h.lb.1] at this
  cases this
 ·exact hj e.2
theorem DMach.kb(h:DMach D lab w m d)(hall:Chg (FM D lab m L C P) w w')(e:w.cell? ⟨m.br,j,none⟩=some v)(h0:(0,0)∉L:=by simp)(hj:j∉C:=by simp):w'.cell? ⟨m.br,j,none⟩=some v:=(hall.cell _ _ (Qd h.sh) (h.fmb h0 hj)).trans e
theorem DMach.kp(h:DMach D lab w m d)(hall:Chg (FM D lab m L C P) w w')(e:w.cell? ⟨m.bp,j,none⟩=some v)(h0:(0,1)∉L:=by simp)(hj:j∉P:=by simp):w'.cell? ⟨m.bp,j,none⟩=some v:=(hall.cell _ _ (Qd h.psh) (h.fmp h0 hj)).trans e
theorem DMach.kr(h:DMach D lab w m d)(hall:Chg (FM D lab m L C P) w w'){k:Nat}(hr:w.ownsRow 0 t k v n xs)(hl: ∀g,v.ownBlock=some g->lab g=l/\D g)(hL:l∉L:=by simp)(h0:l≠(0,0):=by simp)(h1:l≠(0,1):=by simp):w'.ownsRow 0 t k v n xs:=Qc hr hall λq hq=>h.fm (hl q hq) hL h0 h1
theorem z6t{lab':Nat->Nat×Nat}(hold: ∀k,k<w.heap.size->lab' k=lab k){k:Nat}(hr:w.ownsRow 0 t k v n xs)(hl: ∀g,v.ownBlock=some g->lab g=l/\D g): ∀g,v.ownBlock=some g->lab' g=l/\D g:=λq hq=>⟨(hold q (hr.lt q hq).2).trans (hl q hq).1,(hl q hq).2⟩
theorem DMach.shareF(h:DMach D lab w m d)(hD: ∀k,w.heap.size<=k->D k)(h0:d.thr=[]){x:ByteArray}{n:Int}
  (r1:w'.ownsRow 0 9 1 (.slice (some ⟨g1,0,none⟩) (d.shared.length+1) c1) (d.shared.length+1) ((d.shared.map λp=> .string p.1)++[.string x]))
  (r2:w'.ownsRow 0 3 1 (.slice (some ⟨g2,0,none⟩) (d.shared.length+1) c2) (d.shared.length+1) ((d.shared.map λp=> .int .i64 p.2.1)++[.int .i64 d.cells]))
  (r3:w'.ownsRow 0 3 1 (.slice (some ⟨g3,0,none⟩) (d.shared.length+1) c3) (d.shared.length+1) ((d.shared.map λp=> .int .i64 p.2.2)++[.int .i64 n]))
  (k1:w'.cell? ⟨m.br,1,none⟩=some (.slice (some ⟨g1,0,none⟩) (d.shared.length+1) c1)) (k2:w'.cell? ⟨m.br,2,none⟩=some (.slice (some ⟨g2,0,none⟩) (d.shared.length+1) c2)) (k3:w'.cell? ⟨m.br,3,none⟩=some (.slice (some ⟨g3,0,none⟩) (d.shared.length+1) c3)) (k4:w'.cell? ⟨m.bp,1,none⟩=some (.int .i64 (d.cells+n)))
  (hg1:m.sv.ownBlock=some g1\/w.heap.size<=g1) (hg2:m.fv.ownBlock=some g2\/w.heap.size<=g2) (hg3:m.zv.ownBlock=some g3\/w.heap.size<=g3) (n12:g2≠g1) (n13:g3≠g1) (n23:g3≠g2)
  (hall:Chg (FM D lab m [(0,2),(0,3),(0,4)] [1,2,3] [1]) w w'):
  ∃lab',DMach D lab' w' {m with sv:=(.slice (some ⟨g1,0,none⟩) (d.shared.length+1) c1),fv:=(.slice (some ⟨g2,0,none⟩) (d.shared.length+1) c2),zv:=(.slice (some ⟨g3,0,none⟩) (d.shared.length+1) c3)} {d with shared:=d.shared++[(x,d.cells,n)],cells:=d.cells+n}:=by
 have lb:=Qd h.sh
 have lp:=Qd h.psh
 have ht0:m.ts=[]:=by have:=h.thr;rw [h0] at this;simpa using this
 have hold: ∀k,k<w.heap.size->(λk=>if k=g1 then (0,2) else if k=g2 then (0,3) else if k=g3 then (0,4) else lab k) k=lab k:=by
  intro k hk
  dsimp only
  by_cases eg1:k=g1
  ·rw [if_pos eg1]
   rcases hg1 with q|q
   ·rw [eg1];exact (h.ls g1 q).1.symm
   ·omega
  rw [if_neg eg1]
  by_cases eg2:k=g2
  ·rw [if_pos eg2]
   rcases hg2 with q|q
   ·rw [eg2];exact (h.lf g2 q).1.symm
   ·omega
  rw [if_neg eg2]
  by_cases eg3:k=g3
  ·rw [if_pos eg3]
   rcases hg3 with q|q
   ·rw [eg3];exact (h.lz g3 q).1.symm
   ·omega
  rw [if_neg eg3]
 have Dg1:D g1:=by
  rcases hg1 with q|q
  ·exact (h.ls g1 q).2
  ·exact hD g1 q
 have Dg2:D g2:=by
  rcases hg2 with q|q
  ·exact (h.lf g2 q).2
  ·exact hD g2 q
 have Dg3:D g3:=by
  rcases hg3 with q|q
  ·exact (h.lz g3 q).2
  ·exact hD g3 q
 refine ⟨λk=>if k=g1 then (0,2) else if k=g2 then (0,3) else if k=g3 then (0,4) else lab k,{
  sh:=(hall.shape _ lb).trans h.sh
  psh:=(hall.shape _ lp).trans h.psh
  free:=λj=>(hall.frozen _ _ lb).trans (h.free j)
  pfree:=λj=>(hall.frozen _ _ lp).trans (h.pfree j)
  c0:=h.kb hall h.c0
  c1:=k1
  c2:=k2
  c3:=k3
  c4:=h.kb hall h.c4
  c5:=h.kb hall h.c5
  c6:=h.kb hall h.c6
  c7:=h.kb hall h.c7
  p0:=h.kp hall h.p0
  p1:=k4
  p2:=h.kp hall h.p2
  p3:=h.kp hall h.p3
  srow:=by simpa using r1
  frow:=by simpa using r2
  zrow:=by simpa using r3
  lrow:=h.kr hall h.lrow h.ll
  orow:=h.kr hall h.orow h.lo
  trow:=h.kr hall h.trow h.lt
  crow:=by
   have h1:=Qc h.crow hall λq hq=>h.fm (h.lc q hq) yaj yaj yaj
   rw [ht0] at h1⊢
   exact h1
  prow:=h.kr hall h.prow h.lq
  thr:=h.thr
  th:=λi t ht=>by rw [ht0] at ht;simp at ht
  lb:=⟨(hold _ lb).trans h.lb.1,h.lb.2⟩
  lp:=⟨(hold _ lp).trans h.lp.1,h.lp.2⟩
  ls:=λq hq=>by
   simp [Value.ownBlock] at hq
   subst hq
   exact ⟨if_pos rfl,Dg1⟩
  lf:=λq hq=>by
   simp [Value.ownBlock] at hq
   subst hq
   exact ⟨(if_neg n12).trans (if_pos rfl),Dg2⟩
  lz:=λq hq=>by
   simp [Value.ownBlock] at hq
   subst hq
   exact ⟨(if_neg n13).trans ((if_neg n23).trans (if_pos rfl)),Dg3⟩
  ll:=z6t hold h.lrow h.ll
  lo:=z6t hold h.orow h.lo
  lt:=z6t hold h.trow h.lt
  lc:=z6t hold h.crow h.lc
  lq:=z6t hold h.prow h.lq
  ln:=λi t ht q hq=>⟨(hold q ((h.th i t ht).row.lt q hq).2).trans (h.ln i t ht q hq).1,(h.ln i t ht q hq).2⟩
  lk:=λi t ht=>⟨(hold _ (Qd (h.th i t ht).ksh)).trans (h.lk i t ht).1,(h.lk i t ht).2⟩
 }⟩
theorem DMach.threadF(h:DMach D lab w m d)(hD: ∀k,w.heap.size<=k->D k){kb:Nat}
  (r1:w'.ownsRow 0 59 1 (.slice (some ⟨g1,0,none⟩) (d.thr.length+1) c1) (d.thr.length+1) (m.ts.map DT.nv++[.slice none 0 0]))
  (r2:w'.ownsRow 0 40 1 (.slice (some ⟨g2,0,none⟩) (d.thr.length+1) c2) (d.thr.length+1) ((m.ts.map λt=> .slice (some ⟨t.kb,0,none⟩) d.cells.toNat d.cells.toNat)++[.slice (some ⟨kb,0,none⟩) d.cells.toNat d.cells.toNat]))
  (r3:w'.ownsRow 0 4 1 (.slice (some ⟨g3,0,none⟩) (d.thr.length+1) c3) (d.thr.length+1) (m.ps.map .bool++[.bool false]))
  (k4:w'.cell? ⟨m.br,4,none⟩=some (.slice none 0 0)) (k6:w'.cell? ⟨m.br,6,none⟩=some (.int .i64 0)) (q0:w'.cell? ⟨m.bp,0,none⟩=some (.slice (some ⟨g1,0,none⟩) (d.thr.length+1) c1)) (q2:w'.cell? ⟨m.bp,2,none⟩=some (.slice (some ⟨g2,0,none⟩) (d.thr.length+1) c2)) (q3:w'.cell? ⟨m.bp,3,none⟩=some (.slice (some ⟨g3,0,none⟩) (d.thr.length+1) c3))
  (ks:w'.shape? kb=some (4,d.cells.toNat)) (kf: ∀j,w'.frozen? ⟨kb,j,none⟩=false)
  (hg1:m.tv.ownBlock=some g1\/w.heap.size<=g1) (hg2:m.cv.ownBlock=some g2\/w.heap.size<=g2) (hg3:m.pv.ownBlock=some g3\/w.heap.size<=g3) (hkb:w.heap.size<=kb) (n12:g2≠g1) (n13:g3≠g1) (n23:g3≠g2) (n1:kb≠g1) (n2:kb≠g2) (n3:kb≠g3)
  (hall:Chg (FM D lab m [(0,7),(0,8),(0,9)] [4,6] [0,2,3]) w w'):
  ∃lab',DMach D lab' w' {m with tv:=(.slice (some ⟨g1,0,none⟩) (d.thr.length+1) c1),cv:=(.slice (some ⟨g2,0,none⟩) (d.thr.length+1) c2),pv:=(.slice (some ⟨g3,0,none⟩) (d.thr.length+1) c3),lv:= .slice none 0 0,ps:=m.ps++[false],ts:=m.ts++[⟨.slice none 0 0,kb,[],[]⟩]} {d with thr:=d.thr++[[]],locals:=[],stmts:=0}:=by
 have lb:=Qd h.sh
 have lp:=Qd h.psh
 have hlen:=Sl h
 have hnew: ∀(i:Nat) (q:DT),(m.ts++[(⟨.slice none 0 0,kb,[],[]⟩:DT)])[i]?=some q->(i<d.thr.length/\m.ts[i]?=some q)\/(i=d.thr.length/\q=⟨.slice none 0 0,kb,[],[]⟩):=by
  intro i q hi
  rw [<-hlen]
  by_cases c:i<m.ts.length
  ·rw [List.getElem?_append_left c] at hi
   exact .inl ⟨c,hi⟩
  ·have:i=m.ts.length:=by
    have:=(List.getElem?_eq_some_iff.1 hi).1
    rw [List.length_append,List.length_singleton] at this
    omega
   subst this
   exact .inr ⟨rfl,by simpa using hi.symm⟩
 have hold: ∀k,k<w.heap.size->(λk=>if k=g1 then (0,7) else if k=g2 then (0,8) else if k=g3 then (0,9) else if k=kb then (d.thr.length+1,1) else lab k) k=lab k:=by
  intro k hk
  dsimp only
  by_cases eg1:k=g1
  ·rw [if_pos eg1]
   rcases hg1 with q|q
   ·rw [eg1];exact (h.lt g1 q).1.symm
   ·omega
  rw [if_neg eg1]
  by_cases eg2:k=g2
  ·rw [if_pos eg2]
   rcases hg2 with q|q
   ·rw [eg2];exact (h.lc g2 q).1.symm
   ·omega
  rw [if_neg eg2]
  by_cases eg3:k=g3
  ·rw [if_pos eg3]
   rcases hg3 with q|q
   ·rw [eg3];exact (h.lq g3 q).1.symm
   ·omega
  rw [if_neg eg3]
  by_cases ekb:k=kb
  ·rw [if_pos ekb]
   omega
  rw [if_neg ekb]
 have Dg1:D g1:=by
  rcases hg1 with q|q
  ·exact (h.lt g1 q).2
  ·exact hD g1 q
 have Dg2:D g2:=by
  rcases hg2 with q|q
  ·exact (h.lc g2 q).2
  ·exact hD g2 q
 have Dg3:D g3:=by
  rcases hg3 with q|q
  ·exact (h.lq g3 q).2
  ·exact hD g3 q
 have Dkb:D kb:=hD kb hkb
 refine ⟨λk=>if k=g1 then (0,7) else if k=g2 then (0,8) else if k=g3 then (0,9) else if k=kb then (d.thr.length+1,1) else lab k,{
  sh:=(hall.shape _ lb).trans h.sh
  psh:=(hall.shape _ lp).trans h.psh
  free:=λj=>(hall.frozen _ _ lb).trans (h.free j)
  pfree:=λj=>(hall.frozen _ _ lp).trans (h.pfree j)
  c0:=h.kb hall h.c0
  c1:=h.kb hall h.c1
  c2:=h.kb hall h.c2
  c3:=h.kb hall h.c3
  c4:=k4
  c5:=h.kb hall h.c5
  c6:=k6
  c7:=h.kb hall h.c7
  p0:=q0
  p1:=h.kp hall h.p1
  p2:=q2
  p3:=q3
  srow:=h.kr hall h.srow h.ls
  frow:=h.kr hall h.frow h.lf
  zrow:=h.kr hall h.zrow h.lz
  lrow:=⟨rfl, .inl ⟨rfl,rfl⟩⟩
  orow:=h.kr hall h.orow h.lo
  trow:=by simpa using r1
  crow:=by simpa using r2
  prow:=by simpa using r3
  thr:=by
   show (m.ts++[_]).map DT.N=d.thr++[[]]
   rw [List.map_append,h.thr]
   rfl
  th:=λi t ht=>by
   rcases hnew i t ht with ⟨_,ht'⟩|⟨_,rfl⟩
   ·exact (h.th i t ht').keep hall λq hq=>h.fm (h.ln i t ht' q hq) yaj yaj yaj
   ·exact ⟨⟨rfl, .inl ⟨rfl,rfl⟩⟩,⟨rfl,λi k e=>by simp at e,λi k e=>by simp at e,λi e=>by simp at e⟩,ks,kf⟩
  lb:=⟨(hold _ lb).trans h.lb.1,h.lb.2⟩
  lp:=⟨(hold _ lp).trans h.lp.1,h.lp.2⟩
  ls:=z6t hold h.srow h.ls
  lf:=z6t hold h.frow h.lf
  lz:=z6t hold h.zrow h.lz
  ll:=λq hq=>by simp [Value.ownBlock] at hq
  lo:=z6t hold h.orow h.lo
  lt:=λq hq=>by
   simp [Value.ownBlock] at hq
   subst hq
   exact ⟨if_pos rfl,Dg1⟩
  lc:=λq hq=>by
   simp [Value.ownBlock] at hq
   subst hq
   exact ⟨(if_neg n12).trans (if_pos rfl),Dg2⟩
  lq:=λq hq=>by
   simp [Value.ownBlock] at hq
   subst hq
   exact ⟨(if_neg n13).trans ((if_neg n23).trans (if_pos rfl)),Dg3⟩
  ln:=λi t ht q hq=>by
   rcases hnew i t ht with ⟨_,ht'⟩|⟨_,rfl⟩
   ·exact ⟨(hold q ((h.th i t ht').row.lt q hq).2).trans (h.ln i t ht' q hq).1,(h.ln i t ht' q hq).2⟩
   ·simp [Value.ownBlock] at hq
  lk:=λi t ht=>by
   rcases hnew i t ht with ⟨_,ht'⟩|⟨rfl,rfl⟩
   ·exact ⟨(hold _ (Qd (h.th i t ht').ksh)).trans (h.lk i t ht').1,(h.lk i t ht').2⟩
   ·exact ⟨(if_neg n1).trans ((if_neg n2).trans ((if_neg n3).trans (if_pos rfl))),Dkb⟩
 }⟩
theorem DMach.openF(h:DMach D lab w m d)(hD: ∀k,w.heap.size<=k->D k)
  (r1:w'.ownsRow 0 3 1 (.slice (some ⟨g1,0,none⟩) (d.opn.length+1) c1) (d.opn.length+1) ((d.opn.map λ(k:Nat)=> .int .i64 (k:Int))++[.int .i64 (a:Int)]))
  (k5:w'.cell? ⟨m.br,5,none⟩=some (.slice (some ⟨g1,0,none⟩) (d.opn.length+1) c1)) (hg1:m.ov.ownBlock=some g1\/w.heap.size<=g1)
  (hall:Chg (FM D lab m [(0,6)] [5] []) w w'):
  ∃lab',DMach D lab' w' {m with ov:=(.slice (some ⟨g1,0,none⟩) (d.opn.length+1) c1)} {d with opn:=d.opn++[a]}:=by
 have lb:=Qd h.sh
 have lp:=Qd h.psh
 have hold: ∀k,k<w.heap.size->(λk=>if k=g1 then (0,6) else lab k) k=lab k:=by
  intro k hk
  dsimp only
  by_cases eg1:k=g1
  ·rw [if_pos eg1]
   rcases hg1 with q|q
   ·rw [eg1];exact (h.lo g1 q).1.symm
   ·omega
  rw [if_neg eg1]
 have Dg1:D g1:=by
  rcases hg1 with q|q
  ·exact (h.lo g1 q).2
  ·exact hD g1 q
 refine ⟨λk=>if k=g1 then (0,6) else lab k,{
  sh:=(hall.shape _ lb).trans h.sh
  psh:=(hall.shape _ lp).trans h.psh
  free:=λj=>(hall.frozen _ _ lb).trans (h.free j)
  pfree:=λj=>(hall.frozen _ _ lp).trans (h.pfree j)
  c0:=h.kb hall h.c0
  c1:=h.kb hall h.c1
  c2:=h.kb hall h.c2
  c3:=h.kb hall h.c3
  c4:=h.kb hall h.c4
  c5:=k5
  c6:=h.kb hall h.c6
  c7:=h.kb hall h.c7
  p0:=h.kp hall h.p0
  p1:=h.kp hall h.p1
  p2:=h.kp hall h.p2
  p3:=h.kp hall h.p3
  srow:=h.kr hall h.srow h.ls
  frow:=h.kr hall h.frow h.lf
  zrow:=h.kr hall h.zrow h.lz
  lrow:=h.kr hall h.lrow h.ll
  orow:=by simpa using r1
  trow:=h.kr hall h.trow h.lt
  crow:=h.kr hall h.crow h.lc
  prow:=h.kr hall h.prow h.lq
  thr:=h.thr
  th:=λi t ht=>(h.th i t ht).keep hall λq hq=>h.fm (h.ln i t ht q hq) yaj yaj yaj
  lb:=⟨(hold _ lb).trans h.lb.1,h.lb.2⟩
  lp:=⟨(hold _ lp).trans h.lp.1,h.lp.2⟩
  ls:=z6t hold h.srow h.ls
  lf:=z6t hold h.frow h.lf
  lz:=z6t hold h.zrow h.lz
  ll:=z6t hold h.lrow h.ll
  lo:=λq hq=>by
   simp [Value.ownBlock] at hq
   subst hq
   exact ⟨if_pos rfl,Dg1⟩
  lt:=z6t hold h.trow h.lt
  lc:=z6t hold h.crow h.lc
  lq:=z6t hold h.prow h.lq
  ln:=λi t ht q hq=>⟨(hold q ((h.th i t ht).row.lt q hq).2).trans (h.ln i t ht q hq).1,(h.ln i t ht q hq).2⟩
  lk:=λi t ht=>⟨(hold _ (Qd (h.th i t ht).ksh)).trans (h.lk i t ht).1,(h.lk i t ht).2⟩
 }⟩
theorem DMach.stmtF(h:DMach D lab w m d){s:Nat}(k6:w'.cell? ⟨m.br,6,none⟩=some (.int .i64 s))(hall:Chg (FM D lab m [] [6] []) w w'):DMach D lab w' m {d with stmts:=s}:=by
 have lb:=Qd h.sh
 have lp:=Qd h.psh
 exact {
  sh:=(hall.shape _ lb).trans h.sh
  psh:=(hall.shape _ lp).trans h.psh
  free:=λj=>(hall.frozen _ _ lb).trans (h.free j)
  pfree:=λj=>(hall.frozen _ _ lp).trans (h.pfree j)
  c0:=h.kb hall h.c0
  c1:=h.kb hall h.c1
  c2:=h.kb hall h.c2
  c3:=h.kb hall h.c3
  c4:=h.kb hall h.c4
  c5:=h.kb hall h.c5
  c6:=k6
  c7:=h.kb hall h.c7
  p0:=h.kp hall h.p0
  p1:=h.kp hall h.p1
  p2:=h.kp hall h.p2
  p3:=h.kp hall h.p3
  srow:=h.kr hall h.srow h.ls
  frow:=h.kr hall h.frow h.lf
  zrow:=h.kr hall h.zrow h.lz
  lrow:=h.kr hall h.lrow h.ll
  orow:=h.kr hall h.orow h.lo
  trow:=h.kr hall h.trow h.lt
  crow:=h.kr hall h.crow h.lc
  prow:=h.kr hall h.prow h.lq
  thr:=h.thr
  th:=λi t ht=>(h.th i t ht).keep hall λq hq=>h.fm (h.ln i t ht q hq) yaj yaj yaj
  lb:=h.lb
  lp:=h.lp
  ls:=h.ls
  lf:=h.lf
  lz:=h.lz
  ll:=h.ll
  lo:=h.lo
  lt:=h.lt
  lc:=h.lc
  lq:=h.lq
  ln:=h.ln
  lk:=h.lk
 }
theorem DMach.putF(h:DMach D lab w m d){qs:List Bool}(r:w'.ownsRow 0 4 1 m.pv d.thr.length (qs.map .bool))(hall:Chg (FM D lab m [(0,9)] [] []) w w'):DMach D lab w' {m with ps:=qs} d:=by
 have lb:=Qd h.sh
 have lp:=Qd h.psh
 exact {
  sh:=(hall.shape _ lb).trans h.sh
  psh:=(hall.shape _ lp).trans h.psh
  free:=λj=>(hall.frozen _ _ lb).trans (h.free j)
  pfree:=λj=>(hall.frozen _ _ lp).trans (h.pfree j)
  c0:=h.kb hall h.c0
  c1:=h.kb hall h.c1
  c2:=h.kb hall h.c2
  c3:=h.kb hall h.c3
  c4:=h.kb hall h.c4
  c5:=h.kb hall h.c5
  c6:=h.kb hall h.c6
  c7:=h.kb hall h.c7
  p0:=h.kp hall h.p0
  p1:=h.kp hall h.p1
  p2:=h.kp hall h.p2
  p3:=h.kp hall h.p3
  srow:=h.kr hall h.srow h.ls
  frow:=h.kr hall h.frow h.lf
  zrow:=h.kr hall h.zrow h.lz
  lrow:=h.kr hall h.lrow h.ll
  orow:=h.kr hall h.orow h.lo
  trow:=h.kr hall h.trow h.lt
  crow:=h.kr hall h.crow h.lc
  prow:=r
  thr:=h.thr
  th:=λi t ht=>(h.th i t ht).keep hall λq hq=>h.fm (h.ln i t ht q hq) yaj yaj yaj
  lb:=h.lb
  lp:=h.lp
  ls:=h.ls
  lf:=h.lf
  lz:=h.lz
  ll:=h.ll
  lo:=h.lo
  lt:=h.lt
  lc:=h.lc
  lq:=h.lq
  ln:=h.ln
  lk:=h.lk
 }
theorem DMach.touchF(h:DMach D lab w m d){i:Nat}(hall:Chg (FM D lab m [(i+1,1)] [] []) w w'):DMach D lab w' m d:=by
 have lb:=Qd h.sh
 have lp:=Qd h.psh
 exact {
  sh:=(hall.shape _ lb).trans h.sh
  psh:=(hall.shape _ lp).trans h.psh
  free:=λj=>(hall.frozen _ _ lb).trans (h.free j)
  pfree:=λj=>(hall.frozen _ _ lp).trans (h.pfree j)
  c0:=h.kb hall h.c0
  c1:=h.kb hall h.c1
  c2:=h.kb hall h.c2
  c3:=h.kb hall h.c3
  c4:=h.kb hall h.c4
  c5:=h.kb hall h.c5
  c6:=h.kb hall h.c6
  c7:=h.kb hall h.c7
  p0:=h.kp hall h.p0
  p1:=h.kp hall h.p1
  p2:=h.kp hall h.p2
  p3:=h.kp hall h.p3
  srow:=h.kr hall h.srow h.ls
  frow:=h.kr hall h.frow h.lf
  zrow:=h.kr hall h.zrow h.lz
  lrow:=h.kr hall h.lrow h.ll
  orow:=h.kr hall h.orow h.lo
  trow:=h.kr hall h.trow h.lt
  crow:=h.kr hall h.crow h.lc
  prow:=h.kr hall h.prow h.lq
  thr:=h.thr
  th:=λi t ht=>(h.th i t ht).keep hall λq hq=>h.fm (h.ln i t ht q hq) yaj yaj yaj
  lb:=h.lb
  lp:=h.lp
  ls:=h.ls
  lf:=h.lf
  lz:=h.lz
  ll:=h.ll
  lo:=h.lo
  lt:=h.lt
  lc:=h.lc
  lq:=h.lq
  ln:=h.ln
  lk:=h.lk
 }
end
section
variable{P:Program}{ops:Array Oper}{Q:Exit->Act->World->Prop}{md:Region.Mode}{S:World->Prop}
theorem tk(i:Nat){oi:Oper}{a:Act}(hi:ops[i]?=some oi)(hy:YieldsIf P ops S oi v a)(hS:S w)(h:wpAnyH P md ops Q S fuel (listed.setIfInBounds i true) (a.put oi.dst v) w)
  (hs:Region.noSelect ops=true:=by kernel_rfl) (hf:Region.free md ops listed i=true:=by kernel_rfl) (hr:(Region.ready md ops listed).contains i=true:=by kernel_rfl) (hQ: ∀c a w,Q (.panic c) (a.put oi.dst v) w->Q (.panic c) a w:=by exact λ_ _ _ h=>h):wpAnyH P md ops Q S (fuel+1) listed a w:=wpAnyH_take hi hs hf hr hQ hy hS h
theorem tr(rs:List Nat){a:Act}(h:AllReadyH P md ops Q S fuel listed a w rs)(hr:Region.ready md ops listed=rs:=by kernel_rfl)(hne:rs≠[]:=by simp):wpAnyH P md ops Q S (fuel+1) listed a w:=wpAnyH_ready hr hne h
end
structure Slot where
 id:Nat
 b:Nat
 o:Nat
 t:TypeId
 v:Value
 n:Nat
 xs:List Value
 v0:Value
structure SlotsAt(M:Nat->Nat->Prop)(w wr:World)(K:List (Nat×Nat×Value))(F:List (Nat×Nat))(S:List Slot):Prop where
 chg:Chg M w wr
 uniq: ∀s∈S,∀q∈S,s.id=q.id->s=q
 cell: ∀s∈S,wr.cell? ⟨s.b,s.o,none⟩=some s.v
 free: ∀s∈S,wr.frozen? ⟨s.b,s.o,none⟩=false
 row: ∀s∈S,wr.ownsRow 0 s.t 1 s.v s.n s.xs
 keep: ∀q∈K,wr.cell? ⟨q.1,q.2.1,none⟩=some q.2.2
 fr: ∀q∈F,q.1<wr.heap.size/\wr.frozen? ⟨q.1,q.2,none⟩=false
 dis: ∀s∈S,∀q∈S,s.id≠q.id->(s.b≠q.b\/s.o≠q.o)/\ ∀g,s.v.ownBlock=some g->q.v.ownBlock≠some g
 nb: ∀s∈S,∀g,s.v.ownBlock=some g->(∀q∈S,g≠q.b)/\ ∀q∈K,g≠q.1
 nk: ∀s∈S,∀q∈K,s.b≠q.1\/s.o≠q.2.1
 old: ∀s∈S,∀g,s.v.ownBlock=some g->g<w.heap.size->∀j,M g j
 slot: ∀s∈S,s.b<w.heap.size->M s.b s.o
 org: ∀s∈S,∀g,s.v.ownBlock=some g->s.v0.ownBlock=some g\/w.heap.size<=g
section
variable{M:Nat->Nat->Prop}{w wr X w3:World}{K K':List (Nat×Nat×Value)}{F:List (Nat×Nat)}{S:List Slot}
def Slot.more(s:Slot)(g c:Nat)(u:Value):Slot:={s with v:= .slice (some ⟨g,0,none⟩) (s.n+1) c,n:=s.n+1,xs:=s.xs++[u]}
def zfy(S:List Slot)(s:Slot):List Slot:=S.map λq=>if q.id=s.id then s else q
theorem zpg{s s':Slot}(_hid:s'.id=s.id): ∀q∈zfy S s',q=s'\/(q∈S/\q.id≠s'.id):=by
 intro q hq
 unfold zfy at hq
 rw [List.mem_map] at hq
 obtain ⟨p,hp,e⟩:=hq
 by_cases c:p.id=s'.id
 ·rw [if_pos c] at e;exact .inl e.symm
 ·rw [if_neg c] at e;subst e;exact .inr ⟨hp,c⟩
theorem SlotsAt.push(h:SlotsAt M w wr K F S){s:Slot}(hs:s∈S){u:Value}(hX:Below wr.heap.size wr X)(ho:w3.ownsRow 0 s.t 1 (.slice (some ⟨g,0,none⟩) (s.n+1) c) (s.n+1) (s.xs++[u]))
  (hch:Chg (λb _=>s.v.ownBlock=some b) X w3) (hg:s.v.ownBlock=some g\/g=X.heap.size):
  SlotsAt M w (w3.setCell ⟨s.b,s.o,none⟩ (.slice (some ⟨g,0,none⟩) (s.n+1) c)) K F (zfy S (s.more g c u)):=by
 have hXc:Chg (λb _=>s.v.ownBlock=some b) wr X:=Chg.of_below hX
 have hc:Chg (λb _=>s.v.ownBlock=some b) wr w3:=hXc.trans hch
 have ls: ∀q∈S,q.b<wr.heap.size:=λq hq=>blt (h.cell q hq)
 have lk: ∀q∈K,q.1<wr.heap.size:=λq hq=>blt (h.keep q hq)
 have hset:Chg (λk j=>k=s.b/\j=s.o) w3 (w3.setCell ⟨s.b,s.o,none⟩ (.slice (some ⟨g,0,none⟩) (s.n+1) c)):=(Chg.refl _ w3).setCell (λ_=>⟨rfl,rfl⟩) _
 have hgn:(∀q∈S,g≠q.b)/\ ∀q∈K,g≠q.1:=by
  rcases hg with e|e
  ·exact h.nb s hs g e
  ·have:=hX.size
   exact ⟨λq hq=>by have:=ls q hq;omega,λq hq=>by have:=lk q hq;omega⟩
 have hall:Chg (λk j=>s.v.ownBlock=some k\/(k=s.b/\j=s.o)) wr (w3.setCell ⟨s.b,s.o,none⟩ (.slice (some ⟨g,0,none⟩) (s.n+1) c)):=(hc.mono λ_ _ _ e=> .inl e).trans (hset.mono λ_ _ _ e=> .inr e)
 have mem:=zpg (S:=S) (s:=s) (s':=s.more g c u) rfl
 have hsb: ¬s.v.ownBlock=some s.b:=λe=>(h.nb s hs _ e).1 s hs rfl
 have hgo: ∀q∈S,q.id≠s.id->q.v.ownBlock≠some g:=λq hq hne e=>by
  rcases hg with e'|e'
  ·exact (h.dis s hs q hq (λe=>hne e.symm)).2 g e' e
  ·have:=((h.row q hq).lt g e).2
   have:=hX.size
   omega
 have hrow: ∀q∈S,q.id≠s.id->(w3.setCell ⟨s.b,s.o,none⟩ (.slice (some ⟨g,0,none⟩) (s.n+1) c)).ownsRow 0 q.t 1 q.v q.n q.xs:=λq hq hne=>
  Qc (h.row q hq) hall λb hb j e=>by
   rcases e with e|e
   ·exact (h.dis q hq s hs hne).2 b hb e
   ·exact (h.nb q hq b hb).1 s hs e.1
 refine {
  chg:=h.chg.then hall (λk j hk e=>?_)
  uniq:=?_
  cell:=λq hq=>?_
  free:=λq hq=>?_
  row:=λq hq=>?_
  keep:=λq hq=>?_
  fr:=λq hq=>⟨Nat.lt_of_lt_of_le (h.fr q hq).1 hall.size,(hall.frozen _ _ (h.fr q hq).1).trans (h.fr q hq).2⟩
  dis:=?_
  nb:=λq hq b hb=>?_
  nk:=λq hq p hp=>?_
  old:=λq hq b hb hlt j=>?_
  slot:=λq hq hlt=>?_
  org:=λq hq b hb=>?_}
 ·rcases e with e|e
  ·exact h.old s hs k e hk j
  ·rw [e.1,e.2];exact h.slot s hs (e.1▸hk)
 ·intro q hq p hp e
  rcases mem q hq with rfl|⟨hq,nq⟩<;>rcases mem p hp with rfl|⟨hp,np⟩
  ·rfl
  ·exact absurd e.symm np
  ·exact absurd e nq
  ·exact h.uniq q hq p hp e
 ·rcases mem q hq with rfl|⟨hq,nq⟩
  ·exact Qg ((hc.cell _ _ (ls s hs) hsb).trans (h.cell s hs)) rfl
  ·refine (hall.cell _ _ (ls q hq) ?_).trans (h.cell q hq)
   rintro (e|e)
   ·exact (h.nb s hs _ e).1 q hq rfl
   ·rcases (h.dis q hq s hs nq).1 with a|a
    ·exact a e.1
    ·exact a e.2
 ·rcases mem q hq with rfl|⟨hq,nq⟩
  ·exact (hall.frozen _ _ (ls s hs)).trans (h.free s hs)
  ·exact (hall.frozen _ _ (ls q hq)).trans (h.free q hq)
 ·rcases mem q hq with rfl|⟨hq,nq⟩
  ·exact Qc ho hset (λb hb j e=>hgn.1 s hs ((show g=b by simpa [Slot.more,Value.ownBlock] using hb).trans e.1))
  ·exact hrow q hq nq
 ·refine (hall.cell _ _ (lk q hq) ?_).trans (h.keep q hq)
  rintro (e|e)
  ·exact (h.nb s hs _ e).2 q hq rfl
  ·rcases h.nk s hs q hq with a|a
   ·exact a e.1.symm
   ·exact a e.2.symm
 ·intro q hq p hp hne
  rcases mem q hq with rfl|⟨hq,nq⟩<;>rcases mem p hp with rfl|⟨hp,np⟩
  ·exact absurd rfl hne
  ·refine ⟨(h.dis s hs p hp (λe=>np e.symm)).1,λb hb=>?_⟩
   simp [Slot.more,Value.ownBlock] at hb
   subst hb
   exact hgo p hp np
  ·refine ⟨(h.dis q hq s hs nq).1,λb hb e=>?_⟩
   simp [Slot.more,Value.ownBlock] at e
   subst e
   exact hgo q hq nq hb
  ·exact h.dis q hq p hp hne
 ·have:(∀p∈S,b≠p.b)/\ ∀p∈K,b≠p.1:=by
   rcases mem q hq with rfl|⟨hq,nq⟩
   ·simp [Slot.more,Value.ownBlock] at hb
    subst hb
    exact hgn
   ·exact h.nb q hq b hb
  refine ⟨λp hp=>?_,this.2⟩
  rcases mem p hp with rfl|⟨hp,np⟩
  ·exact this.1 s hs
  ·exact this.1 p hp
 ·rcases mem q hq with rfl|⟨hq,nq⟩
  ·exact h.nk s hs p hp
  ·exact h.nk q hq p hp
 ·rcases mem q hq with rfl|⟨hq,nq⟩
  ·simp [Slot.more,Value.ownBlock] at hb
   subst hb
   rcases hg with e|e
   ·exact h.old s hs g e hlt j
   ·have:=hX.size
    have:=h.chg.size
    omega
  ·exact h.old q hq b hb hlt j
 ·rcases mem q hq with rfl|⟨hq,nq⟩
  ·exact h.slot s hs hlt
  ·exact h.slot q hq hlt
 ·rcases mem q hq with rfl|⟨hq,nq⟩
  ·simp [Slot.more,Value.ownBlock] at hb
   subst hb
   rcases hg with e|e
   ·exact h.org s hs g e
   ·have:=hX.size
    have:=h.chg.size
    exact .inr yai
  ·exact h.org q hq b hb
theorem SlotsAt.mid(h:SlotsAt M w wr K F S){s:Slot}(hs:s∈S)(hX:Below wr.heap.size wr X)(hch:Chg (λb _=>s.v.ownBlock=some b) X w3):
  (∀q∈S,w3.cell? ⟨q.b,q.o,none⟩=some q.v/\w3.frozen? ⟨q.b,q.o,none⟩=false)/\ ∀q∈K,w3.cell? ⟨q.1,q.2.1,none⟩=some q.2.2:=by
 have hXc:Chg (λb _=>s.v.ownBlock=some b) wr X:=Chg.of_below hX
 have hc:Chg (λb _=>s.v.ownBlock=some b) wr w3:=hXc.trans hch
 have ls: ∀q∈S,q.b<wr.heap.size:=λq hq=>blt (h.cell q hq)
 refine ⟨λq hq=>⟨(hc.cell _ _ (ls q hq) λe=>(h.nb s hs _ e).1 q hq rfl).trans (h.cell q hq),(hc.frozen _ _ (ls q hq)).trans (h.free q hq)⟩,λq hq=>(hc.cell _ _ (blt (h.keep q hq)) λe=>(h.nb s hs _ e).2 q hq rfl).trans (h.keep q hq)⟩
section
variable{s0 s1 s2:Slot}{g c:Nat}{u:Value}
theorem SlotsAt.push0(h:SlotsAt M w wr K F [s0,s1,s2])(e0:s0.id=0)(e1:s1.id=1)(e2:s2.id=2)(hX:Below wr.heap.size wr X)(ho:w3.ownsRow 0 s0.t 1 (.slice (some ⟨g,0,none⟩) (s0.n+1) c) (s0.n+1) (s0.xs++[u]))
  (hch:Chg (λb _=>s0.v.ownBlock=some b) X w3) (hg:s0.v.ownBlock=some g\/g=X.heap.size):SlotsAt M w (w3.setCell ⟨s0.b,s0.o,none⟩ (.slice (some ⟨g,0,none⟩) (s0.n+1) c)) K F [s0.more g c u,s1,s2]:=by
 have:=h.push (s:=s0) yaj hX ho hch hg
 simpa [zfy,Slot.more,e0,e1,e2] using this
theorem SlotsAt.push1(h:SlotsAt M w wr K F [s0,s1,s2])(e0:s0.id=0)(e1:s1.id=1)(e2:s2.id=2)(hX:Below wr.heap.size wr X)(ho:w3.ownsRow 0 s1.t 1 (.slice (some ⟨g,0,none⟩) (s1.n+1) c) (s1.n+1) (s1.xs++[u]))
  (hch:Chg (λb _=>s1.v.ownBlock=some b) X w3) (hg:s1.v.ownBlock=some g\/g=X.heap.size):SlotsAt M w (w3.setCell ⟨s1.b,s1.o,none⟩ (.slice (some ⟨g,0,none⟩) (s1.n+1) c)) K F [s0,s1.more g c u,s2]:=by
 have:=h.push (s:=s1) yaj hX ho hch hg
 simpa [zfy,Slot.more,e0,e1,e2] using this
theorem SlotsAt.push2(h:SlotsAt M w wr K F [s0,s1,s2])(e0:s0.id=0)(e1:s1.id=1)(e2:s2.id=2)(hX:Below wr.heap.size wr X)(ho:w3.ownsRow 0 s2.t 1 (.slice (some ⟨g,0,none⟩) (s2.n+1) c) (s2.n+1) (s2.xs++[u]))
  (hch:Chg (λb _=>s2.v.ownBlock=some b) X w3) (hg:s2.v.ownBlock=some g\/g=X.heap.size):SlotsAt M w (w3.setCell ⟨s2.b,s2.o,none⟩ (.slice (some ⟨g,0,none⟩) (s2.n+1) c)) K F [s0,s1,s2.more g c u]:=by
 have:=h.push (s:=s2) yaj hX ho hch hg
 simpa [zfy,Slot.more,e0,e1,e2] using this
end
theorem SlotsAt.below(h:SlotsAt M w wr K F S)(hX:Below wr.heap.size wr X):SlotsAt M w X K F S:=by
 have hc:Chg (λ_ _=>False) wr X:=Chg.of_below hX
 have ls: ∀q∈S,q.b<wr.heap.size:=λq hq=>blt (h.cell q hq)
 exact {h with
  chg:=h.chg.then hc (λ_ _ _ e=>e.elim)
  cell:=λq hq=>(hc.cell _ _ (ls q hq) id).trans (h.cell q hq)
  free:=λq hq=>(hc.frozen _ _ (ls q hq)).trans (h.free q hq)
  row:=λq hq=>Qc (h.row q hq) hc λ_ _ _ e=>e
  keep:=λq hq=>(hc.cell _ _ (blt (h.keep q hq)) id).trans (h.keep q hq)
  fr:=λq hq=>⟨Nat.lt_of_lt_of_le (h.fr q hq).1 hc.size,(hc.frozen _ _ (h.fr q hq).1).trans (h.fr q hq).2⟩}
theorem SlotsAt.set(h:SlotsAt M w wr K F S){b:Nat}{v0:Value}(hv:wr.cell? ⟨b,o,none⟩=some v0)(hb: ∀s∈S,(s.b≠b\/s.o≠o)/\ ∀g,s.v.ownBlock=some g->g≠b)(hM:b<w.heap.size->M b o)(hK: ∀q∈K',(q∈K/\(q.1≠b\/q.2.1≠o))\/q=(b,o,v)):
  SlotsAt M w (wr.setCell ⟨b,o,none⟩ v) K' F S:=by
 have hset:Chg (λk j=>k=b/\j=o) wr (wr.setCell ⟨b,o,none⟩ v):=(Chg.refl _ wr).setCell (λ_=>⟨rfl,rfl⟩) _
 have ls: ∀q∈S,q.b<wr.heap.size:=λq hq=>blt (h.cell q hq)
 exact {h with
  chg:=h.chg.then hset (λk j hk e=>by rw [e.1,e.2];exact hM (e.1▸hk))
  cell:=λq hq=>by
   refine (hset.cell _ _ (ls q hq) ?_).trans (h.cell q hq)
   rintro ⟨e1,e2⟩
   exact ((hb q hq).1).elim (λa=>a e1) (λa=>a e2)
  free:=λq hq=>(hset.frozen _ _ (ls q hq)).trans (h.free q hq)
  row:=λq hq=>Qc (h.row q hq) hset λg hg j e=>(hb q hq).2 g hg e.1
  keep:=λq hq=>by
   rcases hK q hq with ⟨hq,a⟩|rfl
   ·refine (hset.cell _ _ (blt (h.keep q hq)) ?_).trans (h.keep q hq)
    rintro ⟨e1,e2⟩
    exact a.elim (λa=>a e1) (λa=>a e2)
   ·exact Qg hv rfl
  fr:=λq hq=>⟨Nat.lt_of_lt_of_le (h.fr q hq).1 hset.size,(hset.frozen _ _ (h.fr q hq).1).trans (h.fr q hq).2⟩
  nb:=λq hq g hg=>⟨(h.nb q hq g hg).1,λp hp=>by
   rcases hK p hp with ⟨hp,_⟩|rfl
   ·exact (h.nb q hq g hg).2 p hp
   ·exact (hb q hq).2 g hg⟩
  nk:=λq hq p hp=>by
   rcases hK p hp with ⟨hp,_⟩|rfl
   ·exact h.nk q hq p hp
   ·exact (hb q hq).1}
end
structure XV where
 k:Nat
 v:Int
 op:ByteArray
 al:Bool
 av:Int
 bl:Bool
 bv:Int
 tl:Bool
 tv:Int
 fi:Int
 si:Int
 to:Int
 n:Int
 dp:Int
def XV.cells(X:XV):List Value:=[.int .u8 X.k, .int .i64 X.v, .string X.op, .bool X.al, .int .i64 X.av, .bool X.bl, .int .i64 X.bv, .bool X.tl, .int .i64 X.tv, .int .i64 X.fi, .int .i64 X.si, .int .i64 X.to, .int .i64 X.n, .int .i64 X.dp]
structure XAt(w:World)(bx:Nat)(X:XV):Prop where
 c: ∀j u,X.cells[j]?=some u->w.cell? ⟨bx,j,none⟩=some u
 f: ∀j,w.frozen? ⟨bx,j,none⟩=false
section
variable{D D':Nat->Prop}{lab:Nat->Nat×Nat}{w w':World}{m:DM}{d:DR}{bx:Nat}{X X':XV}{M:Nat->Nat->Prop}
theorem XAt.lt(h:XAt w bx X):bx<w.heap.size:=blt (h.c 0 _ rfl)
theorem XAt.keep(h:XAt w bx X)(hc:Chg M w w')(hM: ∀j,¬M bx j):XAt w' bx X:=
 ⟨λj u hj=>(hc.cell _ _ h.lt (hM j)).trans (h.c j u hj),λj=>(hc.frozen _ _ h.lt).trans (h.f j)⟩
theorem XAt.below(h:XAt w bx X)(hb:Below w.heap.size w w'):XAt w' bx X:=h.keep (M:=λ_ _=>False) (Chg.of_below hb) (λ_ e=>e)
theorem XAt.set(h:XAt w bx X){u:Value}(hj:j<14)(hX:X'.cells=X.cells.set j u):XAt (w.setCell ⟨bx,j,none⟩ u) bx X' where
 c:=λi v hi=>by
  rw [hX] at hi
  by_cases e:i=j
  ·subst e
   rw [List.getElem?_set_self (by unfold XV.cells;simpa using hj)] at hi
   cases hi
   exact Qg (h.c i _ (List.getElem?_eq_getElem (by unfold XV.cells;simpa using hj))) rfl
  ·rw [List.getElem?_set_ne (λq=>e q.symm)] at hi
   exact (Qb (.inr e)).trans (h.c i v hi)
 f:=λi=>((Chg.refl (λk i=>k=bx/\i=j) w).setCell (λ_=>⟨rfl,rfl⟩) u).frozen _ _ h.lt|>.trans (h.f i)
theorem XAt.all(h:XAt w bx X):w.cell? ⟨bx,0,none⟩=some (.int .u8 X.k)/\w.cell? ⟨bx,1,none⟩=some (.int .i64 X.v)/\w.cell? ⟨bx,2,none⟩=some (.string X.op)/\w.cell? ⟨bx,3,none⟩=some (.bool X.al)/\w.cell? ⟨bx,4,none⟩=some (.int .i64 X.av)/\w.cell? ⟨bx,5,none⟩=some (.bool X.bl)/\w.cell? ⟨bx,6,none⟩=some (.int .i64 X.bv)/\w.cell? ⟨bx,7,none⟩=some (.bool X.tl)/\w.cell? ⟨bx,8,none⟩=some (.int .i64 X.tv)/\w.cell? ⟨bx,9,none⟩=some (.int .i64 X.fi)/\w.cell? ⟨bx,10,none⟩=some (.int .i64 X.si)/\w.cell? ⟨bx,11,none⟩=some (.int .i64 X.to)/\w.cell? ⟨bx,12,none⟩=some (.int .i64 X.n)/\w.cell? ⟨bx,13,none⟩=some (.int .i64 X.dp):=
 ⟨h.c 0 _ rfl,h.c 1 _ rfl,h.c 2 _ rfl,h.c 3 _ rfl,h.c 4 _ rfl,h.c 5 _ rfl,h.c 6 _ rfl,h.c 7 _ rfl,h.c 8 _ rfl,h.c 9 _ rfl,h.c 10 _ rfl,h.c 11 _ rfl,h.c 12 _ rfl,h.c 13 _ rfl⟩
theorem DMach.restrict(h:DMach D lab w m d)(hk: ∀k,k<w.heap.size->D k->D' k):DMach D' lab w m d:=
 {h with
  lb:=⟨h.lb.1,hk _ (Qd h.sh) h.lb.2⟩
  lp:=⟨h.lp.1,hk _ (Qd h.psh) h.lp.2⟩
  ls:=λq hq=>⟨(h.ls q hq).1,hk q (h.srow.lt q hq).2 (h.ls q hq).2⟩
  lf:=λq hq=>⟨(h.lf q hq).1,hk q (h.frow.lt q hq).2 (h.lf q hq).2⟩
  lz:=λq hq=>⟨(h.lz q hq).1,hk q (h.zrow.lt q hq).2 (h.lz q hq).2⟩
  ll:=λq hq=>⟨(h.ll q hq).1,hk q (h.lrow.lt q hq).2 (h.ll q hq).2⟩
  lo:=λq hq=>⟨(h.lo q hq).1,hk q (h.orow.lt q hq).2 (h.lo q hq).2⟩
  lt:=λq hq=>⟨(h.lt q hq).1,hk q (h.trow.lt q hq).2 (h.lt q hq).2⟩
  lc:=λq hq=>⟨(h.lc q hq).1,hk q (h.crow.lt q hq).2 (h.lc q hq).2⟩
  lq:=λq hq=>⟨(h.lq q hq).1,hk q (h.prow.lt q hq).2 (h.lq q hq).2⟩
  ln:=λi t ht q hq=>⟨(h.ln i t ht q hq).1,hk q ((h.th i t ht).row.lt q hq).2 (h.ln i t ht q hq).2⟩
  lk:=λi t ht=>⟨(h.lk i t ht).1,hk _ (Qd (h.th i t ht).ksh) (h.lk i t ht).2⟩}
end
section
variable{w:World}{br bx bw:Nat}{u:ByteArray}{X:XV}
theorem z1g{k:Int}(c1:w.cell? ⟨br,1,none⟩=some sv)(hk:k<0)(KS:Hid (Cl 22 #[sv, .string u] w λe w2=>e= .returned (.int .i64 k)/\w2=w)):
  Cl 44 #[ptr br,ptr bx, .string u,wsv] w λe w'=>e= .returned (.bool false)/\w'=w:=by
 have hlt:br<w.heap.size:=blt c1
 go_enter Tryz.func44,Tryz.ntmps44
 go_wp2_with fail
 refine KS.out.mono ?_
 rintro e w1 ⟨rfl,rfl⟩
 go_wp2
 go_ret
 exact ⟨rfl,rfl⟩
end
def z5v(w:World)(bx:Nat)(X:XV)(fi si:Int):Prop:=∃tl tv,XAt w bx {X with fi:=fi,si:=si,tl:=tl,tv:=tv}
def ziv(bx kb fn:Nat)(k j:Nat):Prop:=(k=bx/\7<=j/\j<=10)\/(k=kb/\j=fn)
section
variable{w:World}{br bp bx bw gf gz gc kb kk n cf cz T ct cc cl fn L cap:Nat}{u y:ByteArray}{X:XV}{sv v0:Value}{pt:Option Addr}{si:Int}{tl ok:Bool}{tv:Int}
theorem z1h(hx:XAt w bx X)(c0:w.cell? ⟨br,0,none⟩=some (ptr bp))(c1:w.cell? ⟨br,1,none⟩=some sv)(c2:w.cell? ⟨br,2,none⟩=some (.slice (some ⟨gf,0,none⟩) n cf))(c3:w.cell? ⟨br,3,none⟩=some (.slice (some ⟨gz,0,none⟩) n cz))(hkn:kk<n)(_hn:n<1000000)
  (qf:w.cell? ⟨gf,kk,none⟩=some (.int .i64 (fn:Int))) (qz:w.cell? ⟨gz,kk,none⟩=some (.int .i64 si)) (p0:w.cell? ⟨bp,0,none⟩=some (.slice pt (T+1) ct)) (p2:w.cell? ⟨bp,2,none⟩=some (.slice (some ⟨gc,0,none⟩) (T+1) cc)) (qc:w.cell? ⟨gc,T,none⟩=some (.slice (some ⟨kb,0,none⟩) cl cl)) (hT:T<=2000) (hfn:fn<cl) (_hcl:cl<100000000) (kc:w.cell? ⟨kb,fn,none⟩=some v0) (kf:w.frozen? ⟨kb,fn,none⟩=false)
  (n1:bx≠br) (n2:bx≠bp) (n3:bx≠gz) (n4:bx≠gc) (n5:bx≠kb) (n6:kb≠br) (n7:kb≠bp) (n8:kb≠gc)
  (hL:(L=3/\ok=true)\/(L=5/\bw≠bx/\bw≠kb/\w.cell? ⟨bw,4,none⟩=some (.string y)))
  (KS:Hid (Cl 22 #[sv, .string u] w λe w2=>e= .returned (.int .i64 (kk:Int))/\w2=w))
  (KA:Hid (L=5->∀w',Chg (ziv bx kb fn) w w'->Cl 42 #[ptr br, .string y] w' λe w2=>e= .returned (.tuple #[.agg #[.bool tl, .int .i64 tv], .bool ok])/\Below w'.heap.size w' w2)):
  Cl 44 #[ptr br,ptr bx, .string u, .slice (some ⟨bw,0,none⟩) L cap] w λe w'=>e= .returned (.bool ok)/\Chg (ziv bx kb fn) w w'/\z5v w' bx X fn si:=by
 have x9:=hx.c 9 _ rfl
 have f9:=hx.f 9
 have x10:=hx.c 10 _ rfl
 have f10:=hx.f 10
 have l0:br<w.heap.size:=blt c0
 have l1:bp<w.heap.size:=blt p0
 have l2:bx<w.heap.size:=hx.lt
 have l3:kb<w.heap.size:=blt kc
 have e2:wrap64 (((T+1:Nat):Int)- 1)=(T:Int):=yao
 have hk0: ¬(kk:Int)<0:=yai
 have hT0:(0:Int)<=(T:Int):=yai
 have hT1:(T:Int)<(T:Int)+1:=yai
 have hf0:(0:Int)<=(fn:Int):=yai
 have hfl:(fn:Int)<(cl:Int):=yai
 have hkl:(kk:Int)<(n:Int):=yai
 have hc1:Chg (ziv bx kb fn) w ((w.setCell ⟨bx,9,none⟩ (.int .i64 (fn:Int))).setCell ⟨bx,10,none⟩ (.int .i64 si)):=((Chg.refl _ w).setCell (λ_=> .inl ⟨rfl,by omega,by omega⟩) _).setCell (λ_=> .inl ⟨rfl,by omega,by omega⟩) _
 have hx1:XAt ((w.setCell ⟨bx,9,none⟩ (.int .i64 (fn:Int))).setCell ⟨bx,10,none⟩ (.int .i64 si)) bx {X with fi:=fn,si:=si}:=(hx.set (X':={X with fi:=fn}) (j:=9) yai rfl).set (j:=10) yai rfl
 have nm: ∀k j,k≠bx->k≠kb->¬ziv bx kb fn k j:=λk j h1 h2 e=>e.elim (λe=>h1 e.1) (λe=>h2 e.1)
 have HP:Hid (∀W,Chg (ziv bx kb fn) w W->(W.cell? ⟨br,0,none⟩=some (ptr bp)/\W.cell? ⟨bp,2,none⟩=some (.slice (some ⟨gc,0,none⟩) (T+1) cc)/\W.cell? ⟨gc,T,none⟩=some (.slice (some ⟨kb,0,none⟩) cl cl))):=hid λW hc=>
  ⟨(hc.cell _ _ l0 (nm _ _ n1.symm n6.symm)).trans c0,(hc.cell _ _ l1 (nm _ _ n2.symm n7.symm)).trans p2,(hc.cell _ _ (blt qc) (nm _ _ n4.symm n8.symm)).trans qc⟩
 have kc1:((w.setCell ⟨bx,9,none⟩ (.int .i64 (fn:Int))).setCell ⟨bx,10,none⟩ (.int .i64 si)).cell? ⟨kb,fn,none⟩=some v0:=(Qb (.inl n5.symm)).trans ((Qb (.inl n5.symm)).trans kc)
 have kf1:((w.setCell ⟨bx,9,none⟩ (.int .i64 (fn:Int))).setCell ⟨bx,10,none⟩ (.int .i64 si)).frozen? ⟨kb,fn,none⟩=false:=(hc1.frozen _ _ l3).trans kf
 have HW:Hid (L=5->∀W,Chg (ziv bx kb fn) w W->W.cell? ⟨bw,4,none⟩=some (.string y)):=hid λe W hc=>by
  rcases hL with ⟨q,_⟩|⟨_,a,b,q⟩
  ·omega
  ·exact (hc.cell _ _ (blt q) (nm _ _ a b)).trans q
 have HC1:=hid hc1
 have HX1:=hid hx1
 have HK1:=hid kc1
 have HF1:=hid kf1
 have HL:Hid ((L=3/\ok=true)\/L=5):=hid (hL.imp id (λe=>e.1))
 have HN:=hid n5
 clear hL nm hc1 hx1 hx kc1 kf1 kc kf n5
 go_enter Tryz.func44,Tryz.ntmps44
 go_wp2_with fail
 refine KS.out.mono ?_
 rintro e w1 ⟨rfl,hw⟩
 subst w1
 go_wp2_with fail
 generalize hW:World.setCell (w.setCell ⟨bx,9,none⟩ (.int .i64 (fn:Int))) ⟨bx,10,none⟩ (.int .i64 si)=W at HC1 HX1 HK1 HF1⊢
 obtain ⟨r0,r1,r2⟩:=HP.out W HC1.out
 have r3:=HX1.out.c 9 _ rfl
 have r4:=HK1.out
 have r5:=HF1.out
 have l0:br<W.heap.size:=blt r0
 have l3:kb<W.heap.size:=blt r4
 dsimp only at r3
 have HC2:Hid (Chg (ziv bx kb fn) w (W.setCell ⟨kb,fn,none⟩ (.bool true)).drew):=hid ((HC1.out.setCell (λ_=> .inr ⟨rfl,rfl⟩) _).drew)
 have HX2:Hid (XAt (W.setCell ⟨kb,fn,none⟩ (.bool true)).drew bx {X with fi:=fn,si:=si}):=hid ((HX1.out.keep ((Chg.refl (λk j=>k=kb/\j=fn) W).setCell (λ_=>⟨rfl,rfl⟩) _) λj e=>HN.out e.1).below (Qi _ _))
 have hn6:=n6
 clear hW c0 c1 c2 c3 qf qz p0 p2 qc x9 f9 x10 f10
 refine wp_region_held_drew (S:=(λw'=>w'.cell? ⟨br,0,none⟩=some (ptr bp)/\w'.cell? ⟨bp,2,none⟩=some (.slice (some ⟨gc,0,none⟩) (T+1) cc)/\w'.cell? ⟨gc,T,none⟩=some (.slice (some ⟨kb,0,none⟩) cl cl)/\w'.cell? ⟨bx,9,none⟩=some (.int .i64 (fn:Int)))) yak ?_ (λhHeld=>?_)
 ·(try dsimp only);exact ⟨r0,r1,r2,r3⟩
 refine Qa 0 (h:=Qa 1 (h:=Qa 2 (h:=Qa 3 (h:=Qa 4 (h:=Qa 5 (h:=Qa 6 (h:=Qa 7 (h:=Qa 8 (h:=Qa 9 (h:=Qa 10 (h:=Qa 11 (h:=Qa 12 (h:=Qa 13 (h:=Qa 14 (h:=?_)))))))))))))))
 refine tr [15] (.cons rfl (λKQ hKQ=>?_) .nil)
 go_simp
 refine hKQ.out _ _ ?_ (λhHeld=>?_)
 ·(try dsimp only);exact ⟨(Qb (.inl n6.symm)).trans hHeld.1,(Qb (.inl n7.symm)).trans hHeld.2.1,(Qb (.inl n8.symm)).trans hHeld.2.2.1,(Qb (.inl HN.out)).trans hHeld.2.2.2⟩
 clear hKQ KQ
 refine wpAnyH_done yak ?_ _
 generalize hW2:(W.setCell ⟨kb,fn,none⟩ (.bool true)).drew=W2 at HC2 HX2⊢
 clear hW2 hHeld HC1 HX1 HK1 HF1 r0 r1 r2 r3 r4 r5 l0 l3
 rcases HL.out with ⟨rfl,rfl⟩|rfl
 ·go_wp2_with fail
  go_ret
  exact ⟨rfl,HC2.out,_,_,HX2.out⟩
 ·have w4:=HW.out rfl _ HC2.out
  go_wp2_with fail
  refine (KA.out (by trivial) _ HC2.out).mono ?_
  rintro e w1 ⟨rfl,hb⟩
  have HC3:=hid (HC2.out.then (Chg.of_below (M:=λ_ _=>False) hb) (λ_ _ _ e=>e.elim))
  have HX3:=hid (HX2.out.below hb)
  clear hb HC2 HX2 w4
  have x7:=HX3.out.c 7 _ rfl
  have x8:=HX3.out.c 8 _ rfl
  have f7:=HX3.out.f 7
  have f8:=HX3.out.f 8
  have lx:=HX3.out.lt
  dsimp only at x7 x8
  go_wp2
  go_ret
  refine ⟨rfl,((HC3.out.setCell (λ_=> .inl ⟨rfl,by omega,by omega⟩) _).setCell (λ_=> .inl ⟨rfl,by omega,by omega⟩) _).alloc _,tl,tv,?_⟩
  exact ((HX3.out.set (X':={X with fi:=fn,si:=si,tl:=tl}) (u:= .bool tl) (j:=7) yai rfl).set (X':={X with fi:=fn,si:=si,tl:=tl,tv:=tv}) (u:= .int .i64 tv) (j:=8) yai rfl).below ((Below.refl _ _).alloc (Nat.le_refl _) _)
end
end Go.Proofs.YtphcopbffecceaaGreatDoor
