import Derived.Test.YtphcopbffecceaaGreatDoorP19
set_option maxRecDepth 100000
set_option maxHeartbeats 10000000
namespace Go.Proofs.YtphcopbffecceaaGreatDoor
open Go.RowKit
def Jr:List ByteArray->Bool
 |[]=>false
 |u::us=>
  if u=Qy then (match us with|[v]=>Vo v|[v,x]=>Vo v&&Sx 6 x|_=>false)
  else if u=Qt then us.isEmpty else if u=Zd then us.isEmpty else if u=Qs then us.isEmpty
  else if u=Jz then (match us with|[v,x]=>Vo v&&isAt x|[v,x,y,z]=>Vo v&&(isAt x&&((Uj y).isSome&&isAt z))|_=>false)
  else if u=Vd then (match us with|[v,x]=>Vo v&&Vo x|[v,x,y,z]=>Vo v&&(Vo x&&(decide (y=wAt)&&isAt z))|_=>false)
  else if u=Va then (match us with|[v,x]=>Vo v&&isAt x|[v,x,y,z]=>Vo v&&(isAt x&&(decide (y=wAt)&&isAt z))|_=>false)
  else if u=Vp then (match us with|[v]=>isAt v|_=>false)
  else if u=Fe then (match us with|[v]=>isAt v|_=>false)
  else if u=Jh then (match us with|[v]=>Sx 4 v|_=>false)
  else false
theorem Zf(us:List ByteArray):Jr (Qy::us)=(match us with|[v]=>Vo v|[v,x]=>Vo v&&Sx 6 x|_=>false):=by
 unfold Jr
 dsimp only
 rw [if_pos rfl]
theorem Yd(us:List ByteArray):Jr (Qt::us)=us.isEmpty:=by
 unfold Jr
 dsimp only
 rw [if_neg (show ¬Qt=Qy by decide),if_pos rfl]
theorem Sk(us:List ByteArray):Jr (Zd::us)=us.isEmpty:=by
 unfold Jr
 dsimp only
 rw [if_neg (show ¬Zd=Qy by decide),if_neg (show ¬Zd=Qt by decide),if_pos rfl]
theorem Zg(us:List ByteArray):Jr (Qs::us)=us.isEmpty:=by
 unfold Jr
 dsimp only
 rw [if_neg (show ¬Qs=Qy by decide),if_neg (show ¬Qs=Qt by decide),if_neg (show ¬Qs=Zd by decide),if_pos rfl]
theorem Gu(us:List ByteArray):Jr (Jz::us)=(match us with|[v,x]=>Vo v&&isAt x|[v,x,y,z]=>Vo v&&(isAt x&&((Uj y).isSome&&isAt z))|_=>false):=by
 unfold Jr
 dsimp only
 rw [if_neg (show ¬Jz=Qy by decide),if_neg (show ¬Jz=Qt by decide),if_neg (show ¬Jz=Zd by decide),if_neg (show ¬Jz=Qs by decide),if_pos rfl]
theorem Es(us:List ByteArray):Jr (Vd::us)=(match us with|[v,x]=>Vo v&&Vo x|[v,x,y,z]=>Vo v&&(Vo x&&(decide (y=wAt)&&isAt z))|_=>false):=by
 unfold Jr
 dsimp only
 rw [if_neg (show ¬Vd=Qy by decide),if_neg (show ¬Vd=Qt by decide),if_neg (show ¬Vd=Zd by decide),if_neg (show ¬Vd=Qs by decide),if_neg (show ¬Vd=Jz by decide),if_pos rfl]
theorem Et(us:List ByteArray):Jr (Va::us)=(match us with|[v,x]=>Vo v&&isAt x|[v,x,y,z]=>Vo v&&(isAt x&&(decide (y=wAt)&&isAt z))|_=>false):=by
 unfold Jr
 dsimp only
 rw [if_neg (show ¬Va=Qy by decide),if_neg (show ¬Va=Qt by decide),if_neg (show ¬Va=Zd by decide),if_neg (show ¬Va=Qs by decide),if_neg (show ¬Va=Jz by decide),if_neg (show ¬Va=Vd by decide),if_pos rfl]
theorem Eu(us:List ByteArray):Jr (Vp::us)=(match us with|[v]=>isAt v|_=>false):=by
 unfold Jr
 dsimp only
 rw [if_neg (show ¬Vp=Qy by decide),if_neg (show ¬Vp=Qt by decide),if_neg (show ¬Vp=Zd by decide),if_neg (show ¬Vp=Qs by decide),if_neg (show ¬Vp=Jz by decide),if_neg (show ¬Vp=Vd by decide),if_neg (show ¬Vp=Va by decide),if_pos rfl]
theorem zcy(us:List ByteArray):Jr (Fe::us)=(match us with|[v]=>isAt v|_=>false):=by
 unfold Jr
 dsimp only
 rw [if_neg (show ¬Fe=Qy by decide),if_neg (show ¬Fe=Qt by decide),if_neg (show ¬Fe=Zd by decide),if_neg (show ¬Fe=Qs by decide),if_neg (show ¬Fe=Jz by decide),if_neg (show ¬Fe=Vd by decide),if_neg (show ¬Fe=Va by decide),if_neg (show ¬Fe=Vp by decide),if_pos rfl]
theorem Uf(us:List ByteArray):Jr (Jh::us)=(match us with|[v]=>Sx 4 v|_=>false):=by
 unfold Jr
 dsimp only
 rw [if_neg (show ¬Jh=Qy by decide),if_neg (show ¬Jh=Qt by decide),if_neg (show ¬Jh=Zd by decide),if_neg (show ¬Jh=Qs by decide),if_neg (show ¬Jh=Jz by decide),if_neg (show ¬Jh=Vd by decide),if_neg (show ¬Jh=Va by decide),if_neg (show ¬Jh=Vp by decide),if_neg (show ¬Jh=Fe by decide),if_pos rfl]
theorem Un{u:ByteArray}(us:List ByteArray)(nshared:u≠Qy)(nthread:u≠Qt)(nend:u≠Zd)(natomic:u≠Qs)(nset:u≠Jz)(nget:u≠Vd)(nput:u≠Va)(nout:u≠Vp)(nif:u≠Fe)(nloop:u≠Jh):Jr (u::us)=false:=by
 unfold Jr
 dsimp only
 rw [if_neg nshared,if_neg nthread,if_neg nend,if_neg natomic,if_neg nset,if_neg nget,if_neg nput,if_neg nout,if_neg nif,if_neg nloop]
theorem Yk(u:ByteArray):u=Qy\/u=Qt\/u=Zd\/u=Qs\/u=Jz\/u=Vd\/u=Va\/u=Vp\/u=Fe\/u=Jh\/(u≠Qy/\u≠Qt/\u≠Zd/\u≠Qs/\u≠Jz/\u≠Vd/\u≠Va/\u≠Vp/\u≠Fe/\u≠Jh):=by
 by_cases nshared:u=Qy
 ·simp [nshared]
 by_cases nthread:u=Qt
 ·simp [nthread]
 by_cases nend:u=Zd
 ·simp [nend]
 by_cases natomic:u=Qs
 ·simp [natomic]
 by_cases nset:u=Jz
 ·simp [nset]
 by_cases nget:u=Vd
 ·simp [nget]
 by_cases nput:u=Va
 ·simp [nput]
 by_cases nout:u=Vp
 ·simp [nout]
 by_cases nif:u=Fe
 ·simp [nif]
 by_cases nloop:u=Jh
 ·simp [nloop]
 exact .inr (.inr (.inr (.inr (.inr (.inr (.inr (.inr (.inr (.inr ⟨nshared,nthread,nend,natomic,nset,nget,nput,nout,nif,nloop⟩)))))))))
section
variable{w:World}{bw cap:Nat}{u v x y z t:ByteArray}{ws rr:List ByteArray}
theorem dl1(c0:w.cell? ⟨bw,0,none⟩=some (.string u)):
  Cl 11 #[.slice (some ⟨bw,0,none⟩) 1 cap] w λr w'=>r= .returned (.bool (Jr [u]))/\w'=w:=by
 have KN:=hid Vs
 have KA:=hid Xb
 have KL:=hid Zq
 rcases Yk u with rfl|rfl|rfl|rfl|rfl|rfl|rfl|rfl|rfl|rfl|⟨nshared,nthread,nend,natomic,nset,nget,nput,nout,nif,nloop⟩
 all_goals first|rw [Zf]|rw [Yd]|rw [Sk]|rw [Zg]|rw [Gu]|rw [Es]|rw [Et]|rw [Eu]|rw [zcy]|rw [Uf]|(rw [Un _ nshared nthread nend natomic nset nget nput nout nif nloop];have mshared:(u.toList==[115,104,97,114,101,100])=false:=Qo nshared;have mthread:(u.toList==[116,104,114,101,97,100])=false:=Qo nthread;have mend:(u.toList==[101,110,100])=false:=Qo nend;have matomic:(u.toList==[97,116,111,109,105,99])=false:=Qo natomic;have mset:(u.toList==[115,101,116])=false:=Qo nset;have mget:(u.toList==[103,101,116])=false:=Qo nget;have mput:(u.toList==[112,117,116])=false:=Qo nput;have mout:(u.toList==[111,117,116])=false:=Qo nout;have mif:(u.toList==[105,102])=false:=Qo nif;have mloop:(u.toList==[108,111,111,112])=false:=Qo nloop;clear nshared nthread nend natomic nset nget nput nout nif nloop)
 all_goals try simp only [Qy,Qt,Zd,Qs,Jz,Vd,Va,Vp,Fe,Jh] at c0
 all_goals try dsimp only [List.isEmpty]
 all_goals (go_enter Tryz.func11,Tryz.ntmps11;go_wp2_with (first|(go_at_call 18;refine (KN.out _ _ yaq).mono ?_;rintro e w' ⟨rfl,rfl⟩)|(go_at_call 19;refine (KA.out _ _ yaq).mono ?_;rintro e w' ⟨rfl,rfl⟩)|(go_at_call 20;refine (KL.out _ _ _).mono ?_;rintro e w' ⟨rfl,rfl⟩));go_ret;exact ⟨rfl,rfl⟩;done)
theorem dl2(c0:w.cell? ⟨bw,0,none⟩=some (.string u))(c1:w.cell? ⟨bw,1,none⟩=some (.string v))(z1:v.size<1000000):
  Cl 11 #[.slice (some ⟨bw,0,none⟩) 2 cap] w λr w'=>r= .returned (.bool (Jr [u,v]))/\w'=w:=by
 have KN:=hid Vs
 have KA:=hid Xb
 have KL:=hid Zq
 obtain ⟨a,ha⟩: ∃a,Vo v=a:=⟨_,rfl⟩
 rcases Yk u with rfl|rfl|rfl|rfl|rfl|rfl|rfl|rfl|rfl|rfl|⟨nshared,nthread,nend,natomic,nset,nget,nput,nout,nif,nloop⟩
 all_goals first|rw [Zf]|rw [Yd]|rw [Sk]|rw [Zg]|rw [Gu]|rw [Es]|rw [Et]|rw [Eu]|rw [zcy]|rw [Uf]|(rw [Un _ nshared nthread nend natomic nset nget nput nout nif nloop];have mshared:(u.toList==[115,104,97,114,101,100])=false:=Qo nshared;have mthread:(u.toList==[116,104,114,101,97,100])=false:=Qo nthread;have mend:(u.toList==[101,110,100])=false:=Qo nend;have matomic:(u.toList==[97,116,111,109,105,99])=false:=Qo natomic;have mset:(u.toList==[115,101,116])=false:=Qo nset;have mget:(u.toList==[103,101,116])=false:=Qo nget;have mput:(u.toList==[112,117,116])=false:=Qo nput;have mout:(u.toList==[111,117,116])=false:=Qo nout;have mif:(u.toList==[105,102])=false:=Qo nif;have mloop:(u.toList==[108,111,111,112])=false:=Qo nloop;clear nshared nthread nend natomic nset nget nput nout nif nloop)
 all_goals try simp only [Qy,Qt,Zd,Qs,Jz,Vd,Va,Vp,Fe,Jh] at c0
 all_goals try dsimp only [List.isEmpty]
 all_goals try simp only [ha]
 all_goals cases a
 all_goals (go_enter Tryz.func11,Tryz.ntmps11;go_wp2_with (first|(go_at_call 18;refine (KN.out _ _ yaq).mono ?_;rintro e w' ⟨rfl,rfl⟩)|(go_at_call 19;refine (KA.out _ _ yaq).mono ?_;rintro e w' ⟨rfl,rfl⟩)|(go_at_call 20;refine (KL.out _ _ _).mono ?_;rintro e w' ⟨rfl,rfl⟩));go_ret;exact ⟨rfl,rfl⟩;done)
end
section
variable{w:World}{bw cap:Nat}{u v x y z t:ByteArray}{ws rr:List ByteArray}
theorem dl3(c0:w.cell? ⟨bw,0,none⟩=some (.string u))(c1:w.cell? ⟨bw,1,none⟩=some (.string v))(z1:v.size<1000000)(c2:w.cell? ⟨bw,2,none⟩=some (.string x))(z2:x.size<1000000):
  Cl 11 #[.slice (some ⟨bw,0,none⟩) 3 cap] w λr w'=>r= .returned (.bool (Jr [u,v,x]))/\w'=w:=by
 have KN:=hid Vs
 have KA:=hid Xb
 have KL:=hid Zq
 obtain ⟨a,ha⟩: ∃a,Vo v=a:=⟨_,rfl⟩
 obtain ⟨b,hb⟩: ∃b,isAt x=b:=⟨_,rfl⟩
 obtain ⟨d,hd⟩: ∃d,Vo x=d:=⟨_,rfl⟩
 rcases Yk u with rfl|rfl|rfl|rfl|rfl|rfl|rfl|rfl|rfl|rfl|⟨nshared,nthread,nend,natomic,nset,nget,nput,nout,nif,nloop⟩
 all_goals first|rw [Zf]|rw [Yd]|rw [Sk]|rw [Zg]|rw [Gu]|rw [Es]|rw [Et]|rw [Eu]|rw [zcy]|rw [Uf]|(rw [Un _ nshared nthread nend natomic nset nget nput nout nif nloop];have mshared:(u.toList==[115,104,97,114,101,100])=false:=Qo nshared;have mthread:(u.toList==[116,104,114,101,97,100])=false:=Qo nthread;have mend:(u.toList==[101,110,100])=false:=Qo nend;have matomic:(u.toList==[97,116,111,109,105,99])=false:=Qo natomic;have mset:(u.toList==[115,101,116])=false:=Qo nset;have mget:(u.toList==[103,101,116])=false:=Qo nget;have mput:(u.toList==[112,117,116])=false:=Qo nput;have mout:(u.toList==[111,117,116])=false:=Qo nout;have mif:(u.toList==[105,102])=false:=Qo nif;have mloop:(u.toList==[108,111,111,112])=false:=Qo nloop;clear nshared nthread nend natomic nset nget nput nout nif nloop)
 all_goals try simp only [Qy,Qt,Zd,Qs,Jz,Vd,Va,Vp,Fe,Jh] at c0
 all_goals try dsimp only [List.isEmpty]
 all_goals try simp only [ha,hb,hd]
 all_goals cases a<;>cases b
 all_goals first
  |(go_enter Tryz.func11,Tryz.ntmps11;go_wp2_with (first|(go_at_call 18;refine (KN.out _ _ yaq).mono ?_;rintro e w' ⟨rfl,rfl⟩)|(go_at_call 19;refine (KA.out _ _ yaq).mono ?_;rintro e w' ⟨rfl,rfl⟩)|(go_at_call 20;refine (KL.out _ _ _).mono ?_;rintro e w' ⟨rfl,rfl⟩));go_ret;exact ⟨rfl,rfl⟩;done)
  |(cases d<;>(go_enter Tryz.func11,Tryz.ntmps11;go_wp2_with (first|(go_at_call 18;refine (KN.out _ _ yaq).mono ?_;rintro e w' ⟨rfl,rfl⟩)|(go_at_call 19;refine (KA.out _ _ yaq).mono ?_;rintro e w' ⟨rfl,rfl⟩)|(go_at_call 20;refine (KL.out _ _ _).mono ?_;rintro e w' ⟨rfl,rfl⟩));go_ret;exact ⟨rfl,rfl⟩;done))
end
end Go.Proofs.YtphcopbffecceaaGreatDoor
