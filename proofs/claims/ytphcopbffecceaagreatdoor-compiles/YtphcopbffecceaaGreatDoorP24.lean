import Derived.Test.YtphcopbffecceaaGreatDoorP20
set_option maxRecDepth 100000
set_option maxHeartbeats 10000000
namespace Go.Proofs.YtphcopbffecceaaGreatDoor
open Go.RowKit
section
variable{w:World}{bw cap:Nat}{u v x y z t:ByteArray}{ws rr:List ByteArray}
theorem z6p(k:Nat)(hk:k<1000000)(c0:w.cell? ⟨bw,0,none⟩=some (.string u))(c1:w.cell? ⟨bw,1,none⟩=some (.string v))(z1:v.size<1000000)(c2:w.cell? ⟨bw,2,none⟩=some (.string x))(z2:x.size<1000000)(c3:w.cell? ⟨bw,3,none⟩=some (.string ⟨#[97,116]⟩))(c4:w.cell? ⟨bw,4,none⟩=some (.string z))(z4:z.size<1000000):
  Cl 11 #[.slice (some ⟨bw,0,none⟩) (k+6) cap] w λr w'=>r= .returned (.bool (Jr (u::v::x::wAt::z::t::rr)))/\w'=w:=by
 have KN:=hid Vs
 have KA:=hid Xb
 have KL:=hid Zq
 have g1:(1:Int)<(k:Int)+6:=yai
 have g2:(2:Int)<(k:Int)+6:=yai
 have g4:(4:Int)<(k:Int)+6:=yai
 have e1:((k:Int)+6==1)=false:=yan
 have e2:((k:Int)+6==2)=false:=yan
 have e3:((k:Int)+6==3)=false:=yan
 have e5:((k:Int)+6==5)=false:=yan
 obtain ⟨a,ha⟩: ∃a,Vo v=a:=⟨_,rfl⟩
 obtain ⟨b,hb⟩: ∃b,isAt x=b:=⟨_,rfl⟩
 obtain ⟨d,hd⟩: ∃d,Vo x=d:=⟨_,rfl⟩
 obtain ⟨e,he⟩: ∃e,isAt z=e:=⟨_,rfl⟩
 rcases Yk u with rfl|rfl|rfl|rfl|rfl|rfl|rfl|rfl|rfl|rfl|⟨nshared,nthread,nend,natomic,nset,nget,nput,nout,nif,nloop⟩
 all_goals first|rw [Zf]|rw [Yd]|rw [Sk]|rw [Zg]|rw [Gu]|rw [Es]|rw [Et]|rw [Eu]|rw [zcy]|rw [Uf]|(rw [Un _ nshared nthread nend natomic nset nget nput nout nif nloop];have mshared:(u.toList==[115,104,97,114,101,100])=false:=Qo nshared;have mthread:(u.toList==[116,104,114,101,97,100])=false:=Qo nthread;have mend:(u.toList==[101,110,100])=false:=Qo nend;have matomic:(u.toList==[97,116,111,109,105,99])=false:=Qo natomic;have mset:(u.toList==[115,101,116])=false:=Qo nset;have mget:(u.toList==[103,101,116])=false:=Qo nget;have mput:(u.toList==[112,117,116])=false:=Qo nput;have mout:(u.toList==[111,117,116])=false:=Qo nout;have mif:(u.toList==[105,102])=false:=Qo nif;have mloop:(u.toList==[108,111,111,112])=false:=Qo nloop;clear nshared nthread nend natomic nset nget nput nout nif nloop)
 all_goals try simp only [Qy,Qt,Zd,Qs,Jz,Vd,Va,Vp,Fe,Jh] at c0
 all_goals try dsimp only [List.isEmpty]
 all_goals try simp only [ha,hb,hd,he]
 all_goals cases a<;>cases b<;>cases e
 all_goals first
  |(go_enter Tryz.func11,Tryz.ntmps11;go_wp2_with (first|(go_at_call 18;refine (KN.out _ _ yaq).mono ?_;rintro e w' ⟨rfl,rfl⟩)|(go_at_call 19;refine (KA.out _ _ yaq).mono ?_;rintro e w' ⟨rfl,rfl⟩)|(go_at_call 20;refine (KL.out _ _ _).mono ?_;rintro e w' ⟨rfl,rfl⟩));go_ret;exact ⟨rfl,rfl⟩;done)
  |(cases d<;>(go_enter Tryz.func11,Tryz.ntmps11;go_wp2_with (first|(go_at_call 18;refine (KN.out _ _ yaq).mono ?_;rintro e w' ⟨rfl,rfl⟩)|(go_at_call 19;refine (KA.out _ _ yaq).mono ?_;rintro e w' ⟨rfl,rfl⟩)|(go_at_call 20;refine (KL.out _ _ _).mono ?_;rintro e w' ⟨rfl,rfl⟩));go_ret;exact ⟨rfl,rfl⟩;done))
end
end Go.Proofs.YtphcopbffecceaaGreatDoor
