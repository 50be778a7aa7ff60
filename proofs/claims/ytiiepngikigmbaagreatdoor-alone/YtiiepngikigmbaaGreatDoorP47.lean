import Derived.Test.YtiiepngikigmbaaGreatDoorP44
import Derived.Test.YtiiepngikigmbaaGreatDoorP46
namespace Go.Proofs.YtiiepngikigmbaaGreatDoor
open Go.RowKit
variable{st:RS}{e:Int}{W:World}
theorem ydt{ws:List ByteArray}(h:Vq st ws= .error e):e≠0:=by
 have ok: ∀{x:Int},(Except.error x:Except Int RS)= .error e->x≠0->e≠0:=λq hx=>by rw [<-Except.error.inj q];exact hx
 unfold Vq at h
 split at h
 ·exact ok h yl8
 ·split at h
  ·unfold Iq at h
   split at h
   ·exact ok h yl8
   ·exact yk1
   ·split at h
    ·exact yk1
    ·exact ok h yl8
  ·split at h
   ·unfold Ef at h
    split at h
    ·split at h
     ·exact ok h yl8
     ·cases h
    ·exact ok h yl8
   ·split at h
    ·unfold zwb at h
     split at h
     ·split at h
      ·exact ok h yl8
      ·cases h
     ·exact ok h yl8
    ·split at h
     ·unfold gSt at h
      split at h
      ·exact ok h yl8
      ·split at h
       ·exact yk1
       ·exact ok h yl8
     ·exact ok h yl8
theorem z95: ∀(f:Nat) (r:List UInt8) (j:Nat) (st:RS) {e l:Int},Yc f r j st= .error (e,l)->e≠0/\0<=l
 |0,_,_,st,e,l,h=>by simp [Yc] at h
 |f+1,r,j,st,e,l,h=>by
  simp only [Yc] at h
  split at h
  ·cases h
  ·generalize Lib.cut r [10]=q at h
   obtain ⟨a,r',b⟩:=q
   cases b with
   |false=>exact ylo
   |true=>
    simp only at h
    cases hg:Vq st (Ql a) with
    |error er=>
     rw [hg] at h
     simp only [Except.error.injEq,Prod.mk.injEq] at h
     have:=ydt hg
     omega
    |ok st2=>
     rw [hg] at h
     exact z95 f r' (j+1) st2 h
theorem ydu{s:ByteArray}{l:Int}(h:zaz s= .error (e,l)):e≠0/\0<=l:=by
 unfold zaz at h
 cases hg:Jl s with
 |error p=>
  rw [hg] at h
  obtain ⟨a,b⟩:=p
  have h:(a,b)=(e,l):=Except.error.inj h
  obtain ⟨rfl,rfl⟩:=Prod.mk.inj h
  unfold Jl at hg
  split at hg
  ·simp only [Except.error.injEq,Prod.mk.injEq] at hg
   omega
  ·exact z95 _ _ _ _ hg
 |ok st=>
  rw [hg] at h
  dsimp only at h
  split at h
  ·exact ylo
  ·split at h
   ·exact ylo
   ·cases h
def AlJ(W:World)(st:RS)(pv:Nat)(bm i:Nat)(w:World):Prop:=∃(D:Nat->Prop) (p:Mx) (S:List Nat),MRep D w bm p.1 p.2/\(∀k,w.heap.size<=k->D k)/\(∀k,D k->W.heap.size<=k)/\Fine (200000*i) p.1/\AS st ((200000*i:Nat):Int) p S/\(∀t∈S,∃j,j<i/\t=(j+pv)%3)/\Below W.heap.size W w
theorem yir(hE:Env W)(hT:TabAt W){u:ByteArray}(hg:zaz u= .ok st)(pv:Nat):yh7 (λw=>Below W.heap.size W w) u pv (AlJ W st pv):=by
 have hp:=yhi hg
 have hcode:=yds hp
 refine ⟨⟨Yi st,λw hw=>?_,λw hw=>?_⟩,λbm i w hi hJ=>?_,λbm w hJ=>?_⟩
 ·refine (zw5 (hE.below hw) (hT.below hw) u hg).mono ?_
  rintro e w' ⟨rfl,hb⟩
  exact ⟨rfl,hw.trans (hb.mono hw.size)⟩
 ·have:=yen (hE.below hw) (Yi st)
  rw [hcode] at this
  refine this.mono ?_
  rintro e w' ⟨bm,rfl,h1,h2,h3⟩
  refine ⟨bm,rfl,_,(_,_),[],h1,λk hk=>Nat.le_trans h3.size hk,λk hk=>Nat.le_trans hw.size hk,yes h2 (yeq hcode),yhj,λt ht=>by simp at ht,hw.trans (h3.mono hw.size)⟩
 ·obtain ⟨D,p,S,h1,h2,h3,h4,h5,h6,h7⟩:=hJ
  have ht:(i+pv)%3∉S:=λq=>by
   obtain ⟨j,q1,q2⟩:=h6 _ q
   omega
  obtain ⟨N,n1,n2,n3,n4⟩:=yhk hp yl5 h5 ht
  have hend:=yi5 h1 h2 ((i+pv)%3) N n1 n2 n3 λk hk=>(yat ((i+pv)%3) h4 k).ok yl5
  rw [show (((i+pv)%3:Nat):Int)=((i:Int)+(pv:Int))%3 by omega] at hend
  refine hend.mono ?_
  rintro e w' ⟨rfl,g1,g2⟩
  refine ⟨rfl,D,_,(i+pv)%3::S,g1,λk hk=>h2 k (Nat.le_trans g2.size hk),h3,(yat ((i+pv)%3) h4 N).mono yl5,?_,λt ht=>?_,h7.trans (g2.below h7.size λk i e=>h3 k e)⟩
  ·rw [show ((200000*(i+1):Nat):Int)=((200000*i:Nat):Int)+200000 by omega]
   exact n4
  ·rcases List.mem_cons.1 ht with rfl|ht
   ·exact ⟨i,by omega,rfl⟩
   ·obtain ⟨j,q1,q2⟩:=h6 t ht
    exact ⟨j,by omega,q2⟩
 ·obtain ⟨D,p,S,h1,h2,h3,h4,h5,h6,h7⟩:=hJ
  exact h7
theorem ygf: ∃st,zaz alT= .ok st:=by
 have:(match zaz alT with| .ok _=>true| .error _=>false)=true:=yl7
 cases h:zaz alT with
 |ok st=>exact ⟨st,rfl⟩
 |error e=>rw [h] at this;cases this
theorem ydv(hE:Env W)(hT:TabAt W)(s:ByteArray)(a:Int)(ha:-9223372036854775808<=a):
  Cl 3 #[.string s, .int .i64 a] W λe w'=>e= .returned (.bool true)/\Below W.heap.size W w':=by
 by_cases hs:(4096:Int)<(s.size:Int)
 ·refine (yda hs).mono ?_
  rintro e w' ⟨rfl,rfl⟩
  exact ⟨rfl,Below.refl _ _⟩
 ·have hin:=yfx a 3 ha yl8
  obtain ⟨pv,hpv⟩:=Int.eq_ofNat_of_zero_le hin.1
  rw [hpv] at hin
  have hb:Below W.heap.size W (W.alloc (.cells #[.string s, .string alT] 9)):=(Below.refl _ _).alloc (Nat.le_refl _) _
  generalize hW1:W.alloc (.cells #[.string s, .string alT] 9)=W1 at hb
  have c0:W1.cell? ⟨W.heap.size,0,none⟩=some (.string s):=ynz
  have c1:W1.cell? ⟨W.heap.size,1,none⟩=some (.string alT):=ynz
  have hE1:=hE.below hb
  have hT1:=hT.below hb
  obtain ⟨st1,hg1⟩:=ygf
  have K0:(∃er ln:Int,er≠0/\0<=ln/\ ∀w,Below W1.heap.size W1 w->Cl 4 #[.string s] w λe w'=>e= .returned (.tuple #[.string ⟨#[]⟩, .int .i64 er, .int .i64 ln])/\Below W1.heap.size W1 w')\/ ∃J,yh7 (λw=>Below W1.heap.size W1 w) s pv J:=by
   cases hg:zaz s with
   |error q=>
    obtain ⟨er,ln⟩:=q
    obtain ⟨q1,q2⟩:=ydu hg
    refine .inl ⟨er,ln,q1,q2,λw hw=>(zsu (hE1.below hw) s hg).mono ?_⟩
    rintro e w' ⟨rfl,h⟩
    exact ⟨rfl,hw.trans (h.mono hw.size)⟩
   |ok st=>exact .inr ⟨_,yir hE1 hT1 hg pv⟩
  have KP:Hid (∀w,Cl 7 #[.int .i64 a, .int .i64 3] w λe w'=>e= .returned (.int .i64 (pv:Int))/\w'=w):=hid λw=>by have:=yg6 a 3 w yl8;rw [hpv] at this;exact this
  have fin2: ∀J0,(((∃er ln:Int,er≠0/\0<=ln/\ ∀w,Below W1.heap.size W1 w->Cl 4 #[.string s] w λe w'=>e= .returned (.tuple #[.string ⟨#[]⟩, .int .i64 er, .int .i64 ln])/\Below W1.heap.size W1 w')\/yh7 (λw=>Below W1.heap.size W1 w) s pv J0))->Cl 3 #[.string s, .int .i64 a] W λe w'=>e= .returned (.bool true)/\Below W.heap.size W w':=λJ0 k0=>by
   refine (yby hs pv yl5 (λw=>Below W1.heap.size W1 w) J0 (AlJ W1 st1 pv) (hid (by rw [hW1];exact Below.refl _ _)) (hid λw hw=>⟨(hw.cell (blt c0)).trans c0,(hw.cell (blt c1)).trans c1⟩) KP (hid k0) (hid (yir hE1 hT1 hg1 pv))).mono ?_
   rintro e w' ⟨rfl,h⟩
   exact ⟨rfl,hb.trans (h.mono hb.size)⟩
  rcases K0 with h|⟨J,h⟩
  ·exact fin2 (λ_ _ _=>True) (.inl h)
  ·exact fin2 J (.inr h)
end Go.Proofs.YtiiepngikigmbaaGreatDoor
