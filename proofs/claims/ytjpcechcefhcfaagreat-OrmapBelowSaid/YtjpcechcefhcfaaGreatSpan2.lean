/- Sets of numbers: the front, how many numbers there are, what is in them; the program's, the document's; lists laid over. -/
import Derived.Test.YtjpcechcefhcfaaGreatG00
namespace Go.Proofs.YtjpcechcefhcfaaGreat
open Go.ChangeShapes Go.WideShapes Go.ChangeAt Go.RowKit
namespace Sp
def frontI:List (Int×Int)→Int
 | []=>0
 | r::_=>if r.1=1 then r.2 else 0
theorem RightF.of_append:∀ {a b:List (Int×Int)} {m:Int},RightF m (a++b)→RightF m a
 | [],_,_,_=>trivial
 | _::_,_,_,h=>⟨h.1,h.2.1,h.2.2.1,RightF.of_append h.2.2.2⟩
theorem RightF.take {l:List (Int×Int)} {m:Int} (h:RightF m l) (k:Nat):RightF m (l.take k):=RightF.of_append (b:=l.drop k) (by rwa [List.take_append_drop])
set_option maxRecDepth 100000 in
set_option maxHeartbeats 1000000 in
theorem refright_any (l:List (Int×Int)) (n:Nat) (A:Option Addr) (c:Nat) (w:World) (hl:l.length=n) (hn:n≤1000000) (hr:Rd w w.heap.size 2 A n c (runsC l)) :
  Calls Tryz.prog 77 #[.slice A n c] w fun e w'=>e = .returned (.bool (rightB l))∧Below w.heap.size w w':=by
 have HR:=Lib.hid hr;have HL:=Lib.hid hl;clear hr hl;go_enter Tryz.func77,Tryz.ntmps77;go_wp2
 go_loopw [6] (fun i wr=>∃ (k:Nat) (m:Int),k≤n∧i = .int .i64 k∧Hid (1≤m)∧Hid (k=0→m=1)∧Hid (∀ (j:Nat) (h:j<l.length),k=j+1→m=l[j].2+2∧l[j].2≤1099511627776)∧Hid (RightF 1 l↔RightF m (l.drop k))∧Hid (∃ q,wr=w.drewN q)) (fun i _=>n-(intOf i).toNat)
 case atStart=>exact⟨0,1,by omega,rfl,Int.le_refl 1,fun _=>rfl,fun j _ h=>by omega,Iff.rfl,⟨0,rfl⟩⟩
 case round=>
  obtain⟨k,m,hk,rfl,HM,HM0,HM1,HI,HB⟩:=hrel;obtain⟨q,rfl⟩:=HB.out;have HBe:∀ q',Hid (Below w.heap.size w ((w.drewN q).drewN q')):=fun q'=>bel_drewN (bel_drewN (Below.refl _ _) _) _
  by_cases hlt:k<n
  ·have hkl:k<l.length:=by rw[HL.out];exact hlt
   obtain⟨b,o,rfl,hbl,hc⟩:=rd_run HR.out HL.out hlt;obtain⟨q0,q1⟩:=hc k hkl;obtain⟨p,hp⟩:∃ p,p=l[k]:=⟨_,rfl⟩;have HD:=Lib.hid (drop_at hkl hp);have HP:=Lib.hid hp;rw[← hp]at q0 q1;obtain⟨x,y⟩:=p;have hm:=HM.out
   by_cases h1:x<1
   ·have f1:decide (x<1)=true:=by simpa using h1
    have HE:Hid (false=rightB l):=rightB_of HI.out (by rw[HD.out];simp only[Bool.false_eq_true,RightF,false_iff];omega);clear hc hp;go_wp2
    go_quiet (fail)
    go_wp2;go_ret;exact⟨ret_bool HE.out,(HBe _).out⟩
   ·have f1:decide (x<1)=false:=by simpa using h1
    by_cases h3:1099511627776<y
    ·have f3:decide (1099511627776<y)=true:=by simpa using h3
     have HE:Hid (false=rightB l):=rightB_of HI.out (by rw[HD.out];simp only[Bool.false_eq_true,RightF,false_iff];omega);clear hc hp;go_wp2
     go_quiet (fail)
     go_wp2;go_ret;exact⟨ret_bool HE.out,(HBe _).out⟩
    ·have f3:decide (1099511627776<y)=false:=by simpa using h3
     by_cases h2:y<x
     ·have f2:decide (y<x)=true:=by simpa using h2
      have HE:Hid (false=rightB l):=rightB_of HI.out (by rw[HD.out];simp only[Bool.false_eq_true,RightF,false_iff];omega);clear hc hp;go_wp2
      go_quiet (fail)
      go_wp2;go_ret;exact⟨ret_bool HE.out,(HBe _).out⟩
     ·have f2:decide (y<x)=false:=by simpa using h2
      have hstep:m≤x→Hid (RightF 1 l↔RightF (y+2) (l.drop (k+1))):=fun hmx=>by
       refine Iff.trans HI.out ?_;rw[HD.out];simp only[RightF];exact⟨fun h=>h.2.2.2,fun h=>⟨by omega,by omega,by omega,h⟩⟩
      have hnext:Hid (∀ (j:Nat) (h:j<l.length),k+1=j+1→y+2=l[j].2+2∧l[j].2≤1099511627776):=fun j h e=>by
       have:j=k:=by omega
       subst this;rw[← HP.out];exact⟨rfl,by show y≤_;omega⟩
      rcases Nat.eq_zero_or_pos k with rfl | hk0
      ·have hm0:=HM0.out rfl
       have HST:=hstep (by omega);clear hc hp hstep;simp only[Nat.zero_mul,Nat.add_zero]at q0 q1;go_wp2
       go_quiet (fail)
       go_wp2;go_roundw
       case rel=>exact⟨1,y+2,by omega,rfl,by unfold Hid;omega,fun h=>by omega,hnext.out,HST.out,⟨q+_,rfl⟩⟩
       case measure=>simp[intOf];omega
      ·obtain⟨k,rfl⟩:∃ j,k=j+1:=⟨k-1,by omega⟩
       obtain⟨r0,r1⟩:=hc k (by omega);obtain⟨p,hp'⟩:∃ p,p=l[k]:=⟨_,rfl⟩;obtain⟨hme,hle⟩:=HM1.out k (by omega) rfl;rw[← hp']at r0 r1 hme hle;obtain⟨u,v⟩:=p;dsimp only at hme hle r0 r1
       have hk1:((k+1:Nat):Int)-1=(k:Int):=by omega
       have hk2:decide ((0:Int)<((k+1:Nat):Int))=true:=decide_eq_true (by omega)
       by_cases h4:x<m
       ·have f4:decide (x-v<2)=true:=by simp;omega
        have HE:Hid (false=rightB l):=rightB_of HI.out (by rw[HD.out];simp only[Bool.false_eq_true,RightF,false_iff];omega);clear hc hp hp' hstep hnext;go_wp2
        go_quiet (fail)
        go_wp2;go_ret;exact⟨ret_bool HE.out,(HBe _).out⟩
       ·have f4:decide (x-v<2)=false:=by simp;omega
        have HST:=hstep (by omega);clear hc hp hp' hstep;go_wp2
        go_quiet (fail)
        go_wp2;go_roundw
        case rel=>exact⟨k+1+1,y+2,by omega,by go_num,by unfold Hid;omega,fun h=>by omega,hnext.out,HST.out,⟨q+_,rfl⟩⟩
        case measure=>simp[intOf];omega
  ·have HE:Hid (true=rightB l):=rightB_of HI.out (by rw[List.drop_eq_nil_of_le (by rw[HL.out];omega)];simp[RightF])
   go_wp2;go_ret;exact⟨ret_bool HE.out,(HBe 0).out⟩
end Sp
end Go.Proofs.YtjpcechcefhcfaaGreat
