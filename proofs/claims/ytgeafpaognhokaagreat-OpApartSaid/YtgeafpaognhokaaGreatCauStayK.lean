/- What is known: which kids stay. -/
import Derived.Test.YtgeafpaognhokaaGreatG00
import Derived.Test.YtgeafpaognhokaaGreatCauMrgE
import Derived.Test.YtgeafpaognhokaaGreatG10
namespace Go.Proofs.YtgeafpaognhokaaGreat
open Go.ChangeShapes Go.WideShapes Go.ChangeAt Go.RowKit
namespace Cs
open Tr Cx Sp Rw
theorem orS2 (g:Nat) (x y z:ByteArray) (hz:(if x.size=0 then y else x)=z) (w:World) (h0:w.cell? ⟨g,0,none⟩=some (.string x)) (h1:w.cell? ⟨g,1,none⟩=some (.string y)) :
  Calls Tryz.prog 186 #[.slice (some ⟨g,0,none⟩) 2 2] w fun e w'=>e = .returned (.string z)∧w=w':=by
 have HE:∀ b:ByteArray,b.size=0→b=⟨#[]⟩:=fun b h=>by
  obtain⟨⟨l⟩⟩:=b;have h2:l.length=0:=h;rw[List.length_eq_zero_iff.1 h2]
 by_cases hx:x.size=0
 ·rw[if_pos hx]at hz
  subst hz;obtain rfl:=HE x hx;have fe:=nil_isEmpty;have fe2:(⟨#[]⟩:ByteArray).toList=[]:=List.isEmpty_iff.1 nil_isEmpty
  by_cases hy:y.size=0
  ·obtain rfl:=HE y hy
   go_enter Tryz.func186,Tryz.ntmps186;go_wp2
   go_loop [8] (fun i=>∃ k:Nat,k≤2∧i = .int .i64 k) (fun i=>2-(intOf i).toNat)
   case atStart=>exact⟨0,by omega,rfl⟩
   case round=>
    obtain⟨k,hk,rfl⟩:=hrel
    rcases (by omega:k=0∨k=1∨k=2)with rfl | rfl | rfl
    ·go_wp2
     go_round
     case rel=>exact⟨1,by omega,rfl⟩
     case measure=>simp[intOf]
    ·go_wp2
     go_round
     case rel=>exact⟨2,by omega,rfl⟩
     case measure=>simp[intOf]
    ·go_wp2
     go_ret;exact⟨rfl,rfl⟩
  ·have f1:=str_isEmpty (k:=y) (by omega)
   have f2:¬y.toList=[]:=fun h=>by rw[h]at f1;cases f1
   have f3:(y.toList != ([]:List UInt8))=true:=by simpa using f2
   go_enter Tryz.func186,Tryz.ntmps186;go_wp2
   go_loop [8] (fun i=>∃ k:Nat,k≤1∧i = .int .i64 k) (fun i=>2-(intOf i).toNat)
   case atStart=>exact⟨0,by omega,rfl⟩
   case round=>
    obtain⟨k,hk,rfl⟩:=hrel
    rcases (by omega:k=0∨k=1)with rfl | rfl
    ·go_wp2
     go_round
     case rel=>exact⟨1,by omega,rfl⟩
     case measure=>simp[intOf]
    ·go_wp2
     go_ret;exact⟨rfl,rfl⟩
 ·rw[if_neg hx]at hz
  subst hz;have f1:=str_isEmpty (k:=x) (by omega)
  have f2:¬x.toList=[]:=fun h=>by rw[h]at f1;cases f1
  have f3:(x.toList != ([]:List UInt8))=true:=by simpa using f2
  go_enter Tryz.func186,Tryz.ntmps186;go_wp2
  go_loop [8] (fun i=>i = .int .i64 0) (fun i=>2-(intOf i).toNat)
  case atStart=>rfl
  case round=>
   subst hrel;go_wp2;go_ret;exact⟨rfl,rfl⟩
theorem boxK3 (w:World) (xk yk:ByteArray) (Ae Ak Be Bk:Option Addr) (ne nk ce ck me mk de dk:Nat):∃ (W:World) (p y r:Nat),Hid (W=((w.alloc (.cells #[.string xk,.slice Ae ne ce,.slice Ak nk ck] 134)).alloc (.cells #[.string yk,.slice Be me de,.slice Bk mk dk] 134)).alloc (.cells #[.string ⟨#[]⟩,.slice none 0 0,.slice none 0 0] 134))∧Hid (p=w.heap.size)∧Hid (y=p+1)∧Hid (r=p+1+1)∧Hid (Kept [(⟨p,0,none⟩,.string xk),(⟨p,1,none⟩,.slice Ae ne ce),(⟨p,2,none⟩,.slice Ak nk ck),(⟨y,0,none⟩,.string yk),(⟨y,1,none⟩,.slice Be me de),(⟨y,2,none⟩,.slice Bk mk dk),(⟨r,0,none⟩,.string ⟨#[]⟩),(⟨r,1,none⟩,.slice none 0 0),(⟨r,2,none⟩,.slice none 0 0)] w W)∧Hid (Free r W):=by
 refine⟨_,_,_,_,rfl,rfl,rfl,rfl,?_,⟨by simp,fun j=>by go_simp⟩⟩;have h0:=Kept.nil_of (box3_below w #[.string xk,.slice Ae ne ce,.slice Ak nk ck] #[.string yk,.slice Be me de,.slice Bk mk dk] #[.string ⟨#[]⟩,.slice none 0 0,.slice none 0 0] 134 134 134)
 refine ((((((((h0.cons_of ?_).cons_of ?_).cons_of ?_).cons_of ?_).cons_of ?_).cons_of ?_).cons_of ?_).cons_of ?_).cons_of ?_ <;> go_simp
def StayKd (key:ByteArray) (t:T) (w:World) (e:Ending) (w':World):Prop:=∃ Ae ne ce Ak nk ck,e = .returned (.tuple #[.agg #[.string key,.slice Ae ne ce,.slice Ak nk ck],.bool (!decide (ne=0∧nk=0))])∧RdO w' (fun b=>w.heap.size≤b) t ⟨Ae,ne,ce⟩ ⟨Ak,nk,ck⟩∧Below w.heap.size w w'
section
variable {l:List (Addr×Value)} {w0 W w':World} {p:Nat}
theorem _root_.Go.Proofs.YtgeafpaognhokaaGreat.Kept.past3 (K:Kept l w0 W) (hp:w0.heap.size≤p) (hl:∀ x∈l,x.1.block≠p) (v0 v1 v2:Value):Kept l w0 (((W.setCell ⟨p,0,none⟩ v0).setCell ⟨p,1,none⟩ v1).setCell ⟨p,2,none⟩ v2):=
 ((K.set (a:=⟨p,0,none⟩) hp hl v0).set (a:=⟨p,1,none⟩) hp hl v1).set (a:=⟨p,2,none⟩) hp hl v2
theorem _root_.Go.Proofs.YtgeafpaognhokaaGreat.Kept.set3 (K:Kept l w0 W) (hp:w0.heap.size≤p) (hl:∀ x∈l,x.1.block≠p) (h0:∃ u,W.cell? ⟨p,0,none⟩=some u) (h1:∃ u,W.cell? ⟨p,1,none⟩=some u) (h2:∃ u,W.cell? ⟨p,2,none⟩=some u) (v0 v1 v2:Value):Kept ((⟨p,0,none⟩,v0)::(⟨p,1,none⟩,v1)::(⟨p,2,none⟩,v2)::l) w0 (((W.setCell ⟨p,0,none⟩ v0).setCell ⟨p,1,none⟩ v1).setCell ⟨p,2,none⟩ v2):=by
 obtain⟨u0,h0⟩:=h0;obtain⟨u1,h1⟩:=h1;obtain⟨u2,h2⟩:=h2
 refine (((K.past3 hp hl v0 v1 v2).cons_of ?_).cons_of ?_).cons_of ?_ <;> go_simp
end
set_option maxRecDepth 100000 in
set_option maxHeartbeats 4000000 in
theorem stayK_any (xk yk:ByteArray) (Ae Ak Be Bk:Option Addr) (ne nk ce ck me mk de dk:Nat) (Ca Cb:Option Addr) (na ca9 nb cb9 ba bb:Nat) (w:World) (hca:w.cell? ⟨ba,2,none⟩=some (.slice Ca na ca9)) (hcb:w.cell? ⟨bb,2,none⟩=some (.slice Cb nb cb9)) (t:T) (key:ByteArray) (hkey:(if xk.size=0 then yk else xk)=key)
  (ht:∀ W,Below w.heap.size w W→Calls Tryz.prog 124 #[.agg #[.slice Ae ne ce,.slice Ak nk ck,.slice Ca na ca9],.agg #[.slice Be me de,.slice Bk mk dk,.slice Cb nb cb9]] W (TreeIs t W)) :
  Calls Tryz.prog 185 #[.agg #[.string xk,.slice Ae ne ce,.slice Ak nk ck],.agg #[.string yk,.slice Be me de,.slice Bk mk dk],.pointer (some ⟨ba,0,none⟩),.pointer (some ⟨bb,0,none⟩)] w (StayKd key t w):=by
 have HT:=Lib.hid ht;have hba:ba<w.heap.size:=World.block_lt_of_cell? w _ hca;have hbb:bb<w.heap.size:=World.block_lt_of_cell? w _ hcb;clear ht;obtain⟨W,p,y,r,HW,HP,HY,HR9,HK,HFR⟩:=boxK3 w xk yk Ae Ak Be Bk ne nk ce ck me mk de dk
 have hpw:w.heap.size≤r:=by have:=HP.out;have:=HR9.out;omega
 have e1:¬p=r:=by have:=HR9.out;omega
 have e2:¬r=p:=by omega
 have e3:¬y=r:=by have:=HR9.out;have:=HY.out;omega
 have e4:¬r=y:=by omega
 have e5:¬p=y:=by have:=HY.out;omega
 have e6:¬y=p:=by omega
 have hpr:p<r:=by have:=HR9.out;omega
 have hyr:y<r:=by have:=HR9.out;have:=HY.out;omega
 have hc2:=(HK.out.below.cell (p:=⟨ba,2,none⟩) hba).trans hca;have hc3:=(HK.out.below.cell (p:=⟨bb,2,none⟩) hbb).trans hcb;have HKc:=Lib.hid (((((((((Kept.nil_of HK.out.below).cons_of hc3).cons_of hc2).cons_of HK.out.c5).cons_of HK.out.c4).cons_of HK.out.c3).cons_of HK.out.c2).cons_of HK.out.c1).cons_of HK.out.c0 |>.drew);have HKR:=Lib.hid (((((Kept.nil W).cons_of HK.out.t8.c0).cons_of HK.out.c7).cons_of HK.out.c6).drew);have HFR:=Lib.hid (HFR.out.drew);clear HK hc2 hc3 hca hcb;go_enter Tryz.func185,Tryz.ntmps185;go_wp2_with fail;rw[← HP.out,← HW.out,← HR9.out,← HY.out];refine wp_region_held_drew (S:=Conj _) (by kernel_rfl) HKc.out.cj (fun hHeld=>?_);obtain⟨w1,hw1⟩:∃ v,v=W.drew:=⟨_,rfl⟩;rw[← hw1]at hHeld HKc HKR HFR ⊢;clear hw1;refine Tk 0 9 ?_;refine Tk 1 10 ?_;refine Tk 2 11 ?_;refine Tk 3 12 ?_
 refine Tk 6 15 ?_;refine Tk 7 16 ?_;refine Tk 8 17 ?_;refine Tk 9 18 ?_;refine Tk 10 19 ?_;refine Tk 11 20 ?_;refine Tk 12 21 ?_;refine Tk 13 22 ?_;refine Tk 14 23 ?_;refine Tk 15 24 ?_;refine wpAnyH_ready (rs:=[4,18]) (by kernel_rfl) (by simp) ?_;refine AllReadyH.cons (o:=⟨some 13,_,_,_,_,_⟩) rfl (fun K hK=>?_) (AllReadyH.cons (o:=⟨some 8,_,_,_,_,_⟩) rfl (fun K hK=>?_) (AllReadyH.nil))
 ·go_simp
  clear hHeld;refine Th hK ?_ (fun hHeld=>?_)
  ·exact (HKc.out.alloc (.cells #[.string xk,.string yk] 9)).cj
  clear hK K;obtain⟨h4,hh4⟩:∃ g,g=w1.heap.size:=⟨_,rfl⟩;obtain⟨v4,hv4⟩:∃ v,v=w1.alloc (.cells #[.string xk,.string yk] 9):=⟨_,rfl⟩
  have i0:v4.cell? ⟨h4,0,none⟩=some (.string xk):=by rw[hv4,hh4];go_simp
  have i1:v4.cell? ⟨h4,1,none⟩=some (.string yk):=by rw[hv4,hh4];go_simp
  have HKc:Hid (Kept [(⟨p,0,none⟩,.string xk),(⟨p,1,none⟩,.slice Ae ne ce),(⟨p,2,none⟩,.slice Ak nk ck),(⟨y,0,none⟩,.string yk),(⟨y,1,none⟩,.slice Be me de),(⟨y,2,none⟩,.slice Bk mk dk),(⟨ba,2,none⟩,.slice Ca na ca9),(⟨bb,2,none⟩,.slice Cb nb cb9)] w v4):=by unfold Hid;rw[hv4];exact HKc.out.alloc _
  have HKR:Hid (Kept [(⟨r,0,none⟩,.string ⟨#[]⟩),(⟨r,1,none⟩,.slice none 0 0),(⟨r,2,none⟩,.slice none 0 0)] W v4):=by unfold Hid;rw[hv4];exact HKR.out.alloc _
  have HFR:Hid (Free r v4):=by unfold Hid;rw[hv4];exact HFR.out.alloc _
  have HV4:=Lib.hid hv4;rw[← hv4]at hHeld ⊢;rw[← hh4];clear hv4 hh4;refine wpAnyH_ready (rs:=[5,18]) (by kernel_rfl) (by simp) ?_;refine AllReadyH.cons (o:=⟨some 14,_,_,_,_,_⟩) rfl (fun K hK=>?_) (AllReadyH.cons (o:=⟨some 8,_,_,_,_,_⟩) rfl (fun K hK=>?_) (AllReadyH.nil))
  ·go_simp
   (go_at_call 186;refine (orS2 h4 xk yk key hkey v4 i0 i1).mono ?_);rintro e v5 ⟨rfl,hv5⟩;subst hv5;clear hHeld;refine Th hK ?_ (fun hHeld=>?_)
   ·exact HKc.out.cj
   clear hK K;refine wpAnyH_ready (rs:=[16,18]) (by kernel_rfl) (by simp) ?_;refine AllReadyH.cons (o:=⟨some 25,_,_,_,_,_⟩) rfl (fun K hK=>?_) (AllReadyH.cons (o:=⟨some 8,_,_,_,_,_⟩) rfl (fun K hK=>?_) (AllReadyH.nil))
   ·go_simp
    (go_at_call 124;refine (HT.out v4 HKc.out.below).mono ?_);rintro e v16 ⟨Re,rn,rc,Rk,rm,rd,rfl,hro,hb16⟩;obtain⟨B6,hB6⟩:∃ z,z=v4.heap.size:=⟨_,rfl⟩
    have hrB:r<B6:=by rw[hB6];exact HFR.out.1
    have HRO:Hid (RdO v16 (fun b=>B6≤b) t ⟨Re,rn,rc⟩ ⟨Rk,rm,rd⟩):=RdO.mono (fun b hb _=>by omega) _ hro
    have HWB:Hid (w.heap.size≤B6):=by unfold Hid;rw[hB6];exact HKc.out.below.size
    have HKc:=Lib.hid (HKc.out.later hb16);have HKR:=Lib.hid (HKR.out.later hb16);have HFR:=Lib.hid (HFR.out.later hb16);clear hro hb16 hB6

    clear hHeld;refine Th hK ?_ (fun hHeld=>?_)
    ·exact HKc.out.cj
    clear hK K;refine Tk 17 26 ?_;refine Tc 18 (fun K hK=>?_);go_simp;clear hHeld;refine Th hK ?_ (fun hHeld=>?_)
    ·exact (HKc.out.alloc (.cells #[.string ⟨#[]⟩,.slice none 0 0,.slice none 0 0] 134)).cj
    clear hK K;obtain⟨g,hg⟩:∃ g,g=v16.heap.size:=⟨_,rfl⟩;obtain⟨v18,hv18⟩:∃ v,v=v16.alloc (.cells #[.string ⟨#[]⟩,.slice none 0 0,.slice none 0 0] 134):=⟨_,rfl⟩
    have HKG:Hid (Kept [(⟨g,0,none⟩,.string ⟨#[]⟩),(⟨g,1,none⟩,.slice none 0 0),(⟨g,2,none⟩,.slice none 0 0)] W v18):=by
     have h0:=Kept.nil_of (HKR.out.alloc (.cells #[.string ⟨#[]⟩,.slice none 0 0,.slice none 0 0] 134)).below;rw[← hv18]at h0
     refine ((h0.cons_of ?_).cons_of ?_).cons_of ?_ <;> (rw[hv18,hg];go_simp)
    have HFG:Hid (Free g v18):=⟨by rw[hv18,hg];simp,fun j=>by rw[hv18,hg];go_simp⟩
    have hgr:r<g:=by have:=HFR.out.1;omega
    have HWG:Hid (w.heap.size≤g):=by have:=HKc.out.below.size;unfold Hid;omega
    have HRO:Hid (RdO v18 (fun b=>B6≤b∧b≠g∧b≠r) t ⟨Re,rn,rc⟩ ⟨Rk,rm,rd⟩):=by
     unfold Hid;rw[hv18];exact RdO.later (RdO.mono (fun b hb hlt=>⟨hb,by omega,by omega⟩) _ HRO.out) (Dt.box_below _ _ _)
    have HKc:Hid (Kept [(⟨p,0,none⟩,.string xk),(⟨p,1,none⟩,.slice Ae ne ce),(⟨p,2,none⟩,.slice Ak nk ck),(⟨y,0,none⟩,.string yk),(⟨y,1,none⟩,.slice Be me de),(⟨y,2,none⟩,.slice Bk mk dk),(⟨ba,2,none⟩,.slice Ca na ca9),(⟨bb,2,none⟩,.slice Cb nb cb9)] w v18):=by unfold Hid;rw[hv18];exact HKc.out.alloc _
    have HKR:Hid (Kept [(⟨r,0,none⟩,.string ⟨#[]⟩),(⟨r,1,none⟩,.slice none 0 0),(⟨r,2,none⟩,.slice none 0 0)] W v18):=by unfold Hid;rw[hv18];exact HKR.out.alloc _
    have HFR:Hid (Free r v18):=by unfold Hid;rw[hv18];exact HFR.out.alloc _
    rw[← hv18]at hHeld ⊢;rw[← hg];clear hv18 hg;obtain⟨z0,z1,z2,-⟩:=HKG.out.cj;have m0:=HFG.out.2 0;have m1:=HFG.out.2 1;have m2:=HFG.out.2 2;refine Tc 19 (fun K hK=>?_);go_simp;refine Th hK ?_ (fun hHeld2=>?_)
    ·(try dsimp only)
     have h9:=HKc.out.past3 (p:=g) HWG.out (fun x hx=>by simp at hx;rcases hx with rfl | rfl | rfl | rfl | rfl | rfl | rfl | rfl <;> (dsimp only;omega)) (.string key) (.slice Re rn rc) (.slice Rk rm rd)
     exact h9.cj
    clear hK K hHeld;have hHeld:=hHeld2;clear hHeld2;refine wpAnyH_done (by kernel_rfl) ?_ _;clear hHeld z0 z1 z2 m0 m1 m2;obtain⟨W9,hW9⟩:∃ W,W=((v18.setCell ⟨g,0,none⟩ (.string key)).setCell ⟨g,1,none⟩ (.slice Re rn rc)).setCell ⟨g,2,none⟩ (.slice Rk rm rd):=⟨_,rfl⟩
    have HKG9:Hid (Kept [(⟨g,0,none⟩,.string key),(⟨g,1,none⟩,.slice Re rn rc),(⟨g,2,none⟩,.slice Rk rm rd)] w W9):=by
     unfold Hid;rw[hW9];exact (Kept.nil_of HKc.out.below).set3 (p:=g) HWG.out (by simp) ⟨_,HKG.out.c0⟩ ⟨_,HKG.out.c1⟩ ⟨_,HKG.out.c2⟩ _ _ _
    have HKR9:Hid (Kept [(⟨r,0,none⟩,.string ⟨#[]⟩),(⟨r,1,none⟩,.slice none 0 0),(⟨r,2,none⟩,.slice none 0 0)] w W9):=by
     unfold Hid;rw[hW9]
     exact (HKR.out.rebase HKc.out.below).past3 (p:=g) HWG.out (fun x hx=>by simp at hx;rcases hx with rfl | rfl | rfl <;> (dsimp only;omega)) _ _ _
    have HFR9:Hid (Free r W9):=by unfold Hid;rw[hW9];exact ((HFR.out.set _ _).set _ _).set _ _
    have HRO9:Hid (RdO W9 (fun b=>B6≤b∧b≠g∧b≠r) t ⟨Re,rn,rc⟩ ⟨Rk,rm,rd⟩):=by
     unfold Hid;rw[hW9];exact RdO.keep (by simp[World.setCell]) (fun b hb _=>((Below.heap_setCell _ ⟨g,2,none⟩ _ b (fun e=>hb.2.1 e)).trans (Below.heap_setCell _ ⟨g,1,none⟩ _ b (fun e=>hb.2.1 e))).trans (Below.heap_setCell _ ⟨g,0,none⟩ _ b (fun e=>hb.2.1 e))) _ HRO.out
    rw[← hW9];clear hW9 HKc HKR HFR HRO HKG HFG;go_wp2_with fail;refine wp_region_held_drew (S:=Conj _) (by kernel_rfl) HKG9.out.drew.cj (fun hHeld=>?_);obtain⟨w2,hw2⟩:∃ v,v=W9.drew:=⟨_,rfl⟩
    have HKG9:Hid (Kept [(⟨g,0,none⟩,.string key),(⟨g,1,none⟩,.slice Re rn rc),(⟨g,2,none⟩,.slice Rk rm rd)] w w2):=by unfold Hid;rw[hw2];exact HKG9.out.drew
    have HKR9:Hid (Kept [(⟨r,0,none⟩,.string ⟨#[]⟩),(⟨r,1,none⟩,.slice none 0 0),(⟨r,2,none⟩,.slice none 0 0)] w w2):=by unfold Hid;rw[hw2];exact HKR9.out.drew
    have HFR9:Hid (Free r w2):=by unfold Hid;rw[hw2];exact HFR9.out.drew
    have HRO9:Hid (RdO w2 (fun b=>B6≤b∧b≠g∧b≠r) t ⟨Re,rn,rc⟩ ⟨Rk,rm,rd⟩):=by unfold Hid;rw[hw2];exact RdO.later HRO9.out (Below.refl _ _).drew
    rw[← hw2]at hHeld ⊢;clear hw2;refine Tk 0 27 ?_;refine Tk 1 28 ?_;refine Tk 2 29 ?_;refine Tc 3 (fun K hK=>?_);go_simp;(go_at_call 136;refine (empty_any Re Rk rn rm rc rd _).mono ?_);rintro e v19 ⟨rfl,hb19⟩;have HKG9:=Lib.hid (HKG9.out.later hb19);have HKR9:=Lib.hid (HKR9.out.later hb19);have HFR9:=Lib.hid (HFR9.out.later hb19);have HRO9:=Lib.hid (RdO.later HRO9.out hb19);obtain⟨y0,y1,y2,-⟩:=HKR9.out.cj;have n0:=HFR9.out.2 0;have n1:=HFR9.out.2 1;have n2:=HFR9.out.2 2;clear hb19;clear hHeld;refine Th hK ?_ (fun hHeld=>?_)
    ·exact HKG9.out.cj
    clear hK K;refine Tk 4 31 ?_;refine Tc 5 (fun K hK=>?_);go_simp;refine Th hK ?_ (fun hHeld2=>?_)
    ·(try dsimp only)
     have h9:=HKG9.out.past3 (p:=r) hpw (fun x hx=>by simp at hx;rcases hx with rfl | rfl | rfl <;> (dsimp only;omega)) (.string key) (.slice Re rn rc) (.slice Rk rm rd)
     exact h9.cj
    clear hK K hHeld;have hHeld:=hHeld2;clear hHeld2;refine Tk 6 7 ?_;refine wpAnyH_done (by kernel_rfl) ?_ _;clear hHeld;obtain⟨W10,hW10⟩:∃ W,W=((v19.setCell ⟨r,0,none⟩ (.string key)).setCell ⟨r,1,none⟩ (.slice Re rn rc)).setCell ⟨r,2,none⟩ (.slice Rk rm rd):=⟨_,rfl⟩
    have HB10:Hid (Below w.heap.size w W10):=by
     unfold Hid;rw[hW10];exact ((HKR9.out.below.setCell (p:=⟨r,0,none⟩) hpw _).setCell (p:=⟨r,1,none⟩) hpw _).setCell (p:=⟨r,2,none⟩) hpw _
    have l0:W10.cell? ⟨r,0,none⟩=some (.string key):=by rw[hW10];go_simp
    have l1:W10.cell? ⟨r,1,none⟩=some (.slice Re rn rc):=by rw[hW10];go_simp
    have l2:W10.cell? ⟨r,2,none⟩=some (.slice Rk rm rd):=by rw[hW10];go_simp
    have HRO10:Hid (RdO W10 (fun b=>w.heap.size≤b) t ⟨Re,rn,rc⟩ ⟨Rk,rm,rd⟩):=by
     unfold Hid;rw[hW10];exact RdO.mono (fun b hb _=>Nat.le_trans HWB.out hb.1) _ (RdO.keep (by simp[World.setCell]) (fun b hb _=>((Below.heap_setCell _ ⟨r,2,none⟩ _ b (fun e=>hb.2.2 e)).trans (Below.heap_setCell _ ⟨r,1,none⟩ _ b (fun e=>hb.2.2 e))).trans (Below.heap_setCell _ ⟨r,0,none⟩ _ b (fun e=>hb.2.2 e))) _ HRO9.out)
    clear y0 y1 y2 n0 n1 n2;rw[← hW10];clear hW10;go_wp2_with fail;refine bodyPost_ret (v:=.tuple #[.agg #[.string key,.slice Re rn rc,.slice Rk rm rd],.bool (!decide (rn=0∧rm=0))]) (by simp[results,Tryz.results185,go_sem,l0,l1,l2]) rfl ⟨Re,rn,rc,Rk,rm,rd,rfl,HRO10.out,HB10.out⟩
   ·go_simp
    clear hHeld;refine Th hK ?_ (fun hHeld=>?_)
    ·exact (HKc.out.alloc (.cells #[.string ⟨#[]⟩,.slice none 0 0,.slice none 0 0] 134)).cj
    clear hK K;obtain⟨g,hg⟩:∃ g,g=v4.heap.size:=⟨_,rfl⟩;obtain⟨v18,hv18⟩:∃ v,v=v4.alloc (.cells #[.string ⟨#[]⟩,.slice none 0 0,.slice none 0 0] 134):=⟨_,rfl⟩
    have HKG:Hid (Kept [(⟨g,0,none⟩,.string ⟨#[]⟩),(⟨g,1,none⟩,.slice none 0 0),(⟨g,2,none⟩,.slice none 0 0)] W v18):=by
     have h0:=Kept.nil_of (HKR.out.alloc (.cells #[.string ⟨#[]⟩,.slice none 0 0,.slice none 0 0] 134)).below;rw[← hv18]at h0
     refine ((h0.cons_of ?_).cons_of ?_).cons_of ?_ <;> (rw[hv18,hg];go_simp)
    have HFG:Hid (Free g v18):=⟨by rw[hv18,hg];simp,fun j=>by rw[hv18,hg];go_simp⟩
    have hgr:r<g:=by have:=HFR.out.1;omega
    have HWG:Hid (w.heap.size≤g):=by have:=HKc.out.below.size;unfold Hid;omega
    have HKc:Hid (Kept [(⟨p,0,none⟩,.string xk),(⟨p,1,none⟩,.slice Ae ne ce),(⟨p,2,none⟩,.slice Ak nk ck),(⟨y,0,none⟩,.string yk),(⟨y,1,none⟩,.slice Be me de),(⟨y,2,none⟩,.slice Bk mk dk),(⟨ba,2,none⟩,.slice Ca na ca9),(⟨bb,2,none⟩,.slice Cb nb cb9)] w v18):=by unfold Hid;rw[hv18];exact HKc.out.alloc _
    have HKR:Hid (Kept [(⟨r,0,none⟩,.string ⟨#[]⟩),(⟨r,1,none⟩,.slice none 0 0),(⟨r,2,none⟩,.slice none 0 0)] W v18):=by unfold Hid;rw[hv18];exact HKR.out.alloc _
    have HFR:Hid (Free r v18):=by unfold Hid;rw[hv18];exact HFR.out.alloc _
    rw[← hv18]at hHeld ⊢;rw[← hg];clear hv18 hg;refine Tc 16 (fun K hK=>?_);go_simp;(go_at_call 124;refine (HT.out v18 HKc.out.below).mono ?_);rintro e v16 ⟨Re,rn,rc,Rk,rm,rd,rfl,hro,hb16⟩;obtain⟨B6,hB6⟩:∃ z,z=v18.heap.size:=⟨_,rfl⟩
    have hrB:r<B6:=by rw[hB6];exact HFR.out.1
    have hgB:g<B6:=by rw[hB6];exact HFG.out.1
    have HRO:Hid (RdO v16 (fun b=>B6≤b∧b≠g∧b≠r) t ⟨Re,rn,rc⟩ ⟨Rk,rm,rd⟩):=RdO.mono (fun b hb _=>⟨by omega,by omega,by omega⟩) _ hro
    have HWB:Hid (w.heap.size≤B6):=by unfold Hid;rw[hB6];exact HKc.out.below.size
    have HKc:=Lib.hid (HKc.out.later hb16);have HKR:=Lib.hid (HKR.out.later hb16);have HFR:=Lib.hid (HFR.out.later hb16);have HKG:=Lib.hid (HKG.out.later hb16);have HFG:=Lib.hid (HFG.out.later hb16);clear hro hb16 hB6;obtain⟨z0,z1,z2,-⟩:=HKG.out.cj;have m0:=HFG.out.2 0;have m1:=HFG.out.2 1;have m2:=HFG.out.2 2;clear hHeld;refine Th hK ?_ (fun hHeld=>?_)
    ·exact HKc.out.cj
    clear hK K;refine Tk 17 26 ?_;refine Tc 19 (fun K hK=>?_);go_simp;refine Th hK ?_ (fun hHeld2=>?_)
    ·(try dsimp only)
     have h9:=HKc.out.past3 (p:=g) HWG.out (fun x hx=>by simp at hx;rcases hx with rfl | rfl | rfl | rfl | rfl | rfl | rfl | rfl <;> (dsimp only;omega)) (.string key) (.slice Re rn rc) (.slice Rk rm rd)
     exact h9.cj
    clear hK K hHeld;have hHeld:=hHeld2;clear hHeld2;refine wpAnyH_done (by kernel_rfl) ?_ _;clear hHeld z0 z1 z2 m0 m1 m2;obtain⟨W9,hW9⟩:∃ W,W=((v16.setCell ⟨g,0,none⟩ (.string key)).setCell ⟨g,1,none⟩ (.slice Re rn rc)).setCell ⟨g,2,none⟩ (.slice Rk rm rd):=⟨_,rfl⟩
    have HKG9:Hid (Kept [(⟨g,0,none⟩,.string key),(⟨g,1,none⟩,.slice Re rn rc),(⟨g,2,none⟩,.slice Rk rm rd)] w W9):=by
     unfold Hid;rw[hW9];exact (Kept.nil_of HKc.out.below).set3 (p:=g) HWG.out (by simp) ⟨_,HKG.out.c0⟩ ⟨_,HKG.out.c1⟩ ⟨_,HKG.out.c2⟩ _ _ _
    have HKR9:Hid (Kept [(⟨r,0,none⟩,.string ⟨#[]⟩),(⟨r,1,none⟩,.slice none 0 0),(⟨r,2,none⟩,.slice none 0 0)] w W9):=by
     unfold Hid;rw[hW9]
     exact (HKR.out.rebase HKc.out.below).past3 (p:=g) HWG.out (fun x hx=>by simp at hx;rcases hx with rfl | rfl | rfl <;> (dsimp only;omega)) _ _ _
    have HFR9:Hid (Free r W9):=by unfold Hid;rw[hW9];exact ((HFR.out.set _ _).set _ _).set _ _
    have HRO9:Hid (RdO W9 (fun b=>B6≤b∧b≠g∧b≠r) t ⟨Re,rn,rc⟩ ⟨Rk,rm,rd⟩):=by
     unfold Hid;rw[hW9];exact RdO.keep (by simp[World.setCell]) (fun b hb _=>((Below.heap_setCell _ ⟨g,2,none⟩ _ b (fun e=>hb.2.1 e)).trans (Below.heap_setCell _ ⟨g,1,none⟩ _ b (fun e=>hb.2.1 e))).trans (Below.heap_setCell _ ⟨g,0,none⟩ _ b (fun e=>hb.2.1 e))) _ HRO.out
    rw[← hW9];clear hW9 HKc HKR HFR HRO HKG HFG;go_wp2_with fail;refine wp_region_held_drew (S:=Conj _) (by kernel_rfl) HKG9.out.drew.cj (fun hHeld=>?_);obtain⟨w2,hw2⟩:∃ v,v=W9.drew:=⟨_,rfl⟩
    have HKG9:Hid (Kept [(⟨g,0,none⟩,.string key),(⟨g,1,none⟩,.slice Re rn rc),(⟨g,2,none⟩,.slice Rk rm rd)] w w2):=by unfold Hid;rw[hw2];exact HKG9.out.drew
    have HKR9:Hid (Kept [(⟨r,0,none⟩,.string ⟨#[]⟩),(⟨r,1,none⟩,.slice none 0 0),(⟨r,2,none⟩,.slice none 0 0)] w w2):=by unfold Hid;rw[hw2];exact HKR9.out.drew
    have HFR9:Hid (Free r w2):=by unfold Hid;rw[hw2];exact HFR9.out.drew
    have HRO9:Hid (RdO w2 (fun b=>B6≤b∧b≠g∧b≠r) t ⟨Re,rn,rc⟩ ⟨Rk,rm,rd⟩):=by unfold Hid;rw[hw2];exact RdO.later HRO9.out (Below.refl _ _).drew
    rw[← hw2]at hHeld ⊢;clear hw2;refine Tk 0 27 ?_;refine Tk 1 28 ?_;refine Tk 2 29 ?_;refine Tc 3 (fun K hK=>?_);go_simp;(go_at_call 136;refine (empty_any Re Rk rn rm rc rd _).mono ?_);rintro e v19 ⟨rfl,hb19⟩;have HKG9:=Lib.hid (HKG9.out.later hb19);have HKR9:=Lib.hid (HKR9.out.later hb19);have HFR9:=Lib.hid (HFR9.out.later hb19);have HRO9:=Lib.hid (RdO.later HRO9.out hb19);obtain⟨y0,y1,y2,-⟩:=HKR9.out.cj;have n0:=HFR9.out.2 0;have n1:=HFR9.out.2 1;have n2:=HFR9.out.2 2;clear hb19;clear hHeld;refine Th hK ?_ (fun hHeld=>?_)
    ·exact HKG9.out.cj
    clear hK K;refine Tk 4 31 ?_;refine Tc 5 (fun K hK=>?_);go_simp;refine Th hK ?_ (fun hHeld2=>?_)
    ·(try dsimp only)
     have h9:=HKG9.out.past3 (p:=r) hpw (fun x hx=>by simp at hx;rcases hx with rfl | rfl | rfl <;> (dsimp only;omega)) (.string key) (.slice Re rn rc) (.slice Rk rm rd)
     exact h9.cj
    clear hK K hHeld;have hHeld:=hHeld2;clear hHeld2;refine Tk 6 7 ?_;refine wpAnyH_done (by kernel_rfl) ?_ _;clear hHeld;obtain⟨W10,hW10⟩:∃ W,W=((v19.setCell ⟨r,0,none⟩ (.string key)).setCell ⟨r,1,none⟩ (.slice Re rn rc)).setCell ⟨r,2,none⟩ (.slice Rk rm rd):=⟨_,rfl⟩
    have HB10:Hid (Below w.heap.size w W10):=by
     unfold Hid;rw[hW10];exact ((HKR9.out.below.setCell (p:=⟨r,0,none⟩) hpw _).setCell (p:=⟨r,1,none⟩) hpw _).setCell (p:=⟨r,2,none⟩) hpw _
    have l0:W10.cell? ⟨r,0,none⟩=some (.string key):=by rw[hW10];go_simp
    have l1:W10.cell? ⟨r,1,none⟩=some (.slice Re rn rc):=by rw[hW10];go_simp
    have l2:W10.cell? ⟨r,2,none⟩=some (.slice Rk rm rd):=by rw[hW10];go_simp
    have HRO10:Hid (RdO W10 (fun b=>w.heap.size≤b) t ⟨Re,rn,rc⟩ ⟨Rk,rm,rd⟩):=by
     unfold Hid;rw[hW10];exact RdO.mono (fun b hb _=>Nat.le_trans HWB.out hb.1) _ (RdO.keep (by simp[World.setCell]) (fun b hb _=>((Below.heap_setCell _ ⟨r,2,none⟩ _ b (fun e=>hb.2.2 e)).trans (Below.heap_setCell _ ⟨r,1,none⟩ _ b (fun e=>hb.2.2 e))).trans (Below.heap_setCell _ ⟨r,0,none⟩ _ b (fun e=>hb.2.2 e))) _ HRO9.out)
    clear y0 y1 y2 n0 n1 n2;rw[← hW10];clear hW10;go_wp2_with fail;refine bodyPost_ret (v:=.tuple #[.agg #[.string key,.slice Re rn rc,.slice Rk rm rd],.bool (!decide (rn=0∧rm=0))]) (by simp[results,Tryz.results185,go_sem,l0,l1,l2]) rfl ⟨Re,rn,rc,Rk,rm,rd,rfl,HRO10.out,HB10.out⟩
  ·go_simp
   clear hHeld;refine Th hK ?_ (fun hHeld=>?_)
   ·exact (HKc.out.alloc (.cells #[.string ⟨#[]⟩,.slice none 0 0,.slice none 0 0] 134)).cj
   clear hK K;obtain⟨g,hg⟩:∃ g,g=v4.heap.size:=⟨_,rfl⟩;obtain⟨v18,hv18⟩:∃ v,v=v4.alloc (.cells #[.string ⟨#[]⟩,.slice none 0 0,.slice none 0 0] 134):=⟨_,rfl⟩
   have hb18:Below v4.heap.size v4 v18:=by rw[hv18];exact Dt.box_below _ _ _
   replace i0:=(hb18.cell (p:=⟨h4,0,none⟩) (World.block_lt_of_cell? v4 _ i0)).trans i0
   replace i1:=(hb18.cell (p:=⟨h4,1,none⟩) (World.block_lt_of_cell? v4 _ i1)).trans i1
   have HKG:Hid (Kept [(⟨g,0,none⟩,.string ⟨#[]⟩),(⟨g,1,none⟩,.slice none 0 0),(⟨g,2,none⟩,.slice none 0 0)] W v18):=by
    have h0:=Kept.nil_of (HKR.out.alloc (.cells #[.string ⟨#[]⟩,.slice none 0 0,.slice none 0 0] 134)).below;rw[← hv18]at h0
    refine ((h0.cons_of ?_).cons_of ?_).cons_of ?_ <;> (rw[hv18,hg];go_simp)
   have HFG:Hid (Free g v18):=⟨by rw[hv18,hg];simp,fun j=>by rw[hv18,hg];go_simp⟩
   have hgr:r<g:=by have:=HFR.out.1;omega
   have HWG:Hid (w.heap.size≤g):=by have:=HKc.out.below.size;unfold Hid;omega
   have HKc:Hid (Kept [(⟨p,0,none⟩,.string xk),(⟨p,1,none⟩,.slice Ae ne ce),(⟨p,2,none⟩,.slice Ak nk ck),(⟨y,0,none⟩,.string yk),(⟨y,1,none⟩,.slice Be me de),(⟨y,2,none⟩,.slice Bk mk dk),(⟨ba,2,none⟩,.slice Ca na ca9),(⟨bb,2,none⟩,.slice Cb nb cb9)] w v18):=by unfold Hid;rw[hv18];exact HKc.out.alloc _
   have HKR:Hid (Kept [(⟨r,0,none⟩,.string ⟨#[]⟩),(⟨r,1,none⟩,.slice none 0 0),(⟨r,2,none⟩,.slice none 0 0)] W v18):=by unfold Hid;rw[hv18];exact HKR.out.alloc _
   have HFR:Hid (Free r v18):=by unfold Hid;rw[hv18];exact HFR.out.alloc _
   rw[← hv18]at hHeld ⊢;rw[← hg];clear hv18 hg;refine Tc 5 (fun K hK=>?_);go_simp;(go_at_call 186;refine (orS2 h4 xk yk key hkey v18 i0 i1).mono ?_);rintro e v5 ⟨rfl,hv5⟩;subst hv5;clear hHeld;refine Th hK ?_ (fun hHeld=>?_)
   ·exact HKc.out.cj
   clear hK K;refine Tc 16 (fun K hK=>?_);go_simp;(go_at_call 124;refine (HT.out v18 HKc.out.below).mono ?_);rintro e v16 ⟨Re,rn,rc,Rk,rm,rd,rfl,hro,hb16⟩;obtain⟨B6,hB6⟩:∃ z,z=v18.heap.size:=⟨_,rfl⟩
   have hrB:r<B6:=by rw[hB6];exact HFR.out.1
   have hgB:g<B6:=by rw[hB6];exact HFG.out.1
   have HRO:Hid (RdO v16 (fun b=>B6≤b∧b≠g∧b≠r) t ⟨Re,rn,rc⟩ ⟨Rk,rm,rd⟩):=RdO.mono (fun b hb _=>⟨by omega,by omega,by omega⟩) _ hro
   have HWB:Hid (w.heap.size≤B6):=by unfold Hid;rw[hB6];exact HKc.out.below.size
   have HKc:=Lib.hid (HKc.out.later hb16);have HKR:=Lib.hid (HKR.out.later hb16);have HFR:=Lib.hid (HFR.out.later hb16);have HKG:=Lib.hid (HKG.out.later hb16);have HFG:=Lib.hid (HFG.out.later hb16);clear hro hb16 hB6;obtain⟨z0,z1,z2,-⟩:=HKG.out.cj;have m0:=HFG.out.2 0;have m1:=HFG.out.2 1;have m2:=HFG.out.2 2;clear hHeld;refine Th hK ?_ (fun hHeld=>?_)
   ·exact HKc.out.cj
   clear hK K;refine Tk 17 26 ?_;refine Tc 19 (fun K hK=>?_);go_simp;refine Th hK ?_ (fun hHeld2=>?_)
   ·(try dsimp only)
    have h9:=HKc.out.past3 (p:=g) HWG.out (fun x hx=>by simp at hx;rcases hx with rfl | rfl | rfl | rfl | rfl | rfl | rfl | rfl <;> (dsimp only;omega)) (.string key) (.slice Re rn rc) (.slice Rk rm rd)
    exact h9.cj
   clear hK K hHeld;have hHeld:=hHeld2;clear hHeld2;refine wpAnyH_done (by kernel_rfl) ?_ _;clear hHeld z0 z1 z2 m0 m1 m2;obtain⟨W9,hW9⟩:∃ W,W=((v16.setCell ⟨g,0,none⟩ (.string key)).setCell ⟨g,1,none⟩ (.slice Re rn rc)).setCell ⟨g,2,none⟩ (.slice Rk rm rd):=⟨_,rfl⟩
   have HKG9:Hid (Kept [(⟨g,0,none⟩,.string key),(⟨g,1,none⟩,.slice Re rn rc),(⟨g,2,none⟩,.slice Rk rm rd)] w W9):=by
    unfold Hid;rw[hW9];exact (Kept.nil_of HKc.out.below).set3 (p:=g) HWG.out (by simp) ⟨_,HKG.out.c0⟩ ⟨_,HKG.out.c1⟩ ⟨_,HKG.out.c2⟩ _ _ _
   have HKR9:Hid (Kept [(⟨r,0,none⟩,.string ⟨#[]⟩),(⟨r,1,none⟩,.slice none 0 0),(⟨r,2,none⟩,.slice none 0 0)] w W9):=by
    unfold Hid;rw[hW9]
    exact (HKR.out.rebase HKc.out.below).past3 (p:=g) HWG.out (fun x hx=>by simp at hx;rcases hx with rfl | rfl | rfl <;> (dsimp only;omega)) _ _ _
   have HFR9:Hid (Free r W9):=by unfold Hid;rw[hW9];exact ((HFR.out.set _ _).set _ _).set _ _
   have HRO9:Hid (RdO W9 (fun b=>B6≤b∧b≠g∧b≠r) t ⟨Re,rn,rc⟩ ⟨Rk,rm,rd⟩):=by
    unfold Hid;rw[hW9];exact RdO.keep (by simp[World.setCell]) (fun b hb _=>((Below.heap_setCell _ ⟨g,2,none⟩ _ b (fun e=>hb.2.1 e)).trans (Below.heap_setCell _ ⟨g,1,none⟩ _ b (fun e=>hb.2.1 e))).trans (Below.heap_setCell _ ⟨g,0,none⟩ _ b (fun e=>hb.2.1 e))) _ HRO.out
   rw[← hW9];clear hW9 HKc HKR HFR HRO HKG HFG;go_wp2_with fail;refine wp_region_held_drew (S:=Conj _) (by kernel_rfl) HKG9.out.drew.cj (fun hHeld=>?_);obtain⟨w2,hw2⟩:∃ v,v=W9.drew:=⟨_,rfl⟩
   have HKG9:Hid (Kept [(⟨g,0,none⟩,.string key),(⟨g,1,none⟩,.slice Re rn rc),(⟨g,2,none⟩,.slice Rk rm rd)] w w2):=by unfold Hid;rw[hw2];exact HKG9.out.drew
   have HKR9:Hid (Kept [(⟨r,0,none⟩,.string ⟨#[]⟩),(⟨r,1,none⟩,.slice none 0 0),(⟨r,2,none⟩,.slice none 0 0)] w w2):=by unfold Hid;rw[hw2];exact HKR9.out.drew
   have HFR9:Hid (Free r w2):=by unfold Hid;rw[hw2];exact HFR9.out.drew
   have HRO9:Hid (RdO w2 (fun b=>B6≤b∧b≠g∧b≠r) t ⟨Re,rn,rc⟩ ⟨Rk,rm,rd⟩):=by unfold Hid;rw[hw2];exact RdO.later HRO9.out (Below.refl _ _).drew
   rw[← hw2]at hHeld ⊢;clear hw2;refine Tk 0 27 ?_;refine Tk 1 28 ?_;refine Tk 2 29 ?_;refine Tc 3 (fun K hK=>?_);go_simp;(go_at_call 136;refine (empty_any Re Rk rn rm rc rd _).mono ?_);rintro e v19 ⟨rfl,hb19⟩;have HKG9:=Lib.hid (HKG9.out.later hb19);have HKR9:=Lib.hid (HKR9.out.later hb19);have HFR9:=Lib.hid (HFR9.out.later hb19);have HRO9:=Lib.hid (RdO.later HRO9.out hb19);obtain⟨y0,y1,y2,-⟩:=HKR9.out.cj;have n0:=HFR9.out.2 0;have n1:=HFR9.out.2 1;have n2:=HFR9.out.2 2;clear hb19;clear hHeld;refine Th hK ?_ (fun hHeld=>?_)
   ·exact HKG9.out.cj
   clear hK K;refine Tk 4 31 ?_;refine Tc 5 (fun K hK=>?_);go_simp;refine Th hK ?_ (fun hHeld2=>?_)
   ·(try dsimp only)
    have h9:=HKG9.out.past3 (p:=r) hpw (fun x hx=>by simp at hx;rcases hx with rfl | rfl | rfl <;> (dsimp only;omega)) (.string key) (.slice Re rn rc) (.slice Rk rm rd)
    exact h9.cj
   clear hK K hHeld;have hHeld:=hHeld2;clear hHeld2;refine Tk 6 7 ?_;refine wpAnyH_done (by kernel_rfl) ?_ _;clear hHeld;obtain⟨W10,hW10⟩:∃ W,W=((v19.setCell ⟨r,0,none⟩ (.string key)).setCell ⟨r,1,none⟩ (.slice Re rn rc)).setCell ⟨r,2,none⟩ (.slice Rk rm rd):=⟨_,rfl⟩
   have HB10:Hid (Below w.heap.size w W10):=by
    unfold Hid;rw[hW10];exact ((HKR9.out.below.setCell (p:=⟨r,0,none⟩) hpw _).setCell (p:=⟨r,1,none⟩) hpw _).setCell (p:=⟨r,2,none⟩) hpw _
   have l0:W10.cell? ⟨r,0,none⟩=some (.string key):=by rw[hW10];go_simp
   have l1:W10.cell? ⟨r,1,none⟩=some (.slice Re rn rc):=by rw[hW10];go_simp
   have l2:W10.cell? ⟨r,2,none⟩=some (.slice Rk rm rd):=by rw[hW10];go_simp
   have HRO10:Hid (RdO W10 (fun b=>w.heap.size≤b) t ⟨Re,rn,rc⟩ ⟨Rk,rm,rd⟩):=by
    unfold Hid;rw[hW10];exact RdO.mono (fun b hb _=>Nat.le_trans HWB.out hb.1) _ (RdO.keep (by simp[World.setCell]) (fun b hb _=>((Below.heap_setCell _ ⟨r,2,none⟩ _ b (fun e=>hb.2.2 e)).trans (Below.heap_setCell _ ⟨r,1,none⟩ _ b (fun e=>hb.2.2 e))).trans (Below.heap_setCell _ ⟨r,0,none⟩ _ b (fun e=>hb.2.2 e))) _ HRO9.out)
   clear y0 y1 y2 n0 n1 n2;rw[← hW10];clear hW10;go_wp2_with fail;refine bodyPost_ret (v:=.tuple #[.agg #[.string key,.slice Re rn rc,.slice Rk rm rd],.bool (!decide (rn=0∧rm=0))]) (by simp[results,Tryz.results185,go_sem,l0,l1,l2]) rfl ⟨Re,rn,rc,Rk,rm,rd,rfl,HRO10.out,HB10.out⟩
 ·go_simp
  clear hHeld;refine Th hK ?_ (fun hHeld=>?_)
  ·exact (HKc.out.alloc (.cells #[.string ⟨#[]⟩,.slice none 0 0,.slice none 0 0] 134)).cj
  clear hK K;obtain⟨g,hg⟩:∃ g,g=w1.heap.size:=⟨_,rfl⟩;obtain⟨v18,hv18⟩:∃ v,v=w1.alloc (.cells #[.string ⟨#[]⟩,.slice none 0 0,.slice none 0 0] 134):=⟨_,rfl⟩
  have HKG:Hid (Kept [(⟨g,0,none⟩,.string ⟨#[]⟩),(⟨g,1,none⟩,.slice none 0 0),(⟨g,2,none⟩,.slice none 0 0)] W v18):=by
   have h0:=Kept.nil_of (HKR.out.alloc (.cells #[.string ⟨#[]⟩,.slice none 0 0,.slice none 0 0] 134)).below;rw[← hv18]at h0
   refine ((h0.cons_of ?_).cons_of ?_).cons_of ?_ <;> (rw[hv18,hg];go_simp)
  have HFG:Hid (Free g v18):=⟨by rw[hv18,hg];simp,fun j=>by rw[hv18,hg];go_simp⟩
  have hgr:r<g:=by have:=HFR.out.1;omega
  have HWG:Hid (w.heap.size≤g):=by have:=HKc.out.below.size;unfold Hid;omega
  have HKc:Hid (Kept [(⟨p,0,none⟩,.string xk),(⟨p,1,none⟩,.slice Ae ne ce),(⟨p,2,none⟩,.slice Ak nk ck),(⟨y,0,none⟩,.string yk),(⟨y,1,none⟩,.slice Be me de),(⟨y,2,none⟩,.slice Bk mk dk),(⟨ba,2,none⟩,.slice Ca na ca9),(⟨bb,2,none⟩,.slice Cb nb cb9)] w v18):=by unfold Hid;rw[hv18];exact HKc.out.alloc _
  have HKR:Hid (Kept [(⟨r,0,none⟩,.string ⟨#[]⟩),(⟨r,1,none⟩,.slice none 0 0),(⟨r,2,none⟩,.slice none 0 0)] W v18):=by unfold Hid;rw[hv18];exact HKR.out.alloc _
  have HFR:Hid (Free r v18):=by unfold Hid;rw[hv18];exact HFR.out.alloc _
  rw[← hv18]at hHeld ⊢;rw[← hg];clear hv18 hg;refine Tc 4 (fun K hK=>?_);go_simp;clear hHeld;refine Th hK ?_ (fun hHeld=>?_)
  ·exact (HKc.out.alloc (.cells #[.string xk,.string yk] 9)).cj
  clear hK K;obtain⟨h4,hh4⟩:∃ g,g=v18.heap.size:=⟨_,rfl⟩;obtain⟨v4,hv4⟩:∃ v,v=v18.alloc (.cells #[.string xk,.string yk] 9):=⟨_,rfl⟩
  have i0:v4.cell? ⟨h4,0,none⟩=some (.string xk):=by rw[hv4,hh4];go_simp
  have i1:v4.cell? ⟨h4,1,none⟩=some (.string yk):=by rw[hv4,hh4];go_simp
  have HKc:Hid (Kept [(⟨p,0,none⟩,.string xk),(⟨p,1,none⟩,.slice Ae ne ce),(⟨p,2,none⟩,.slice Ak nk ck),(⟨y,0,none⟩,.string yk),(⟨y,1,none⟩,.slice Be me de),(⟨y,2,none⟩,.slice Bk mk dk),(⟨ba,2,none⟩,.slice Ca na ca9),(⟨bb,2,none⟩,.slice Cb nb cb9)] w v4):=by unfold Hid;rw[hv4];exact HKc.out.alloc _
  have HKR:Hid (Kept [(⟨r,0,none⟩,.string ⟨#[]⟩),(⟨r,1,none⟩,.slice none 0 0),(⟨r,2,none⟩,.slice none 0 0)] W v4):=by unfold Hid;rw[hv4];exact HKR.out.alloc _
  have HFR:Hid (Free r v4):=by unfold Hid;rw[hv4];exact HFR.out.alloc _
  have HKG:Hid (Kept [(⟨g,0,none⟩,.string ⟨#[]⟩),(⟨g,1,none⟩,.slice none 0 0),(⟨g,2,none⟩,.slice none 0 0)] W v4):=by unfold Hid;rw[hv4];exact HKG.out.alloc _
  have HFG:Hid (Free g v4):=by unfold Hid;rw[hv4];exact HFG.out.alloc _
  have HV4:=Lib.hid hv4;rw[← hv4]at hHeld ⊢;rw[← hh4];clear hv4 hh4;refine Tc 5 (fun K hK=>?_);go_simp;(go_at_call 186;refine (orS2 h4 xk yk key hkey v4 i0 i1).mono ?_);rintro e v5 ⟨rfl,hv5⟩;subst hv5;clear hHeld;refine Th hK ?_ (fun hHeld=>?_)
  ·exact HKc.out.cj
  clear hK K;refine Tc 16 (fun K hK=>?_);go_simp;(go_at_call 124;refine (HT.out v4 HKc.out.below).mono ?_);rintro e v16 ⟨Re,rn,rc,Rk,rm,rd,rfl,hro,hb16⟩;obtain⟨B6,hB6⟩:∃ z,z=v4.heap.size:=⟨_,rfl⟩
  have hrB:r<B6:=by rw[hB6];exact HFR.out.1
  have hgB:g<B6:=by rw[hB6];exact HFG.out.1
  have HRO:Hid (RdO v16 (fun b=>B6≤b∧b≠g∧b≠r) t ⟨Re,rn,rc⟩ ⟨Rk,rm,rd⟩):=RdO.mono (fun b hb _=>⟨by omega,by omega,by omega⟩) _ hro
  have HWB:Hid (w.heap.size≤B6):=by unfold Hid;rw[hB6];exact HKc.out.below.size
  have HKc:=Lib.hid (HKc.out.later hb16);have HKR:=Lib.hid (HKR.out.later hb16);have HFR:=Lib.hid (HFR.out.later hb16);have HKG:=Lib.hid (HKG.out.later hb16);have HFG:=Lib.hid (HFG.out.later hb16);clear hro hb16 hB6;obtain⟨z0,z1,z2,-⟩:=HKG.out.cj;have m0:=HFG.out.2 0;have m1:=HFG.out.2 1;have m2:=HFG.out.2 2;clear hHeld;refine Th hK ?_ (fun hHeld=>?_)
  ·exact HKc.out.cj
  clear hK K;refine Tk 17 26 ?_;refine Tc 19 (fun K hK=>?_);go_simp;refine Th hK ?_ (fun hHeld2=>?_)
  ·(try dsimp only)
   have h9:=HKc.out.past3 (p:=g) HWG.out (fun x hx=>by simp at hx;rcases hx with rfl | rfl | rfl | rfl | rfl | rfl | rfl | rfl <;> (dsimp only;omega)) (.string key) (.slice Re rn rc) (.slice Rk rm rd)
   exact h9.cj
  clear hK K hHeld;have hHeld:=hHeld2;clear hHeld2;refine wpAnyH_done (by kernel_rfl) ?_ _;clear hHeld z0 z1 z2 m0 m1 m2;obtain⟨W9,hW9⟩:∃ W,W=((v16.setCell ⟨g,0,none⟩ (.string key)).setCell ⟨g,1,none⟩ (.slice Re rn rc)).setCell ⟨g,2,none⟩ (.slice Rk rm rd):=⟨_,rfl⟩
  have HKG9:Hid (Kept [(⟨g,0,none⟩,.string key),(⟨g,1,none⟩,.slice Re rn rc),(⟨g,2,none⟩,.slice Rk rm rd)] w W9):=by
   unfold Hid;rw[hW9];exact (Kept.nil_of HKc.out.below).set3 (p:=g) HWG.out (by simp) ⟨_,HKG.out.c0⟩ ⟨_,HKG.out.c1⟩ ⟨_,HKG.out.c2⟩ _ _ _
  have HKR9:Hid (Kept [(⟨r,0,none⟩,.string ⟨#[]⟩),(⟨r,1,none⟩,.slice none 0 0),(⟨r,2,none⟩,.slice none 0 0)] w W9):=by
   unfold Hid;rw[hW9]
   exact (HKR.out.rebase HKc.out.below).past3 (p:=g) HWG.out (fun x hx=>by simp at hx;rcases hx with rfl | rfl | rfl <;> (dsimp only;omega)) _ _ _
  have HFR9:Hid (Free r W9):=by unfold Hid;rw[hW9];exact ((HFR.out.set _ _).set _ _).set _ _
  have HRO9:Hid (RdO W9 (fun b=>B6≤b∧b≠g∧b≠r) t ⟨Re,rn,rc⟩ ⟨Rk,rm,rd⟩):=by
   unfold Hid;rw[hW9];exact RdO.keep (by simp[World.setCell]) (fun b hb _=>((Below.heap_setCell _ ⟨g,2,none⟩ _ b (fun e=>hb.2.1 e)).trans (Below.heap_setCell _ ⟨g,1,none⟩ _ b (fun e=>hb.2.1 e))).trans (Below.heap_setCell _ ⟨g,0,none⟩ _ b (fun e=>hb.2.1 e))) _ HRO.out
  rw[← hW9];clear hW9 HKc HKR HFR HRO HKG HFG;go_wp2_with fail;refine wp_region_held_drew (S:=Conj _) (by kernel_rfl) HKG9.out.drew.cj (fun hHeld=>?_);obtain⟨w2,hw2⟩:∃ v,v=W9.drew:=⟨_,rfl⟩
  have HKG9:Hid (Kept [(⟨g,0,none⟩,.string key),(⟨g,1,none⟩,.slice Re rn rc),(⟨g,2,none⟩,.slice Rk rm rd)] w w2):=by unfold Hid;rw[hw2];exact HKG9.out.drew
  have HKR9:Hid (Kept [(⟨r,0,none⟩,.string ⟨#[]⟩),(⟨r,1,none⟩,.slice none 0 0),(⟨r,2,none⟩,.slice none 0 0)] w w2):=by unfold Hid;rw[hw2];exact HKR9.out.drew
  have HFR9:Hid (Free r w2):=by unfold Hid;rw[hw2];exact HFR9.out.drew
  have HRO9:Hid (RdO w2 (fun b=>B6≤b∧b≠g∧b≠r) t ⟨Re,rn,rc⟩ ⟨Rk,rm,rd⟩):=by unfold Hid;rw[hw2];exact RdO.later HRO9.out (Below.refl _ _).drew
  rw[← hw2]at hHeld ⊢;clear hw2;refine Tk 0 27 ?_;refine Tk 1 28 ?_;refine Tk 2 29 ?_;refine Tc 3 (fun K hK=>?_);go_simp;(go_at_call 136;refine (empty_any Re Rk rn rm rc rd _).mono ?_);rintro e v19 ⟨rfl,hb19⟩;have HKG9:=Lib.hid (HKG9.out.later hb19);have HKR9:=Lib.hid (HKR9.out.later hb19);have HFR9:=Lib.hid (HFR9.out.later hb19);have HRO9:=Lib.hid (RdO.later HRO9.out hb19);obtain⟨y0,y1,y2,-⟩:=HKR9.out.cj;have n0:=HFR9.out.2 0;have n1:=HFR9.out.2 1;have n2:=HFR9.out.2 2;clear hb19;clear hHeld;refine Th hK ?_ (fun hHeld=>?_)
  ·exact HKG9.out.cj
  clear hK K;refine Tk 4 31 ?_;refine Tc 5 (fun K hK=>?_);go_simp;refine Th hK ?_ (fun hHeld2=>?_)
  ·(try dsimp only)
   have h9:=HKG9.out.past3 (p:=r) hpw (fun x hx=>by simp at hx;rcases hx with rfl | rfl | rfl <;> (dsimp only;omega)) (.string key) (.slice Re rn rc) (.slice Rk rm rd)
   exact h9.cj
  clear hK K hHeld;have hHeld:=hHeld2;clear hHeld2;refine Tk 6 7 ?_;refine wpAnyH_done (by kernel_rfl) ?_ _;clear hHeld;obtain⟨W10,hW10⟩:∃ W,W=((v19.setCell ⟨r,0,none⟩ (.string key)).setCell ⟨r,1,none⟩ (.slice Re rn rc)).setCell ⟨r,2,none⟩ (.slice Rk rm rd):=⟨_,rfl⟩
  have HB10:Hid (Below w.heap.size w W10):=by
   unfold Hid;rw[hW10];exact ((HKR9.out.below.setCell (p:=⟨r,0,none⟩) hpw _).setCell (p:=⟨r,1,none⟩) hpw _).setCell (p:=⟨r,2,none⟩) hpw _
  have l0:W10.cell? ⟨r,0,none⟩=some (.string key):=by rw[hW10];go_simp
  have l1:W10.cell? ⟨r,1,none⟩=some (.slice Re rn rc):=by rw[hW10];go_simp
  have l2:W10.cell? ⟨r,2,none⟩=some (.slice Rk rm rd):=by rw[hW10];go_simp
  have HRO10:Hid (RdO W10 (fun b=>w.heap.size≤b) t ⟨Re,rn,rc⟩ ⟨Rk,rm,rd⟩):=by
   unfold Hid;rw[hW10];exact RdO.mono (fun b hb _=>Nat.le_trans HWB.out hb.1) _ (RdO.keep (by simp[World.setCell]) (fun b hb _=>((Below.heap_setCell _ ⟨r,2,none⟩ _ b (fun e=>hb.2.2 e)).trans (Below.heap_setCell _ ⟨r,1,none⟩ _ b (fun e=>hb.2.2 e))).trans (Below.heap_setCell _ ⟨r,0,none⟩ _ b (fun e=>hb.2.2 e))) _ HRO9.out)
  clear y0 y1 y2 n0 n1 n2;rw[← hW10];clear hW10;go_wp2_with fail;refine bodyPost_ret (v:=.tuple #[.agg #[.string key,.slice Re rn rc,.slice Rk rm rd],.bool (!decide (rn=0∧rm=0))]) (by simp[results,Tryz.results185,go_sem,l0,l1,l2]) rfl ⟨Re,rn,rc,Rk,rm,rd,rfl,HRO10.out,HB10.out⟩
end Cs
end Go.Proofs.YtgeafpaognhokaaGreat
