/- Layer 15's laws: acts in memory; short; the beginning. -/
import Derived.Test.YtgeafpaognhokaaGreatG00
import Derived.Test.YtgeafpaognhokaaGreatOpStep
import Derived.Test.YtgeafpaognhokaaGreatG80
import Derived.Test.YtgeafpaognhokaaGreatG50
namespace Go.Proofs.YtgeafpaognhokaaGreat
open ChangeShapes WideShapes ChangeAt RowKit
namespace Cs
open Tr Cx Sp Rw Classical
structure uf where
 wh:Int
 fr:Int
 he:Bool
 o:jK
 p:SV
def aC (x:uf):List Value:=[.int .u8 x.wh,.int .u8 x.fr,.bool x.he,.slice x.p.A x.p.n x.p.c,.int .i64 x.o.act,.string x.o.s,.int .i64 x.o.n]
theorem Mc (x:uf):(aC x).length=7:=rfl
structure pu (w:World) (B:Nat) (A:Option Addr) (n c:Nat) (l:List uf):Prop where
 len:l.length=n
 row:Rd w B 7 A n c (l.flatMap aC)
 each:∀ x∈l,Rd w B 1 x.p.A x.p.n x.p.c (Tr.strs x.o.path)∧(0≤x.wh∧x.wh≤255)∧(0≤x.fr∧x.fr≤255)
theorem pu.later {w w':World} {A:Option Addr} {n c:Nat} {l:List uf} (h:pu w w.heap.size A n c l) (a:av w w'):pu w' w'.heap.size A n c l:=⟨h.len,h.row.later a,fun x b=>⟨((h.each x b).1.below a).more a.size,(h.each x b).2⟩⟩
instance {A:Option Addr} {n c:Nat} {l:List uf} {v v':World} : fE v v' (pu v v.heap.size A n c l) (pu v' v'.heap.size A n c l):=⟨fun h hb=>h.later hb⟩
theorem pu.at_ {w:World} {B:Nat} {A:Option Addr} {n c:Nat} {l:List uf} (h:pu w B A n c l) (f:0<n):∃ b o,A=some ⟨b,o,none⟩∧b<B∧∀ (i:Nat) (hi:i<l.length),
  w.cell? ⟨b,o+i*7,none⟩=some (.int .u8 (l[i]).wh)∧w.cell? ⟨b,o+i*7+1,none⟩=some (.int .u8 (l[i]).fr)∧w.cell? ⟨b,o+i*7+2,none⟩=some (.bool (l[i]).he)∧w.cell? ⟨b,o+i*7+3,none⟩=some (.slice (l[i]).p.A (l[i]).p.n (l[i]).p.c)∧w.cell? ⟨b,o+i*7+4,none⟩=some (.int .i64 (l[i]).o.act)∧w.cell? ⟨b,o+i*7+5,none⟩=some (.string (l[i]).o.s)∧w.cell? ⟨b,o+i*7+6,none⟩=some (.int .i64 (l[i]).o.n):=by
 obtain⟨b,o,e,d,a⟩:=fJ Mc h.row f;exact⟨b,o,e,d,fun i hi=>⟨a i hi 0 _ rfl,a i hi 1 _ rfl,a i hi 2 _ rfl,a i hi 3 _ rfl,a i hi 4 _ rfl,a i hi 5 _ rfl,a i hi 6 _ rfl⟩⟩
set_option maxRecDepth 100000 in
set_option maxHeartbeats 4000000 in
theorem uZ (l:List uf) (n:Nat) (A:Option Addr) (c:Nat) (w:World) (W:pu w w.heap.size A n c l) :
  Calls Tryz.prog 31 #[.slice A n c,.int .i64 30] w fun e w'=>∃ b:Bool,e = .returned (.bool b)∧ai (b=true→n≤30∧∀ x∈l,x.p.n≤9)∧av w w':=by
 have M:=ah W;clear W
 by_cases H:30<n
 ·have Z:decide ((30:Int)<(n:Int))=true:=aJ (by omega)
  clear H;go_enter Tryz.func31,Tryz.ntmps31;go_wp2_with fail;go_ret;exact⟨false,rfl,(fun h=>by cases h),bN⟩
 have Z:decide ((30:Int)<(n:Int))=false:=aM (by omega)
 have U:ai (n≤30):=FL
 clear H;go_enter Tryz.func31,Tryz.ntmps31;go_wp2_with fail
 go_loopw [12] (fun i wr=>∃ (k:Nat),k≤n∧i = .int .i64 k∧ai (∀ (j:Nat) (h:j<l.length),j<k→(l[j]).p.n≤9)∧ai (av w wr)) (fun i _=>n-(intOf i).toNat)
 case atStart=>exact⟨0,by omega,rfl,fun j _ h=>absurd h (by omega),bN⟩
 case round=>
  obtain⟨k,hk,rfl,S,g⟩:=hrel;have hn30:=U.o
  by_cases R:k<n
  ·have a:=g.o
   have L:k<l.length:=by rw[M.o.len];exact R
   obtain⟨r,s,rfl,d,V⟩:=M.at_ (by omega);obtain⟨v,y,B,C,D,F,G⟩:=V k L;have v:=(a.cell (p:=⟨r,s+k*7,none⟩) d).trans v;have y:=(a.cell (p:=⟨r,s+k*7+1,none⟩) d).trans y;have B:=(a.cell (p:=⟨r,s+k*7+2,none⟩) d).trans B;have C:=(a.cell (p:=⟨r,s+k*7+3,none⟩) d).trans C;have D:=(a.cell (p:=⟨r,s+k*7+4,none⟩) d).trans D;have F:=(a.cell (p:=⟨r,s+k*7+5,none⟩) d).trans F;have G:=(a.cell (p:=⟨r,s+k*7+6,none⟩) d).trans G;obtain⟨m,f⟩:∃ x,x=l[k]:=⟨_,rfl⟩
   have q:m∈l:=by rw[f];exact bT L
   rw[← f]at v y B C D F G;have t:=(((M.each m q).1.below a).more a.size)
   have Q:ai (m.p.n≤9→∀ (j:Nat) (h:j<l.length),j<k+1→(l[j]).p.n≤9):=fun h9 j N hjk=>by
    by_cases e:j=k
    ·subst e;rw[← f];exact h9
    ·exact S.o j N (by omega)
   clear V f q d a;obtain⟨wh,fr,he,⟨xp,xa,xs,xv⟩,⟨xA,xn,xc⟩⟩:=m;dsimp only at v y B C D F G t;have RX:=ah t;clear t;go_wp2_with fail;refine (BA xp xa xs xv xA xn xc wr RX).mono ?_;rintro e w2 ⟨z,rfl,X,J⟩;have u:=ah (g.trans (J.mono g.size));have Y:=ah X.o;clear J X v y B C D F G
   cases z with
   | false=>
    go_wp2_with fail;go_ret;exact⟨false,rfl,(fun h=>by cases h),u⟩
   | true=>
    have O:=ah (Q.o (Y.o rfl));go_wp2_with fail;go_roundw
    case rel=>exact⟨k+1,by omega,by go_num,O,u⟩
    case measure=>simp[intOf];omega
  ·obtain rfl:k=n:=by omega
   go_wp2_with fail;go_ret
   exact⟨true,rfl,fun _=>⟨U,fun x hx=>by
    obtain⟨j,N,rfl⟩:=qz hx
    exact S.o j N (by rw[← M.o.len];exact N)⟩,g⟩
def Ar:SM:=⟨fun _=>⟨bH,⟨none,0,0⟩,⟨none,0,0⟩,⟨none,0,0⟩⟩,fun _=>0,[],none,0,0⟩
theorem rV.zero:rV Ar:=⟨⟨List.Pairwise.nil,fun _ h=>(by cases h),fun _ h=>(by cases h)⟩,fun _ _=>Knows.none_,fun _ h=>(by cases h),fun _=>bG,fun _ h=>(by cases h)⟩
theorem JK (w:World) (ok:Nat→Prop):dQ w ok ⟨bH,⟨none,0,0⟩,⟨none,0,0⟩,⟨none,0,0⟩⟩:=⟨aX.none _ _ _ _ _ _,rfl,RO.nil _ _ _ _ _⟩
theorem pK.zero (w:World):pK w.heap.size w Ar (w.alloc (.cells #[.slice none 0 0,.slice none 0 0,.slice none 0 0,.slice none 0 0,.slice none 0 0,.slice none 0 0,.slice none 0 0,.slice none 0 0,.slice none 0 0,.int .i64 0,.int .i64 0,.int .i64 0,.slice none 0 0] 67)):=by
 have a:av w (w.alloc (.cells #[.slice none 0 0,.slice none 0 0,.slice none 0 0,.slice none 0 0,.slice none 0 0,.slice none 0 0,.slice none 0 0,.slice none 0 0,.slice none 0 0,.int .i64 0,.int .i64 0,.int .i64 0,.slice none 0 0] 67)):=Dt.ay _ _ _;refine⟨bG,a,⟨by simp,fun j=>by go_simp⟩,fun i hi=>?_,fun i hi=>?_,(by show _=some (Value.slice none 0 0);go_simp),fun _ _=>JK _ _,⟨iy _ _ _ _,by simp[Ar]⟩,rfl,fun _ h=>(by cases h),fun _ h=>(by cases h)⟩
 ·rcases (by omega:i=0∨i=1∨i=2)with rfl | rfl | rfl <;> refine⟨?_,?_,?_⟩ <;> (show _=some (Value.slice none 0 0);go_simp)
 ·rcases (by omega:i=0∨i=1∨i=2)with rfl | rfl | rfl <;> (show _=some (Value.int .i64 0);go_simp)
theorem pK.evs {g:Nat} {v0 w:World} {s:SM} (h:pK g v0 s w):pE w w.heap.size s.A s.n s.c s.ev:=⟨h.len,h.row.rd,fun x a=>⟨((h.path x a).1.below h.below).more h.below.size,(h.seen x a).1.rd⟩⟩
end Cs
end Go.Proofs.YtgeafpaognhokaaGreat
