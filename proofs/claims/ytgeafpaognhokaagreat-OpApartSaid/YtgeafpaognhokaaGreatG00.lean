/- Texts of the lower layers, and of layer 9, put together. -/
import Derived.Test.YtgeafpaognhokaaGreatRows
import Derived.WalkKit
import Derived.WalkSpells
import Derived.WalkLawsBesides
import Derived.Deep.AppendLies
import Derived.Deep.Draws
import Derived.Deep.RegionHeld3
import Derived.Deep.QuietTactic
import Derived.BigQuiet
import Derived.Maps.AppendAt
import Derived.Lib.Hide
import Derived.Lib.AppendZeros
import Derived.Deep.RegionHeld
import Derived.ProofKit
import Derived.OpenShut
import Derived.Deep.Slices
import Derived.StillTailTactics
import Derived.IntWalk
import Derived.Lib.AppendStr
import Derived.Lib.SlBytesRow
import Derived.Laws.BitsAllLaws
import Derived.Deep.RegionLaw
import Derived.Deep.DeepCutAuto
import Derived.Shelf.SlGeneric
import Derived.Shelf.SortG.Plain
import Derived.Shelf.SortG.SortNone
import Derived.Ground.SlgnProg
import Derived.Sort.OwnSortedInts
import Derived.Lib.SliceRun
import Derived.Lib.Strings
import Derived.Lib.Slices
import Derived.Lib.Walk
import Derived.Lib.Bytealg
import Derived.Lib.SmallJoins
import Derived.ChangeSame
import Derived.ChangeArms
import Derived.RangeFuncCalls
import Derived.OrdersIn
namespace Go.Proofs.YtgeafpaognhokaaGreat
open Go.RowKit

structure Rd (w:World) (B sz:Nat) (A:Option Addr) (n c:Nat) (xs:List Value):Prop where
 len:xs.length=n*sz
 cap:n≤c
 one:∀ u∈xs,u.oneCell'=true
 at_:0<n→∃ b o,A=some ⟨b,o,none⟩∧b<B∧∀ j u,xs[j]?=some u→w.cell? ⟨b,o+j,none⟩=some u

section
variable {w w':World} {B B' sz n c:Nat} {A:Option Addr} {xs:List Value}
theorem Rd.nil (c:Nat):Rd w B sz A 0 c []:=⟨by simp,Nat.zero_le _,by simp,fun h=>absurd h (by omega)⟩
theorem Rd.keep (h:Rd w B sz A n c xs) (hk:∀ p:Addr,p.block<B→w'.cell? p=w.cell? p):Rd w' B sz A n c xs:=
 ⟨h.len,h.cap,h.one,fun hn=>by
  obtain⟨b,o,e,hb,hc⟩:=h.at_ hn
  exact⟨b,o,e,hb,fun j u hu=>(hk ⟨b,o+j,none⟩ hb).trans (hc j u hu)⟩⟩
theorem Rd.more (h:Rd w B sz A n c xs) (hB:B≤B'):Rd w B' sz A n c xs:=
 ⟨h.len,h.cap,h.one,fun hn=>by
  obtain⟨b,o,e,hb,hc⟩:=h.at_ hn
  exact⟨b,o,e,by omega,hc⟩⟩
theorem Rd.below (h:Rd w B sz A n c xs) (hb:Below B w w'):Rd w' B sz A n c xs:=h.keep fun _ hp=>hb.cell hp
theorem Rd.later (h:Rd w w.heap.size sz A n c xs) (hb:Below w.heap.size w w'):Rd w' w'.heap.size sz A n c xs:=(h.below hb).more hb.size
theorem Rd.drewN (h:Rd w B sz A n c xs) (k:Nat):Rd (w.drewN k) B sz A n c xs:=h.keep fun _ _=>rfl
theorem Rd.drew (h:Rd w B sz A n c xs):Rd w.drew B sz A n c xs:=h.keep fun _ _=>rfl
theorem Rd.alloc (h:Rd w B sz A n c xs) (hB:B≤w.heap.size) (o:Obj):Rd (w.alloc o) B sz A n c xs:=h.keep fun p hp=>World.cell?_alloc_lt w o p (by omega)
theorem Rd.setCell (h:Rd w B sz A n c xs) {p:Addr} (hB:B≤p.block) (u:Value):Rd (w.setCell p u) B sz A n c xs:=
 h.keep fun q hq=>World.cell?_setCell_other w p q u (fun e=>by subst e;omega)
theorem Rd.cut (h:Rd w B sz A n c xs) {i j:Nat} (hi:i≤j) (hj:j≤n) :
  Rd w B sz (if c=i then A else A.map (·.add (i*sz))) (j-i) (c-i) ((xs.drop (i*sz)).take ((j-i)*sz)):=by
 have hc:=h.cap
 have hln:(j-i)*sz≤xs.length-i*sz:=by rw[h.len,← Nat.sub_mul];exact Nat.mul_le_mul_right _ (by omega)
 refine⟨?_,by omega,fun u hu=>h.one u (List.mem_of_mem_drop (List.mem_of_mem_take hu)),fun hn=>?_⟩
 ·rw[List.length_take,List.length_drop];omega
 obtain⟨b,o,rfl,hb,hcell⟩:=h.at_ (by omega);rw[if_neg (by omega)];refine⟨b,o+i*sz,?_,hb,fun k u hu=>?_⟩
 ·show some (Addr.add ⟨b,o,none⟩ (i*sz))=_
  unfold Addr.add
  split
  ·rename_i h0;rw[h0];rfl
  ·rfl
 ·rw[List.getElem?_take]at hu
  split at hu
  ·rw[List.getElem?_drop]at hu
   have:=hcell _ u hu
   rwa [← Nat.add_assoc]at this
  ·cases hu
theorem Rd.to_ (h:Rd w B sz A n c xs) {j:Nat} (hj:j≤n):Rd w B sz A j c (xs.take (j*sz)):=by
 have hc:=h.cap
 have hln:j*sz≤xs.length:=by rw[h.len];exact Nat.mul_le_mul_right _ hj
 refine⟨by rw[List.length_take];omega,by omega,fun u hu=>h.one u (List.mem_of_mem_take hu),fun hn=>?_⟩;obtain⟨b,o,e,hb,hcell⟩:=h.at_ (by omega);refine⟨b,o,e,hb,fun k u hu=>?_⟩;rw[List.getElem?_take]at hu
 split at hu
 ·exact hcell _ u hu
 ·cases hu
theorem Rd.from_ (h:Rd w B sz A n c xs) {i:Nat} (hi:i≤n) :
  Rd w B sz (if c=i then A else A.map (·.add (i*sz))) (n-i) (c-i) (xs.drop (i*sz)):=by
 have h1:=h.cut hi (Nat.le_refl n)
 rwa [List.take_of_length_le (by rw[List.length_drop,h.len,← Nat.sub_mul];exact Nat.le_refl _)]at h1
theorem Rd.of_own {base:Nat} {e:TypeId} {v:Value} (h:w.ownsRow base e sz v n xs) (h1:∀ u∈xs,u.oneCell'=true):∃ A c,v = .slice A n c∧Rd w w.heap.size sz A n c xs:=by
 rcases h.2 with ⟨rfl,rfl⟩ | ⟨g,cap,cur,rfl,_,hg,hnc,_,_,_⟩
 ·exact⟨none,0,rfl,⟨h.1,Nat.le_refl _,h1,fun hn=>absurd hn (by omega)⟩⟩
 ·refine⟨_,cap,rfl,⟨h.1,hnc,h1,fun hn=>⟨g,0,rfl,(Array.getElem?_eq_some_iff.1 hg).1,fun j u hu=>?_⟩⟩⟩
  have:=h.cells (g:=g) rfl j u hu;rw[Nat.zero_add];unfold Addr.add at this
  split at this
  ·rename_i h0;rw[h0];exact this
  ·simpa using this
end

structure Own (w:World) (base:Nat) (e:TypeId) (sz:Nat) (A:Option Addr) (n c:Nat) (xs:List Value):Prop where
 row:w.ownsRow base e sz (.slice A n c) n xs
 one:∀ u∈xs,u.oneCell'=true
theorem Own.rd {w:World} {base:Nat} {e:TypeId} {sz n c:Nat} {A:Option Addr} {xs:List Value} (h:Own w base e sz A n c xs):Rd w w.heap.size sz A n c xs:=by
 obtain⟨A',c',hv,hr⟩:=Rd.of_own h.row h.one;injection hv with h1 h2 h3;subst h1;subst h3;exact hr
theorem Own.set_below {w:World} {base:Nat} {e:TypeId} {sz n c:Nat} {A:Option Addr} {xs:List Value} (h:Own w base e sz A n c xs) {a:Addr} (ha:a.block<base) (u:Value):Own (w.setCell a u) base e sz A n c xs:=
 ⟨ownsRow_setCell_below h.row ha u,h.one⟩
theorem Own.mono {w:World} {base base':Nat} {e:TypeId} {sz n c:Nat} {A:Option Addr} {xs:List Value} (h:Own w base e sz A n c xs) (hb:base'≤base):Own w base' e sz A n c xs:=by
 refine⟨⟨h.row.1,?_⟩,h.one⟩
 rcases h.row.2 with h1 | ⟨g,cap,cur,h1,h2,h3⟩
 ·exact .inl h1
 ·exact .inr ⟨g,cap,cur,h1,by omega,h3⟩
theorem Own.of_row {w:World} {base:Nat} {e:TypeId} {sz n:Nat} {v:Value} {xs:List Value} (h:w.ownsRow base e sz v n xs) (h1:∀ u∈xs,u.oneCell'=true):∃ A c,v = .slice A n c∧Own w base e sz A n c xs:=by
 rcases h.2 with ⟨rfl,rfl⟩ | ⟨g,cap,cur,rfl,_⟩
 ·exact⟨none,0,rfl,h,h1⟩
 ·exact⟨_,cap,rfl,h,h1⟩
theorem run_app {P:Program} (w:World) (base:Nat) (t ty e:TypeId) (i:TypeInfo) (z:Value) (sz bytes:Nat) (ht:P.underlying t=some (.slice e)) (hi:P.info? e=some i) (hz:i.zero=some z)
  (hsize:i.size=sz) (hby:i.bytes=bytes) (hzs:z.cells.size=sz) (hsz:0<sz)
  {v:Value} {n:Nat} {xs:List Value} (hown:w.ownsRow base e sz v n xs)
  {B:Nat} {A:Option Addr} {m c:Nat} {news:List Value} (hr:Rd w B sz A m c news)
  (h63:n+m≤1000000) (hbytes:bytes≤1000000) (hbase:base≤w.heap.size) :
  ∃ v' w',(Builtin.append_ #[t,t] ty #[v,.slice A m c]).run P w = .ok v' w'∧w'.ownsRow base e sz v' (n+m) (xs++news)∧w.grownBy w' v.ownBlock ∧
   (v'.ownBlock=v.ownBlock∨v'.ownBlock=some w.heap.size):=by
 rcases Nat.eq_zero_or_pos m with rfl | hm
 ·have hn:news=[]:=List.eq_nil_of_length_eq_zero (by simpa using hr.len)
  subst hn;refine⟨v,w,?_,by simpa using hown,⟨rfl,rfl,rfl,Nat.le_refl _,fun _ _ _=>rfl⟩,.inl rfl⟩
  have hf:∀ (A:Option Addr),(Builtin.firstCells i.size 0 (.slice A 0 c)).run P w = .ok #[] w:=by
   intro A
   cases A with
   | none=>simp[Builtin.firstCells]
   | some a=>exact run_firstCells_some w i.size 0 a 0 c [] (by simp) (by simp)
  rcases hown.2 with ⟨rfl,rfl⟩ | ⟨g,cap,cur,rfl,_,_,hnc,_⟩
  ·simp[Builtin.append_,run_underlying ht,sizeOf,typeInfo,hi,Builtin.lenOf,hf]
  ·simp[Builtin.append_,run_underlying ht,sizeOf,typeInfo,hi,Builtin.lenOf,hf,hnc,storeCells]
 ·obtain⟨b,o,rfl,_,hc⟩:=hr.at_ hm
  have hb2:(n+m)*bytes≤140737488355328:=Nat.le_trans (Nat.mul_le_mul h63 hbytes) (by omega)
  obtain⟨v',w',h1,h2,h3,_,h5⟩:=run_append_own_at (P:=P) w base t ty e i z sz bytes ht hi hz hsize hby hzs hsz v n xs hown ⟨b,o,none⟩ m c news hr.len
   (fun j u hu=>by
    have:=hc j u hu;unfold Addr.add
    split
    ·rename_i h0;subst h0;simpa using this
    ·exact this) hr.one (by simp only[maxLen];omega) hb2 hbase
  exact⟨v',w',h1,h2,h3,h5⟩

theorem run_cut_from {P:Program} (t e:TypeId) (sz:Nat) (ht:P.underlying t=some (.slice e)) {i:TypeInfo} (hi:P.info? e=some i) (hsz:i.size=sz) (A:Option Addr) (n c k:Nat) (hk:k≤n) (w:World) :
  (Instr.slice t (.slice A n c) (some (.int .i64 (k:Nat))) none none).run P w = .ok (.slice (if c=k then A else A.map (·.add (k*sz))) (n-k) (c-k)) w:=by
 subst hsz;simp[Instr.slice,Instr.sliceBounds,Instr.sliceBound,asIntOf,run_underlying ht,sizeOf,typeInfo,hi,hk]
theorem run_cut_to {P:Program} (t e:TypeId) (sz:Nat) (ht:P.underlying t=some (.slice e)) {i:TypeInfo} (hi:P.info? e=some i) (_hsz:i.size=sz) (A:Option Addr) (n c k:Nat) (hk:k≤c) (w:World) :
  (Instr.slice t (.slice A n c) none (some (.int .i64 (k:Nat))) none).run P w = .ok (.slice A k c) w:=by
 subst _hsz
 have h0:(fun x:Addr=>x.add 0)=id:=by funext x;simp[Addr.add]
 simp[Instr.slice,Instr.sliceBounds,Instr.sliceBound,asIntOf,run_underlying ht,sizeOf,typeInfo,hi,hk,h0]

structure Part where
 A:Option Addr
 n:Nat
 c:Nat
 xs:List Value
def Part.val (p:Part):Value:=.slice p.A p.n p.c
theorem bel_drewN {B:Nat} {a w:World} (h:Below B a w) (n:Nat):Below B a (w.drewN n):=⟨h.os,h.tape,h.output,h.size,h.block⟩
structure Rb (w:World) (lo sz:Nat) (A:Option Addr) (n c:Nat) (xs:List Value):Prop where
 len:xs.length=n*sz
 cap:n≤c
 one:∀ u∈xs,u.oneCell'=true
 at_:0<n→∃ b o,A=some ⟨b,o,none⟩∧lo≤b∧b<w.heap.size∧∀ j u,xs[j]?=some u→w.cell? ⟨b,o+j,none⟩=some u
section
variable {w w':World} {lo sz n c:Nat} {A:Option Addr} {xs:List Value}
theorem Rb.rd (h:Rb w lo sz A n c xs):Rd w w.heap.size sz A n c xs:=
 ⟨h.len,h.cap,h.one,fun hn=>by obtain⟨b,o,e,_,hb,hc⟩:=h.at_ hn;exact⟨b,o,e,hb,hc⟩⟩
theorem Rb.mono {lo':Nat} (h:Rb w lo sz A n c xs) (hl:lo'≤lo):Rb w lo' sz A n c xs:=
 ⟨h.len,h.cap,h.one,fun hn=>by obtain⟨b,o,e,h1,hb,hc⟩:=h.at_ hn;exact⟨b,o,e,by omega,hb,hc⟩⟩
theorem Rb.gb {s:Nat} (h:Rb w lo sz A n c xs) (hg:w.grownBy w' (some s)) (hs:s<lo):Rb w' lo sz A n c xs:=
 ⟨h.len,h.cap,h.one,fun hn=>by
  obtain⟨b,o,e,h1,hb,hc⟩:=h.at_ hn
  exact⟨b,o,e,h1,Nat.lt_of_lt_of_le hb hg.size,fun j u hu=>(World.cell?_of_block (hg.block b hb (fun e=>by injection e with e;omega))).trans (hc j u hu)⟩⟩
theorem Rb.later (h:Rb w lo sz A n c xs) (hb:Below w.heap.size w w'):Rb w' lo sz A n c xs:=
 ⟨h.len,h.cap,h.one,fun hn=>by
  obtain⟨b,o,e,h1,hbb,hc⟩:=h.at_ hn
  exact⟨b,o,e,h1,Nat.lt_of_lt_of_le hbb hb.size,fun j u hu=>(hb.cell (p:=⟨b,o+j,none⟩) hbb).trans (hc j u hu)⟩⟩
theorem Own.rb {base:Nat} {e:TypeId} (h:Own w base e sz A n c xs):Rb w base sz A n c xs:=by
 have h1:=h.rd;refine⟨h1.len,h1.cap,h1.one,fun hn=>?_⟩;obtain⟨b,o,e1,hb,hc⟩:=h1.at_ hn;refine⟨b,o,e1,?_,hb,hc⟩
 rcases h.row.2 with ⟨_,h0⟩ | ⟨g,_,_,hv,hg,_⟩
 ·omega
 ·injection hv with hv;rw[e1]at hv;injection hv with hv;injection hv with hv;omega
end

end Go.Proofs.YtgeafpaognhokaaGreat
namespace Go.Proofs.YtgeafpaognhokaaGreat
open Go.RowKit
def Kept (l:List (Addr×Value)) (w0 w:World):Prop:=Below w0.heap.size w0 w∧∀ x∈l,x.1.block<w.heap.size∧w.cell? x.1=some x.2
namespace Kept
variable {l:List (Addr×Value)} {w0 w w':World} {p:Addr} {v:Value}
theorem below (h:Kept l w0 w):Below w0.heap.size w0 w:=h.1
theorem nil (w:World):Kept [] w w:=⟨Below.refl _ _,by simp⟩
theorem nil_of (h:Below w0.heap.size w0 w):Kept [] w0 w:=⟨h,by simp⟩
theorem cons (h:Kept l w0 w) (hp:p.block<w.heap.size) (hv:w.cell? p=some v):Kept ((p,v)::l) w0 w:=
 ⟨h.1,fun x hx=>by
  rcases List.mem_cons.1 hx with rfl | hx
  ·exact⟨hp,hv⟩
  ·exact h.2 x hx⟩
theorem cons_of (h:Kept l w0 w) (hv:w.cell? p=some v):Kept ((p,v)::l) w0 w:=h.cons (by obtain⟨b,o,s⟩:=p;exact World.block_lt_of_cell? w _ hv) hv
theorem later (h:Kept l w0 w) (hb:Below w.heap.size w w'):Kept l w0 w':=
 ⟨h.1.trans (hb.mono h.1.size),fun x hx=>⟨Nat.lt_of_lt_of_le (h.2 x hx).1 hb.size,(hb.cell (p:=x.1) (h.2 x hx).1).trans (h.2 x hx).2⟩⟩
theorem alloc (h:Kept l w0 w) (o:Obj):Kept l w0 (w.alloc o):=h.later ((Below.refl _ _).alloc (Nat.le_refl _) _)
theorem drew (h:Kept l w0 w):Kept l w0 w.drew:=h.later ((bel_drewN (Below.refl _ _) 1))
theorem set (h:Kept l w0 w) {a:Addr} (ha:w0.heap.size≤a.block) (hl:∀ x∈l,x.1.block≠a.block) (u:Value):Kept l w0 (w.setCell a u):=
 ⟨h.1.setCell ha _,fun x hx=>⟨by simpa [World.setCell] using (h.2 x hx).1,(World.cell?_setCell_other w a x.1 u (fun e=>hl x hx (by rw[e]))).trans (h.2 x hx).2⟩⟩
theorem tail {x:Addr×Value} (h:Kept (x::l) w0 w):Kept l w0 w:=⟨h.1,fun y hy=>h.2 y (List.mem_cons_of_mem _ hy)⟩
theorem head {x:Addr×Value} (h:Kept (x::l) w0 w):w.cell? x.1=some x.2:=(h.2 x (List.mem_cons_self)).2
theorem c0 (h:Kept ((p,v)::l) w0 w):w.cell? p=some v:=h.head
theorem c1 {x0:Addr×Value} (h:Kept (x0::(p,v)::l) w0 w):w.cell? p=some v:=h.tail.head
theorem c2 {x0 x1:Addr×Value} (h:Kept (x0::x1::(p,v)::l) w0 w):w.cell? p=some v:=h.tail.tail.head
theorem c3 {x0 x1 x2:Addr×Value} (h:Kept (x0::x1::x2::(p,v)::l) w0 w):w.cell? p=some v:=h.tail.tail.tail.head
theorem c4 {x0 x1 x2 x3:Addr×Value} (h:Kept (x0::x1::x2::x3::(p,v)::l) w0 w):w.cell? p=some v:=h.tail.tail.tail.tail.head
theorem c5 {x0 x1 x2 x3 x4:Addr×Value} (h:Kept (x0::x1::x2::x3::x4::(p,v)::l) w0 w):w.cell? p=some v:=h.tail.tail.tail.tail.tail.head
theorem c6 {x0 x1 x2 x3 x4 x5:Addr×Value} (h:Kept (x0::x1::x2::x3::x4::x5::(p,v)::l) w0 w):w.cell? p=some v:=h.tail.tail.tail.tail.tail.tail.head
theorem t8 {x0 x1 x2 x3 x4 x5 x6 x7:Addr×Value} (h:Kept (x0::x1::x2::x3::x4::x5::x6::x7::l) w0 w):Kept l w0 w:=h.tail.tail.tail.tail.tail.tail.tail.tail
theorem c7 {x0 x1 x2 x3 x4 x5 x6:Addr×Value} (h:Kept (x0::x1::x2::x3::x4::x5::x6::(p,v)::l) w0 w):w.cell? p=some v:=h.tail.tail.tail.tail.tail.tail.tail.head
theorem st3 (h:Kept l w0 w) {g:Nat} (ha:w0.heap.size≤g) (hl:∀ x∈l,x.1.block≠g) (a b c:Value):Kept l w0 (((w.setCell ⟨g,0,none⟩ a).setCell ⟨g,1,none⟩ b).setCell ⟨g,2,none⟩ c):=((h.set (a:=⟨g,0,none⟩) ha hl a).set (a:=⟨g,1,none⟩) ha hl b).set (a:=⟨g,2,none⟩) ha hl c
end Kept
def Conj:List (Addr×Value)→World→Prop
 | [],_=>True
 | (a,v)::l,w=>w.cell? a=some v∧Conj l w
theorem Kept.cj {w0 w:World} : ∀ {l:List (Addr×Value)},Kept l w0 w→Conj l w
 | [],_=>trivial
 | (_,_)::_,h=>⟨h.head,Kept.cj h.tail⟩
def Free (g:Nat) (w:World):Prop:=g<w.heap.size∧∀ j,w.frozen? ⟨g,j,none⟩=false
namespace Free
variable {g:Nat} {w w':World}
theorem later (h:Free g w) (hb:Below w.heap.size w w'):Free g w':=⟨Nat.lt_of_lt_of_le h.1 hb.size,fun j=>(hb.frozen (p:=⟨g,j,none⟩) h.1).trans (h.2 j)⟩
theorem alloc (h:Free g w) (o:Obj):Free g (w.alloc o):=h.later ((Below.refl _ _).alloc (Nat.le_refl _) _)
theorem drew (h:Free g w):Free g w.drew:=h.later ((bel_drewN (Below.refl _ _) 1))
theorem set (h:Free g w) (a:Addr) (u:Value):Free g (w.setCell a u):=⟨by simpa [World.setCell] using h.1,fun j=>by rw[World.frozen?_setCell];exact h.2 j⟩
end Free
theorem calls_kept {P:Program} {f:FuncId} {args:Array Value} {l:List (Addr×Value)} {w0 w:World} {r:Value} (hc:Calls P f args w fun e w'=>e = .returned r∧Below w.heap.size w w') (h:Hid (Kept l w0 w)) :
  Calls P f args w fun e w'=>e = .returned r∧Hid (Kept l w0 w'):=hc.mono fun _ _ ⟨he,hb⟩=>⟨he,h.out.later hb⟩
end Go.Proofs.YtgeafpaognhokaaGreat
namespace Go.Proofs.YtgeafpaognhokaaGreat
structure Is {α:Type} (x y:α):Prop where
 out:x=y
theorem Is.rfl {α:Type} {x:α} : Is x x:=⟨Eq.refl x⟩
section
variable {P:Program} {md:Region.Mode} {ops:Array Oper} {Q:Exit→Act→World→Prop} {S:World→Prop} {fuel:Nat} {listed l2:Array Bool} {a a2:Act} {w:World}
theorem Tk (i d:Nat) {oi:Oper} {v:Value} (h:wpAnyH P md ops Q S fuel l2 a2 w) (hi:ops[i]?=some oi:=by rfl) (hd:oi.dst=some d:=by rfl) (hs:Region.noSelect ops=true:=by kernel_rfl) (hf:Region.free md ops listed i=true:=by kernel_rfl) (hr:(Region.ready md ops listed).contains i=true:=by kernel_rfl)
  (hw:Region.wanted oi (yielded ops a.tmps)=true:=by kernel_rfl)
  (hy:∀ wz,S wz→(execOp a.eval oi).run P wz = .ok (.value v) wz:=by (intro wz hSw;(try dsimp only at hSw);(try simp only[Conj]at hSw);go_simp;try with_reducible rfl))
  (hQ:∀ c a w,Q (.panic c) (a.put oi.dst v) w→Q (.panic c) a w:=by exact fun _ _ _ h=>h) (hS:S w:=by assumption)
  (ha:Is (a.put (some d) v) a2:=by first | (simp only[Act.put,List.setIfInBounds_toArray,List.set_cons_zero,List.set_cons_succ];exact Is.rfl) | exact Is.rfl) (hl:Is (listed.setIfInBounds i true) l2:=by first | (simp only[List.setIfInBounds_toArray,List.set_cons_zero,List.set_cons_succ];exact Is.rfl) | exact Is.rfl):wpAnyH P md ops Q S (fuel+1) listed a w:=
 wpAnyH_take hi hs hf hr hQ (Or.inl ⟨hw,hy⟩) hS (by rw[hd,ha.out,hl.out];exact h)
theorem Tn (i d:Nat) {oi:Oper} (h:wpAnyH P md ops Q S fuel l2 a2 w) (hi:ops[i]?=some oi:=by rfl) (hd:oi.dst=some d:=by rfl) (hs:Region.noSelect ops=true:=by kernel_rfl) (hf:Region.free md ops listed i=true:=by kernel_rfl) (hr:(Region.ready md ops listed).contains i=true:=by kernel_rfl)
  (hw:Region.wanted oi (yielded ops a.tmps)=false:=by kernel_rfl)
  (hQ:∀ c a w,Q (.panic c) (a.put oi.dst undef) w→Q (.panic c) a w:=by exact fun _ _ _ h=>h) (hS:S w:=by assumption)
  (ha:Is (a.put (some d) undef) a2:=by first | (simp only[Act.put,List.setIfInBounds_toArray,List.set_cons_zero,List.set_cons_succ];exact Is.rfl) | exact Is.rfl) (hl:Is (listed.setIfInBounds i true) l2:=by first | (simp only[List.setIfInBounds_toArray,List.set_cons_zero,List.set_cons_succ];exact Is.rfl) | exact Is.rfl):wpAnyH P md ops Q S (fuel+1) listed a w:=
 wpAnyH_take hi hs hf hr hQ (Or.inr ⟨hw,rfl⟩) hS (by rw[hd,ha.out,hl.out];exact h)
theorem Tc (i:Nat) {oi:Oper} (h:∀ K':Act→World→Prop,Shut (∀ a w,S w→(S w→wpAnyH P md ops Q S fuel (listed.setIfInBounds i true) a w)→K' a w)→if Region.wanted oi (yielded ops a.tmps)=true then Oper.wp P oi a w K' Q else K' (a.put oi.dst undef) w)
  (hi:ops[i]?=some oi:=by rfl) (hr:Region.ready md ops listed=[i]:=by kernel_rfl):wpAnyH P md ops Q S (fuel+1) listed a w:=
 wpAnyH_ready hr (by simp) (AllReadyH.cons hi h AllReadyH.nil)
theorem Th {K':Act→World→Prop} (hK:Shut (∀ a w,S w→(S w→wpAnyH P md ops Q S fuel listed a w)→K' a w)) (hS:S w) (h:S w→wpAnyH P md ops Q S fuel l2 a2 w)
  (ha:Is a a2:=by first | (simp only[Act.put,List.setIfInBounds_toArray,List.set_cons_zero,List.set_cons_succ];exact Is.rfl) | exact Is.rfl) (hl:Is listed l2:=by first | (simp only[List.setIfInBounds_toArray,List.set_cons_zero,List.set_cons_succ];exact Is.rfl) | exact Is.rfl):K' a w:=
 hK.out _ _ hS fun hs=>by rw[ha.out,hl.out];exact h hs
end
end Go.Proofs.YtgeafpaognhokaaGreat
namespace Go.Proofs.YtgeafpaognhokaaGreat
open Go.ChangeShapes Go.WideShapes Go.ChangeAt Go.RowKit
theorem own:ownKnob Tryz.prog.godebug=none:=by kernel_rfl
theorem laidOut:laidOutB Tryz.prog=true:=by kernel_rfl

theorem trodAll_later {H:Type} {enc:TypeId×Value→H} {P:Program} (hl:laidOutB P=true) {W W':World} (hb:Below W.heap.size W W') :
  ∀ {ts:List TypeId} {vs:List Value} {ds:List (DataW H)} {ps:List MemPlace},ts.all (fun t=>P.readableRec t&&decide (t<P.types.size))=true →
   DataW.TrodAll enc P W 0 (fun _=>true) true ts vs ds ps→(∀ x∈ps,x.block<W.heap.size)→DataW.TrodAll enc P W' 0 (fun b=>decide (b<W.heap.size)) true ts vs ds ps
 | [],_,_,_,_,h,_=>by
  obtain⟨rfl,rfl,rfl⟩:=trodAll_nil h;exact trodAll_mk0
 | t::ts,_,_,_,ha,h,hlt=>by
  obtain⟨v,vs',d,ds',p,q,rfl,rfl,rfl,h0,hr⟩:=trodAll_cons h;simp only[List.all_cons,Bool.and_eq_true,decide_eq_true_eq]at ha;exact trodAll_cons_mk (Below.trod hl ha.1.1 ha.1.2 h0 hb (fun x hx=>hlt x (List.mem_append_left _ hx))) (trodAll_later hl hb (by simpa using ha.2) hr (fun x hx=>hlt x (List.mem_append_right _ hx)))

theorem law_post {H:Type} {enc:TypeId×Value→H} {f:Func} {s:ChangeSpec} {W W':World} {args:Array Value} {ds gs:List (DataW H)} {before:List MemPlace}
  (hW:DataW.Whole enc Tryz.prog f.params.toList s.vars false W args.toList ds gs before) (hall:f.params.toList.all (fun t=>Tryz.prog.readableRec t&&decide (t < Tryz.prog.types.size))=true)
  (hvars:s.vars=[]) (hrt:f.resultTypes=#[4]) (hfn:s.fn H ds = { results:=[.lit (.bool true)],args:=ds }) (hb:Below W.heap.size W W') :
  s.post enc Tryz.prog f false true false false W args (.bool true) W':=by
 have hW0:=hW;obtain⟨p,q,hA,hV,rfl,hfz,hnd⟩:=hW;rw[hvars]at hV;obtain⟨rfl,rfl⟩:=trodVars_none hV
 have hlt:∀ x∈p,x.block<W.heap.size:=fun x hx=>by simpa using hW0.lt x (by simpa using hx)
 refine⟨ds,[],p++[],[],p,[],hW0,?_,?_,?_,?_,fun h=>by cases h⟩
 ·rw[List.append_nil,hfn,hrt]
  exact trodAll_mk1 (shut_bool Tryz.underlying4 true)
 ·rw[List.append_nil,hfn]
  exact trodAll_later laidOut hb hall hA hlt
 ·rw[hvars,List.append_nil,hfn]
  rfl
 ·exact hb.frame _

theorem rd_of_cells {w:World} {a:Addr} {sz n c:Nat} {xs:List Value} (hl:xs.length=n*sz) (hc:n≤c) (h1:∀ u∈xs,u.oneCell'=true) (hsz:0<sz) (h:∀ j u,xs[j]?=some u→w.cell? (a.add j)=some u):Rd w w.heap.size sz (some a) n c xs:=by
 refine⟨hl,hc,h1,fun hn=>?_⟩
 have hpos:0<xs.length:=by rw[hl];exact Nat.mul_pos hn hsz
 have h0:=h 0 _ (List.getElem?_eq_getElem hpos)
 have hs:a.spot=none:=by
  cases he:a.spot with
  | none=>rfl
  | some q=>
   simp only[Addr.add,if_true]at h0;unfold World.cell? at h0
   split at h0
   ·rw[he]at h0;simp at h0
   ·cases h0
 obtain⟨b,o,sp⟩:=a;dsimp only at hs;subst hs
 have hb:b<w.heap.size:=by
  simp only[Addr.add,if_true]at h0;exact World.block_lt_of_cell? w _ h0
 refine⟨b,o,rfl,hb,fun j u hu=>?_⟩;have:=h j u hu;unfold Addr.add at this
 split at this
 ·rename_i hj;subst hj;exact this
 ·exact this
theorem add_add' (a:Addr) (i j:Nat):(a.add i).add j=a.add (i+j):=by
 unfold Addr.add
 by_cases hi:i=0 <;> by_cases hj:j=0 <;> simp[hi,hj,Nat.add_assoc]
theorem flatMap_len {α:Type} {f:α→List Value} {sz:Nat} (hf:∀ a,(f a).length=sz):∀ l:List α,(l.flatMap f).length=l.length*sz
 | []=>by simp
 | c::l=>by rw[List.flatMap_cons,List.length_append,hf,flatMap_len hf l,List.length_cons,Nat.succ_mul,Nat.add_comm]
theorem rd_of_trod {H:Type} {enc:TypeId×Value→H} {P:Program} {W:World} {t e:TypeId} {sz:Nat} {α:Type} (f:α→List Value) (hf:∀ a,(f a).length=sz) (h1:∀ a,∀ u∈f a,u.oneCell'=true) (hsz:0<sz)
  (ht:P.underlying t=some (.slice e)) (hce:P.cellsOf e=sz) (dec:∀ n cs y,DataW.trod enc P W 0 (fun _=>true) true n e cs=some y→∃ a,cs=f a)
  {A:Option Addr} {len cap:Nat} {fuel:Nat} {x:DataW H×List MemPlace} (h:DataW.trod enc P W 0 (fun _=>true) true fuel t (Value.slice A len cap).cells.toList=some x) :
  ∃ l:List α,l.length=len∧Rd W W.heap.size sz A len cap (l.flatMap f)∧len≤maxLen:=by
 rcases Deep.open_slice ht h with ⟨hcs,_⟩ | ⟨a,len',cap',m,n,D,Pl,hcs,_,hl,hm,hmm,_,hel⟩
 ·simp only[Value.cells]at hcs
  injection hcs with hcs;injection hcs with e1 e2 e3;subst e1;subst e2;subst e3;exact⟨[],rfl,Rd.nil _,by simp[maxLen]⟩
 ·simp only[Value.cells]at hcs
  injection hcs with hcs;injection hcs with e1 e2 e3;subst e1;subst e2;subst e3
  have hmm':m=cap:=by simpa using hmm
  clear hmm;subst hmm'
  have key:∀ q,q≤len→∃ l:List α,l.length=q∧∀ k u,(l.flatMap f)[k]?=some u→W.cell? (a.add k)=some u:=by
   intro q
   induction q with
   | zero=>intro _;exact⟨[],rfl,by simp⟩
   | succ q ih=>
    intro hq;obtain⟨l,hlq,hcell⟩:=ih (by omega);obtain⟨cs',hc,htr⟩:=hel q (by omega);obtain⟨b,rfl⟩:=dec _ _ _ htr;obtain⟨_,hlen,hat⟩:=World.cells?_some hc;refine⟨l++[b],by simp[hlq],fun k u hu=>?_⟩
    have hfl:(l.flatMap f).length=q*sz:=by
     rw[flatMap_len hf,hlq]
    rw[List.flatMap_append]at hu
    rcases Nat.lt_or_ge k (q*sz)with h5 | h5
    ·rw[List.getElem?_append_left (by omega)]at hu
     exact hcell k u hu
    ·rw[List.getElem?_append_right (by omega),hfl]at hu
     simp only[List.flatMap_cons,List.flatMap_nil,List.append_nil]at hu
     have hk:k-q*sz<sz:=by
      have:=(List.getElem?_eq_some_iff.1 hu).1;rw[hf]at this;exact this
     have:=hat (k-q*sz) (by rw[hce];exact hk);rw[add_add',hce]at this
     have e2:q*sz+(k-q*sz)=k:=by omega
     rw[e2,hu]at this;exact this
  obtain⟨l,hll,hcell⟩:=key len (Nat.le_refl _);refine⟨l,hll,rd_of_cells ?_ hl ?_ hsz hcell,Nat.le_trans hl hm⟩
  ·rw[flatMap_len hf,hll]
  ·intro u hu
   obtain⟨b,_,hu⟩:=List.mem_flatMap.1 hu;exact h1 b u hu
end Go.Proofs.YtgeafpaognhokaaGreat
namespace Go.Proofs.YtgeafpaognhokaaGreat
open Go.RowKit

structure Tot {K:Type} (lt:K→K→Prop):Prop where
 irr:∀ a,¬lt a a
 tr:∀ a b c,lt a b→lt b c→lt a c
 tri:∀ a b,lt a b∨a=b∨lt b a
theorem Tot.asym {K:Type} {lt:K→K→Prop} (h:Tot lt) {a b:K} (h1:lt a b):¬lt b a:=fun h2=>h.irr a (h.tr _ _ _ h1 h2)
def ltS (a b:ByteArray):Prop:=Op.bytesLess a.toList b.toList=true
theorem bytesLess_irr:∀ l,Op.bytesLess l l=false
 | []=>rfl
 | a::l=>by
  have:=bytesLess_irr l;simp[Op.bytesLess,this]
theorem bytesLess_tr:∀ a b c,Op.bytesLess a b=true→Op.bytesLess b c=true→Op.bytesLess a c=true
 | _,[],_=>by intro h;cases ‹List UInt8› <;> simp[Op.bytesLess]at h
 | [],_::_,[]=>by intro _ h;simp[Op.bytesLess]at h
 | [],_::_,_::_=>by intro _ _;rfl
 | _::_,_::_,[]=>by intro _ h;simp[Op.bytesLess]at h
 | x::a,y::b,z::c=>by
  intro h1 h2;simp only[Op.bytesLess,Bool.or_eq_true,Bool.and_eq_true,decide_eq_true_eq,beq_iff_eq]at h1 h2 ⊢
  rcases h1 with h1 | ⟨rfl,h1⟩
  ·rcases h2 with h2 | ⟨rfl,h2⟩
   ·exact .inl (UInt8.lt_trans h1 h2)
   ·exact .inl h1
  ·rcases h2 with h2 | ⟨rfl,h2⟩
   ·exact .inl h2
   ·exact .inr ⟨rfl,bytesLess_tr a b c h1 h2⟩
theorem bytesLess_tri:∀ a b,Op.bytesLess a b=true∨a=b∨Op.bytesLess b a=true
 | [],[]=>.inr (.inl rfl)
 | [],_::_=>.inl rfl
 | _::_,[]=>.inr (.inr rfl)
 | x::a,y::b=>by
  simp only[Op.bytesLess,Bool.or_eq_true,Bool.and_eq_true,decide_eq_true_eq,beq_iff_eq]
  rcases Nat.lt_trichotomy x.toNat y.toNat with h | h | h
  ·exact .inl (.inl (UInt8.lt_iff_toNat_lt.2 h))
  ·have hxy:x=y:=UInt8.toNat_inj.1 h
   subst hxy
   rcases bytesLess_tri a b with h1 | h1 | h1
   ·exact .inl (.inr ⟨rfl,h1⟩)
   ·subst h1;exact .inr (.inl rfl)
   ·exact .inr (.inr (.inr ⟨rfl,h1⟩))
  ·exact .inr (.inr (.inl (UInt8.lt_iff_toNat_lt.2 h)))
theorem tot_int:Tot (fun a b:Int=>a<b):=⟨by intros;omega,by intros;omega,by intros;omega⟩
theorem bytes_ext {a b:ByteArray} (h:a.toList=b.toList):a=b:=by
 rw[ByteArray.toList_eq,ByteArray.toList_eq]at h;exact WideShapes.bytes_inj h
theorem tot_str:Tot ltS:=by
 refine⟨fun a h=>?_,fun a b c h1 h2=>bytesLess_tr _ _ _ h1 h2,fun a b=>?_⟩
 ·unfold ltS at h;rw[bytesLess_irr]at h;cases h
 ·rcases bytesLess_tri a.toList b.toList with h | h | h
  ·exact .inl h
  ·exact .inr (.inl (bytes_ext h))
  ·exact .inr (.inr h)

section
variable {K:Type} {lt:K→K→Prop} {a b:K}
end

section
variable {K V:Type} {lt:K→K→Prop}
def Up (lt:K→K→Prop) (l:List (K×V)):Prop:=∀ i j (hi:i<l.length) (hj:j<l.length),i<j→lt l[i].1 l[j].1
def Place (lt:K→K→Prop) (l:List (K×V)) (t:K) (i:Nat):Prop:=i≤l.length∧(∀ k (h:k<l.length),k<i→lt l[k].1 t)∧(∀ k (h:k<l.length),i≤k→¬lt l[k].1 t)
def FoundAt (lt:K→K→Prop) (l:List (K×V)) (t:K) (i:Nat):Prop:=Place lt l t i∧∃ h:i<l.length,l[i].1=t
def NoneAt (lt:K→K→Prop) (l:List (K×V)) (t:K) (i:Nat):Prop:=Place lt l t i∧∀ h:i<l.length,l[i].1≠t
def Inv (lt:K→K→Prop) (l:List (K×V)) (t:K) (i j:Nat):Prop:=(∀ k (h:k<l.length),k<i→lt l[k].1 t)∧(∀ k (h:k<l.length),j≤k→¬lt l[k].1 t)
variable (T:Tot lt) {l:List (K×V)}
include T
theorem Inv.up (hu:Up lt l) {t:K} {i j m:Nat} (h:Inv lt l t i j) (hm:m<l.length) (hc:lt l[m].1 t):Inv lt l t (m+1) j:=
 ⟨fun k hk hkm=>by
  rcases Nat.lt_or_ge k m with h1 | h1
  ·exact T.tr _ _ _ (hu k m hk hm h1) hc
  ·obtain rfl:k=m:=by omega
   exact hc,h.2⟩
theorem Inv.down (hu:Up lt l) {t:K} {i j m:Nat} (h:Inv lt l t i j) (hm:m<l.length) (hc:¬lt l[m].1 t):Inv lt l t i m:=
 ⟨h.1,fun k hk hkm=>by
  rcases Nat.lt_or_ge m k with h1 | h1
  ·exact fun h2=>hc (T.tr _ _ _ (hu m k hm hk h1) h2)
  ·obtain rfl:k=m:=by omega
   exact hc⟩
theorem NoneAt.all (hu:Up lt l) {t:K} {i:Nat} (h:NoneAt lt l t i):∀ p∈l,p.1≠t:=by
 obtain⟨⟨hi,h1,h2⟩,h3⟩:=h;intro p hp he;obtain⟨k,hk,rfl⟩:=List.getElem_of_mem hp
 rcases Nat.lt_or_ge k i with hlt | hge
 ·have:=h1 k hk hlt;rw[he]at this;exact T.irr _ this
 ·have hil:i<l.length:=by omega
  have a1:=h2 i hil (Nat.le_refl _);have a2:=h3 hil
  rcases Nat.lt_or_ge i k with h4 | h4
  ·have:=hu i k hil hk h4;rw[he]at this;exact a1 this
  ·obtain rfl:i=k:=by omega
   exact a2 he
omit T in
theorem FoundAt.mem {t:K} {i:Nat} (h:FoundAt lt l t i):∃ p∈l,p.1=t:=by
 obtain⟨_,hi,he⟩:=h;exact⟨l[i],List.getElem_mem hi,he⟩
end

section
variable {K V:Type} {lt:K→K→Prop}
end

-- the cells of elements of two cells each
section
variable {α:Type} (f g:α→Value)
end
end Go.Proofs.YtgeafpaognhokaaGreat
namespace Go.Proofs.YtgeafpaognhokaaGreat
open Go.ChangeShapes Go.WideShapes Go.ChangeAt Go.RowKit
namespace Dt
def cenB (a:Int):Bool:=decide (0≤a∧a<4)
def rightB (a n:Int):Bool:=decide (0≤a∧a<4∧1≤n∧n≤1099511627776)
def cmp1 (a b:Int):Int:=if a<b then -1 else if b<a then 1 else 0
def cmpI (a n b m:Int):Int:=if a<b∨(a=b∧n<m)then -1 else if a=b∧n=m then 0 else 1
def lessB (a n b m:Int):Bool:=decide (a<b∨(a=b∧n<m))
theorem cmp1_lt {a b:Int} (h:a<b):cmp1 a b = -1:=by unfold cmp1;rw[if_pos h]
theorem cmp1_gt {a b:Int} (h:b<a):cmp1 a b=1:=by unfold cmp1;rw[if_neg (by omega),if_pos h]
theorem cmp1_eq (a:Int):cmp1 a a=0:=by unfold cmp1;rw[if_neg (by omega),if_neg (by omega)]
theorem cmp1_or (a b:Int):(a<b∧cmp1 a b = -1)∨(a=b∧cmp1 a b=0)∨(b<a∧cmp1 a b=1):=by
 rcases Int.lt_trichotomy a b with h | rfl | h
 ·exact .inl ⟨h,cmp1_lt h⟩
 ·exact .inr (.inl ⟨rfl,cmp1_eq _⟩)
 ·exact .inr (.inr ⟨h,cmp1_gt h⟩)
theorem ret_bool {a b:Bool} (h:a=b):Ending.returned (.bool a) = .returned (.bool b):=by rw[h]
theorem ret_int {a b:Int} (h:a=b):Ending.returned (.int .i64 a) = .returned (.int .i64 b):=by rw[h]
theorem center_any (a:Int) (w:World):Calls Tryz.prog 191 #[.int .i64 a] w fun e w'=>e = .returned (.bool (cenB a))∧w=w':=by
 unfold cenB
 by_cases h0:0≤a
 ·by_cases h4:a<4
  ·have f1:decide (0≤a)=true:=by simpa using h0
   have f2:decide (a<4)=true:=by simpa using h4
   go_enter Tryz.func191,Tryz.ntmps191;go_wp2;go_ret
   exact⟨ret_bool (by simp <;> omega),rfl⟩
  ·have f1:decide (0≤a)=true:=by simpa using h0
   have f2:decide (a<4)=false:=by simp;omega
   go_enter Tryz.func191,Tryz.ntmps191;go_wp2;go_ret
   exact⟨ret_bool (by simp <;> omega),rfl⟩
 ·have f1:decide (0≤a)=false:=by simp;omega
  go_enter Tryz.func191,Tryz.ntmps191;go_wp2;go_ret
  exact⟨ret_bool (by simp <;> omega),rfl⟩

theorem box_below (w:World) (x:Array Value) (t:TypeId):Below w.heap.size w (w.alloc (.cells x t)):=(Below.refl _ _).alloc (Nat.le_refl _) _
set_option maxHeartbeats 400000 in
theorem right_any (a n:Int) (w:World):Calls Tryz.prog 163 #[.agg #[.int .i64 a,.int .i64 n]] w fun e w'=>e = .returned (.bool (rightB a n))∧Below w.heap.size w w':=by
 by_cases h0:cenB a=true
 ·by_cases h1:1≤n
  ·by_cases h2:n≤1099511627776
   ·have f1:decide (1≤n)=true:=by simpa using h1
    have f2:decide (n≤1099511627776)=true:=by simpa using h2
    go_enter Tryz.func163,Tryz.ntmps163;go_wp2_with (go_at_call 191;refine (center_any _ _).mono ?_;rw[h0];rintro e w' ⟨rfl,rfl⟩);go_ret;exact⟨ret_bool (by unfold cenB at h0;unfold rightB;simp at *;omega),box_below _ _ _⟩
   ·have f1:decide (1≤n)=true:=by simpa using h1
    have f2:decide (n≤1099511627776)=false:=by simp;omega
    go_enter Tryz.func163,Tryz.ntmps163;go_wp2_with (go_at_call 191;refine (center_any _ _).mono ?_;rw[h0];rintro e w' ⟨rfl,rfl⟩);go_ret;exact⟨ret_bool (by unfold rightB;simp;omega),box_below _ _ _⟩
  ·have f1:decide (1≤n)=false:=by simp;omega
   go_enter Tryz.func163,Tryz.ntmps163;go_wp2_with (go_at_call 191;refine (center_any _ _).mono ?_;rw[h0];rintro e w' ⟨rfl,rfl⟩);go_ret;exact⟨ret_bool (by unfold rightB;simp;omega),box_below _ _ _⟩
 ·have h0':cenB a=false:=by simpa using h0
  go_enter Tryz.func163,Tryz.ntmps163;go_wp2_with (go_at_call 191;refine (center_any _ _).mono ?_;rw[h0'];rintro e w' ⟨rfl,rfl⟩);go_ret;exact⟨ret_bool (by unfold cenB at h0';unfold rightB;simp at *;omega),box_below _ _ _⟩
set_option maxHeartbeats 400000 in
theorem refright_any (a n:Int) (w:World):Calls Tryz.prog 80 #[.agg #[.int .i64 a,.int .i64 n]] w fun e w'=>e = .returned (.bool (rightB a n))∧Below w.heap.size w w':=by
 by_cases h0:0≤a
 ·have g0:decide (0≤a)=true:=by simpa using h0
  by_cases h3:a<4
  ·have g1:decide (a<4)=true:=by simpa using h3
   by_cases h1:1≤n
   ·have f1:decide (1≤n)=true:=by simpa using h1
    by_cases h2:n≤1099511627776
    ·have f2:decide (n≤1099511627776)=true:=by simpa using h2
     go_enter Tryz.func80,Tryz.ntmps80;go_wp2;go_ret;exact⟨ret_bool (by unfold rightB;simp;omega),box_below _ _ _⟩
    ·have f2:decide (n≤1099511627776)=false:=by simp;omega
     go_enter Tryz.func80,Tryz.ntmps80;go_wp2;go_ret;exact⟨ret_bool (by unfold rightB;simp;omega),box_below _ _ _⟩
   ·have f1:decide (1≤n)=false:=by simp;omega
    go_enter Tryz.func80,Tryz.ntmps80;go_wp2;go_ret;exact⟨ret_bool (by unfold rightB;simp;omega),box_below _ _ _⟩
  ·have g1:decide (a<4)=false:=by simp;omega
   go_enter Tryz.func80,Tryz.ntmps80;go_wp2;go_ret;exact⟨ret_bool (by unfold rightB;simp;omega),box_below _ _ _⟩
 ·have g0:decide (0≤a)=false:=by simp;omega
  go_enter Tryz.func80,Tryz.ntmps80;go_wp2;go_ret;exact⟨ret_bool (by unfold rightB;simp;omega),box_below _ _ _⟩
end Dt
end Go.Proofs.YtgeafpaognhokaaGreat
namespace Go.Proofs.YtgeafpaognhokaaGreat
namespace Tr
structure E where
 a:Int
 n:Int
 s:ByteArray
 v:Int
inductive T where
 | mk (es:List E) (ks:List (ByteArray×T)):T
def T.es:T→List E | .mk e _=>e
def T.ks:T→List (ByteArray×T) | .mk _ k=>k
def none_:T:=.mk [] []
theorem T.eta (t:T):T.mk t.es t.ks=t:=by cases t;rfl
theorem kid_lt {es:List E} {ks:List (ByteArray×T)} {k:ByteArray×T} (h:k∈ks):SizeOf.sizeOf k.2<SizeOf.sizeOf (T.mk es ks):=by
 have h1:=List.sizeOf_lt_of_mem h
 cases k
 simp at h1 ⊢
 omega
theorem T.ind {P:T→Prop} (h:∀ es ks,(∀ k∈ks,P k.2)→P (.mk es ks)):∀ t,P t
 | .mk es ks=>h es ks fun k _hk=>T.ind h k.2
termination_by t=>SizeOf.sizeOf t
decreasing_by exact kid_lt _hk
def leaves:T→List (List ByteArray×E)
 | .mk es ks=>es.map (fun e=>([],e))++ks.attach.flatMap (fun k=>(leaves k.1.2).map fun x=>(k.1.1::x.1,x.2))
termination_by t=>SizeOf.sizeOf t
decreasing_by exact kid_lt k.2
theorem attach_flat {α β:Type} (l:List α) (f:α→List β):l.attach.flatMap (fun k=>f k.1)=l.flatMap f:=by
 conv=>rhs;rw[← List.attach_map_subtype_val l]
 rw[List.flatMap_map]
def below (ks:List (ByteArray×T)):List (List ByteArray×E):=ks.flatMap fun k=>(leaves k.2).map fun x=>(k.1::x.1,x.2)
theorem leaves_mk (es:List E) (ks:List (ByteArray×T)):leaves (.mk es ks)=es.map (fun e=>([],e))++below ks:=by
 rw[leaves];unfold below;rw[attach_flat ks fun k=>(leaves k.2).map fun x=>(k.1::x.1,x.2)]
def nodes:T→Nat
 | .mk es ks=>es.length+ks.length+(ks.attach.map fun k=>nodes k.1.2).sum
termination_by t=>SizeOf.sizeOf t
decreasing_by exact kid_lt k.2
theorem nodes_mk (es:List E) (ks:List (ByteArray×T)):nodes (.mk es ks)=es.length+ks.length+(ks.map fun k=>nodes k.2).sum:=by
 rw[nodes]
 congr 2
 conv=>rhs;rw[← List.attach_map_subtype_val ks]
 rw[List.map_map];rfl
inductive LenT (m:Nat):T→Prop where
 | mk {es:List E} {ks:List (ByteArray×T)} : es.length≤m→ks.length≤m→(∀ k∈ks,LenT m k.2)→LenT m (.mk es ks)
theorem LenT.es {m:Nat} {es:List E} {ks:List (ByteArray×T)} (h:LenT m (.mk es ks)):es.length≤m:=by cases h;assumption
theorem LenT.ks {m:Nat} {es:List E} {ks:List (ByteArray×T)} (h:LenT m (.mk es ks)):ks.length≤m:=by cases h;assumption
theorem LenT.kid {m:Nat} {es:List E} {ks:List (ByteArray×T)} (h:LenT m (.mk es ks)) {k:ByteArray×T} (hk:k∈ks):LenT m k.2:=by
 cases h with
 | mk _ _ h3=>exact h3 k hk
theorem le_sum {α:Type} {f:α→Nat} : ∀ {l:List α} {a:α},a∈l→f a≤(l.map f).sum
 | b::l,a,h=>by
  rw[List.map_cons,List.sum_cons]
  rcases List.mem_cons.1 h with rfl | h
  ·omega
  ·have:=le_sum (f:=f) h
   omega
theorem nodes_es (es:List E) (ks:List (ByteArray×T)):es.length+ks.length≤nodes (.mk es ks):=by rw[nodes_mk];omega
theorem nodes_kid {es:List E} {ks:List (ByteArray×T)} {k:ByteArray×T} (h:k∈ks):nodes k.2≤nodes (.mk es ks):=by
 have:=le_sum (f:=fun k:ByteArray×T=>nodes k.2) h;rw[nodes_mk];omega
theorem leaves_len (es:List E) (ks:List (ByteArray×T)):(leaves (.mk es ks)).length=es.length+(ks.map fun k=>(leaves k.2).length).sum:=by
 rw[leaves_mk,List.length_append,List.length_map]
 congr 1
 unfold below;rw[List.length_flatMap];simp
theorem sum_mono {α:Type} {f g:α→Nat} : ∀ {l:List α},(∀ a∈l,f a≤g a)→(l.map f).sum≤(l.map g).sum
 | [],_=>Nat.le_refl _
 | b::l,h=>by
  rw[List.map_cons,List.sum_cons,List.map_cons,List.sum_cons];have:=h b List.mem_cons_self;have:=sum_mono (f:=f) (g:=g) fun a ha=>h a (List.mem_cons_of_mem _ ha);omega
theorem leaves_nodes (t:T):(leaves t).length≤nodes t:=by
 induction t using T.ind with
 | h es ks ih=>
  rw[leaves_len,nodes_mk];have:=sum_mono ih;omega
def ltE (x y:E):Prop:=Dt.lessB x.a x.n y.a y.n=true
theorem ltE_iff {x y:E} : ltE x y↔(x.a<y.a∨(x.a=y.a∧x.n<y.n)):=by unfold ltE Dt.lessB;exact decide_eq_true_iff
theorem ltE_tr {x y z:E} (h1:ltE x y) (h2:ltE y z):ltE x z:=by rw[ltE_iff]at *;omega
def RightE (e:E):Prop:=Dt.rightB e.a e.n=true∧e.s.size≤30 ∧ -1099511627776≤e.v∧e.v≤1099511627776
def KeyOk (k:ByteArray):Prop:=1≤k.size∧k.size≤30
def RightT:Nat→T→Prop
 | 0,_=>False
 | d+1,.mk es ks=>(∀ e∈es,RightE e)∧es.Pairwise ltE∧ks.Pairwise (fun x y=>ltS x.1 y.1)∧∀ k∈ks,KeyOk k.1∧¬(k.2.es=[]∧k.2.ks=[])∧RightT d k.2
theorem RightT.more:∀ {d:Nat} {t:T},RightT d t→RightT (d+1) t
 | _+1,.mk _ _,h=>⟨h.1,h.2.1,h.2.2.1,fun k hk=>⟨(h.2.2.2 k hk).1,(h.2.2.2 k hk).2.1,RightT.more (h.2.2.2 k hk).2.2⟩⟩
theorem RightT.none {d:Nat} : RightT (d+1) none_:=⟨by simp,by simp,by simp,by simp⟩
def under (l:List (List ByteArray×E)) (key:ByteArray):List (List ByteArray×E):=l.filterMap fun x=>match x.1 with
 | []=>none
 | k::p=>if k=key then some (p,x.2)else none
theorem under_append (a b:List (List ByteArray×E)) (key:ByteArray):under (a++b) key=under a key++under b key:=by simp[under]
theorem under_own (es:List E) (key:ByteArray):under (es.map fun e=>([],e)) key=[]:=by
 induction es with
 | nil=>rfl
 | cons e es ih=>simp[under]
theorem under_kid (k:ByteArray) (l:List (List ByteArray×E)) (key:ByteArray):under (l.map fun x=>(k::x.1,x.2)) key=if k=key then l else []:=by
 induction l with
 | nil=>simp[under]
 | cons x l ih=>
  have e:under ((x::l).map fun x=>(k::x.1,x.2)) key=(if k=key then [x]else [])++under (l.map fun x=>(k::x.1,x.2)) key:=by
   unfold under
   by_cases h:k=key <;> simp[h]
  rw[e,ih]
  by_cases h:k=key <;> simp[h]
def kidAt:List (ByteArray×T)→ByteArray→T
 | [],_=>none_
 | k::ks,key=>if k.1=key then k.2 else kidAt ks key
theorem leaves_none:leaves none_=[]:=by unfold none_;rw[leaves_mk];rfl
theorem kidAt_not {ks:List (ByteArray×T)} {key:ByteArray} (h:∀ k∈ks,k.1≠key):kidAt ks key=none_:=by
 induction ks with
 | nil=>rfl
 | cons k ks ih=>
  unfold kidAt;rw[if_neg (h k List.mem_cons_self)];exact ih fun k hk=>h k (List.mem_cons_of_mem _ hk)
theorem under_below:∀ {ks:List (ByteArray×T)} (key:ByteArray),ks.Pairwise (fun x y=>ltS x.1 y.1)→under (below ks) key=leaves (kidAt ks key)
 | [],key,_=>by unfold below kidAt;rw[leaves_none];rfl
 | k::ks,key,h=>by
  rw[List.pairwise_cons]at h;have ih:=under_below key h.2
  have e:below (k::ks)=((leaves k.2).map fun x=>(k.1::x.1,x.2))++below ks:=by unfold below;rw[List.flatMap_cons]
  rw[e,under_append,under_kid,ih]
  by_cases hk:k.1=key
  ·have hn:kidAt ks key=none_:=kidAt_not fun x hx hxk=>tot_str.irr key (by have:=h.1 x hx;rwa [hk,hxk]at this)
   rw[if_pos hk,hn,leaves_none,List.append_nil];unfold kidAt;rw[if_pos hk]
  ·rw[if_neg hk,List.nil_append]
   conv=>rhs;unfold kidAt
   rw[if_neg hk]
theorem under_leaves {d:Nat} {t:T} (h:RightT d t) (key:ByteArray):under (leaves t) key=leaves (kidAt t.ks key):=by
 cases d with
 | zero=>exact h.elim
 | succ d=>
  cases t with
  | mk es ks=>
   rw[leaves_mk,under_append,under_own,List.nil_append,under_below key h.2.2.1];rfl
theorem kidAt_mem {ks:List (ByteArray×T)} {key:ByteArray} : (∃ k∈ks,k.1=key∧kidAt ks key=k.2)∨((∀ k∈ks,k.1≠key)∧kidAt ks key=none_):=by
 induction ks with
 | nil=>exact .inr ⟨by simp,rfl⟩
 | cons k ks ih=>
  unfold kidAt
  by_cases h:k.1=key
  ·rw[if_pos h]
   exact .inl ⟨k,List.mem_cons_self,h,rfl⟩
  ·rw[if_neg h]
   rcases ih with ⟨x,h1,h2,h3⟩ | ⟨h1,h2⟩
   ·exact .inl ⟨x,List.mem_cons_of_mem _ h1,h2,h3⟩
   ·refine .inr ⟨fun x hx=>?_,h2⟩
    rcases List.mem_cons.1 hx with rfl | hx
    ·exact h
    ·exact h1 x hx
theorem RightT.kid {d:Nat} {t:T} (h:RightT (d+1) t) (key:ByteArray):RightT (d+1) (kidAt t.ks key):=by
 cases t with
 | mk es ks=>
  rcases kidAt_mem (ks:=ks) (key:=key)with ⟨k,h1,_,h3⟩ | ⟨_,h2⟩
  ·show RightT (d+1) (kidAt ks key)
   rw[h3];exact (h.2.2.2 k h1).2.2.more
  ·show RightT (d+1) (kidAt ks key)
   rw[h2];exact RightT.none
def getT (t:T):List ByteArray→T
 | []=>t
 | k::p=>getT (kidAt t.ks k) p
def wrapT (t:T):List ByteArray→T
 | []=>t
 | k::p=>.mk [] [(k,wrapT t p)]
theorem get_wrap (t:T):∀ p:List ByteArray,getT (wrapT t p) p=t
 | []=>rfl
 | k::p=>by
  unfold getT wrapT;show getT (kidAt [(k,wrapT t p)] k) p=t;unfold kidAt;rw[if_pos rfl];exact get_wrap t p
theorem wrap_some {t:T} (h:¬(t.es=[]∧t.ks=[])):∀ p:List ByteArray,¬((wrapT t p).es=[]∧(wrapT t p).ks=[])
 | []=>h
 | k::p=>by unfold wrapT;intro h2;cases h2.2
theorem RightT.wrap {d:Nat} {t:T} (h:RightT d t) (hn:¬(t.es=[]∧t.ks=[])):∀ {p:List ByteArray},(∀ k∈p,KeyOk k)→RightT (d+p.length) (wrapT t p)
 | [],_=>h
 | k::p,hk=>by
  unfold wrapT;refine⟨by simp,by simp,by simp,fun x hx=>?_⟩;rw[List.mem_singleton.1 hx];exact⟨hk k List.mem_cons_self,wrap_some hn p,RightT.wrap h hn fun k hk2=>hk k (List.mem_cons_of_mem _ hk2)⟩
def keepK (f:ByteArray→Bool) (ks:List (ByteArray×T)):List (ByteArray×T):=ks.filter fun k=>f k.1
theorem RightT.keep {d:Nat} {es:List E} {ks:List (ByteArray×T)} (h:RightT (d+1) (.mk es ks)) (f:ByteArray→Bool):RightT (d+1) (.mk es (keepK f ks)):=
 ⟨h.1,h.2.1,h.2.2.1.sublist List.filter_sublist,fun k hk=>h.2.2.2 k (List.mem_filter.1 hk).1⟩
def rootE (l:List (List ByteArray×E)):List E:=l.filterMap fun x=>match x.1 with | []=>some x.2 | _::_=>none
theorem rootE_below (ks:List (ByteArray×T)):rootE (below ks)=[]:=by
 unfold rootE below;rw[List.filterMap_eq_nil_iff];intro x hx;obtain⟨k,_,hx⟩:=List.mem_flatMap.1 hx;obtain⟨y,_,rfl⟩:=List.mem_map.1 hx;rfl
theorem rootE_leaves (es:List E) (ks:List (ByteArray×T)):rootE (leaves (.mk es ks))=es:=by
 rw[leaves_mk];unfold rootE;rw[List.filterMap_append];have h1:=rootE_below ks;unfold rootE at h1;rw[h1,List.append_nil,List.filterMap_map];exact List.filterMap_some
end Tr
end Go.Proofs.YtgeafpaognhokaaGreat
namespace Go.Proofs.YtgeafpaognhokaaGreat
namespace Sp
def RightF:Int→List (Int×Int)→Prop
 | _,[]=>True
 | m,r::l=>m≤r.1∧r.1≤r.2∧r.2≤1099511627776∧RightF (r.2+2) l
instance decR:∀ (m:Int) (l:List (Int×Int)),Decidable (RightF m l)
 | _,[]=>.isTrue trivial
 | m,r::l=>by
  unfold RightF;have:=decR (r.2+2) l;exact inferInstance
def rightB (l:List (Int×Int)):Bool:=decide (RightF 1 l)
def hasB (l:List (Int×Int)) (n:Int):Bool:=l.any fun r=>decide (r.1≤n∧n≤r.2)
theorem has_cons (r:Int×Int) (l:List (Int×Int)) (n:Int):hasB (r::l) n=(decide (r.1≤n∧n≤r.2)||hasB l n):=rfl
theorem has_nil (n:Int):hasB [] n=false:=rfl
theorem has_append (a b:List (Int×Int)) (n:Int):hasB (a++b) n=(hasB a n||hasB b n):=by simp[hasB]
theorem has_true {l:List (Int×Int)} {n:Int} : hasB l n=true↔∃ r∈l,r.1≤n∧n≤r.2:=by simp[hasB]
theorem has_false {l:List (Int×Int)} {n:Int} : hasB l n=false↔∀ r∈l,¬(r.1≤n∧n≤r.2):=by
 simp[hasB]
theorem RightF.mono {m m':Int} (hm:m'≤m):∀ {l:List (Int×Int)},RightF m l→RightF m' l
 | [],_=>trivial
 | r::l,h=>by obtain⟨h1,h2,h3,h4⟩:=h;exact⟨by omega,h2,h3,h4⟩
theorem RightF.mem:∀ {l:List (Int×Int)} {m:Int},RightF m l→∀ r∈l,m≤r.1∧r.1≤r.2∧r.2≤1099511627776
 | [],_,_,r,hr=>by simp at hr
 | q::l,m,h,r,hr=>by
  obtain⟨h1,h2,h3,h4⟩:=h
  rcases List.mem_cons.1 hr with rfl | hr
  ·exact⟨h1,h2,h3⟩
  ·have:=RightF.mem h4 r hr
   exact⟨by omega,this.2⟩
theorem has_lt {l:List (Int×Int)} {m n:Int} (h:RightF m l) (hn:n<m):hasB l n=false:=
 has_false.2 fun r hr=>by have:=h.mem r hr;omega
theorem has_gt {l:List (Int×Int)} {m n:Int} (h:RightF m l) (hn:1099511627776<n):hasB l n=false:=
 has_false.2 fun r hr=>by have:=h.mem r hr;omega
theorem ext:∀ {a b:List (Int×Int)} {m m':Int},RightF m a→RightF m' b→(∀ n,hasB a n=hasB b n)→a=b
 | [],[],_,_,_,_,_=>rfl
 | [],r::b,_,_,_,h,he=>by
  have:=he r.1;rw[has_nil,has_cons]at this;obtain⟨_,h2,_⟩:=h;simp[h2]at this
 | r::a,[],_,_,h,_,he=>by
  have:=he r.1;rw[has_nil,has_cons]at this;obtain⟨_,h2,_⟩:=h;simp[h2]at this
 | (x,y)::a,(u,v)::b,m,m',ha,hb,he=>by
  obtain⟨a1,a2,a3,a4⟩:=ha;obtain⟨b1,b2,b3,b4⟩:=hb;dsimp only at a1 a2 a3 a4 b1 b2 b3 b4
  have key:∀ {l:List (Int×Int)} {x y n:Int},RightF (y+2) l→n≤y+1→hasB ((x,y)::l) n=decide (x≤n∧n≤y):=by
   intro l x y n h hn;rw[has_cons,has_lt h (by omega),Bool.or_false]
  have hxu:x=u:=by
   have e1:=he x;have e2:=he u
   rcases Int.lt_trichotomy x u with h | h | h
   ·rw[key a4 (by omega),key b4 (by omega)]at e1
    have e3:decide (x≤x∧x≤y)=true:=by simp;omega
    have e4:decide (u≤x∧x≤v)=false:=by simp;omega
    rw[e3,e4]at e1
    cases e1
   ·exact h
   ·rw[key a4 (by omega),key b4 (by omega)]at e2
    have e3:decide (x≤u∧u≤y)=false:=by simp;omega
    have e4:decide (u≤u∧u≤v)=true:=by simp;omega
    rw[e3,e4]at e2
    cases e2
  subst hxu
  have hyv:y=v:=by
   have e1:=he (y+1);have e2:=he (v+1)
   rcases Int.lt_trichotomy y v with h | h | h
   ·rw[key a4 (by omega),key b4 (by omega)]at e1
    have e3:decide (x≤y+1∧y+1≤y)=false:=by simp;omega
    have e4:decide (x≤y+1∧y+1≤v)=true:=by simp;omega
    rw[e3,e4]at e1
    cases e1
   ·exact h
   ·rw[key a4 (by omega),key b4 (by omega)]at e2
    have e3:decide (x≤v+1∧v+1≤v)=false:=by simp;omega
    have e4:decide (x≤v+1∧v+1≤y)=true:=by simp;omega
    rw[e3,e4]at e2
    cases e2
  subst hyv
  have:a=b:=by
   refine ext a4 b4 fun n=>?_
   by_cases hn:n≤y
   ·rw[has_lt a4 (by omega),has_lt b4 (by omega)]
   ·have e:=he n
    rw[has_cons,has_cons]at e
    have e3:decide (x≤n∧n≤y)=false:=by simp;omega
    simpa [e3] using e
  rw[this]
theorem RightF.snoc:∀ {l:List (Int×Int)} {m:Int},RightF m l→∀ {r:Int×Int},(∀ q∈l,q.2+2≤r.1)→m≤r.1→r.1≤r.2→r.2≤1099511627776→RightF m (l++[r])
 | [],_,_,_,_,h1,h2,h3=>⟨h1,h2,h3,trivial⟩
 | q::l,_,h,r,hq,_,h2,h3=>by
  obtain⟨a1,a2,a3,a4⟩:=h;exact⟨a1,a2,a3,RightF.snoc a4 (fun p hp=>hq p (List.mem_cons_of_mem _ hp)) (hq q List.mem_cons_self) h2 h3⟩
theorem RightF.of_snoc:∀ {l:List (Int×Int)} {m:Int} {r:Int×Int},RightF m (l++[r])→RightF m l∧(∀ q∈l,q.2+2≤r.1)∧m≤r.1∧r.1≤r.2∧r.2≤1099511627776
 | [],_,_,h=>⟨trivial,by simp,h.1,h.2.1,h.2.2.1⟩
 | q::l,_,r,h=>by
  obtain⟨a1,a2,a3,a4⟩:=h;obtain⟨b1,b2,b3,b4,b5⟩:=RightF.of_snoc a4;refine⟨⟨a1,a2,a3,b1⟩,fun p hp=>?_,by omega,b4,b5⟩
  rcases List.mem_cons.1 hp with rfl | hp
  ·exact b3
  ·exact b2 p hp
def edge:List (Int×Int)→Nat→Int
 | [],_=>1099511627778
 | r::_,0=>r.1
 | r::_,1=>r.2+1
 | _::l,i+2=>edge l i
theorem edge_end:∀ {l:List (Int×Int)} {i:Nat},2*l.length≤i→edge l i=1099511627778
 | [],_,_=>rfl
 | r::l,0,h=>by simp at h
 | r::l,1,h=>by simp at h;omega
 | r::l,i+2,h=>edge_end (l:=l) (i:=i) (by simp at h;omega)
theorem edge_even:∀ {l:List (Int×Int)} {k:Nat} (h:k<l.length),edge l (2*k)=l[k].1
 | r::l,0,_=>rfl
 | r::l,k+1,h=>by
  rw[show 2*(k+1)=2*k+2 from by omega];show edge l (2*k)=_;rw[edge_even (by simpa using h)];rfl
theorem edge_odd:∀ {l:List (Int×Int)} {k:Nat} (h:k<l.length),edge l (2*k+1)=l[k].2+1
 | r::l,0,_=>rfl
 | r::l,k+1,h=>by
  rw[show 2*(k+1)+1=2*k+1+2 from by omega];show edge l (2*k+1)=_;rw[edge_odd (by simpa using h)];rfl
theorem edge_ge:∀ {l:List (Int×Int)} {m:Int} {i:Nat},RightF m l→i<2*l.length→m≤edge l i∧edge l i≤1099511627777
 | [],_,_,_,h=>by simp at h
 | r::l,m,0,h,_=>by obtain⟨a1,a2,a3,_⟩:=h;exact⟨a1,by show r.1≤_;omega⟩
 | r::l,m,1,h,_=>by obtain⟨a1,a2,a3,_⟩:=h;exact⟨by show m≤r.2+1;omega,by show r.2+1≤_;omega⟩
 | r::l,m,i+2,h,hi=>by
  obtain⟨a1,a2,a3,a4⟩:=h;have:=edge_ge (i:=i) a4 (by simp at hi;omega);exact⟨by show m≤edge l i;omega,this.2⟩
theorem edge_pos {l:List (Int×Int)} (h:RightF 1 l) (i:Nat):1≤edge l i∧edge l i≤1099511627778:=by
 by_cases hi:i<2*l.length
 ·have:=edge_ge h hi;omega
 ·rw[edge_end (by omega)];omega
theorem edge_lt:∀ {l:List (Int×Int)} {m:Int} {i:Nat},RightF m l→i<2*l.length→edge l i<edge l (i+1)
 | [],_,_,_,h=>by simp at h
 | r::l,m,0,h,_=>by obtain⟨a1,a2,a3,_⟩:=h;show r.1<r.2+1;omega
 | r::l,m,1,h,_=>by
  obtain⟨a1,a2,a3,a4⟩:=h;show r.2+1<edge l 0
  cases l with
  | nil=>show _<(1099511627778:Int);omega
  | cons q l=>have:=a4.1;show _<q.1;omega
 | r::l,m,i+2,h,hi=>by
  obtain⟨a1,a2,a3,a4⟩:=h;exact edge_lt (l:=l) (i:=i) a4 (by simp at hi;omega)
theorem has_at:∀ {l:List (Int×Int)} {m:Int} {k:Nat} {n:Int},RightF m l→k≤2*l.length→(k=0∨edge l (k-1)≤n)→(k=2*l.length∨n<edge l k)→hasB l n=decide (k % 2=1)
 | [],_,k,n,_,hk,_,_=>by
  have:k=0:=by simpa using hk
  subst this;rfl
 | r::l,m,0,n,h,_,_,h2=>by
  have h2:n<r.1:=by
   rcases h2 with h2 | h2
   ·simp at h2
   ·exact h2
  obtain⟨a1,a2,a3,a4⟩:=h;rw[has_cons,has_lt a4 (by omega)]
  simp;omega
 | r::l,m,1,n,h,_,h1,h2=>by
  obtain⟨a1,a2,a3,a4⟩:=h
  have h1:r.1≤n:=by
   rcases h1 with h1 | h1
   ·omega
   ·exact h1
  have h2:n<r.2+1:=by
   rcases h2 with h2 | h2
   ·simp at h2;omega
   ·exact h2
  rw[has_cons]
  simp;left;omega
 | r::l,m,k+2,n,h,hk,h1,h2=>by
  obtain⟨a1,a2,a3,a4⟩:=h
  have hl:r.2<n:=by
   rcases h1 with h1 | h1
   ·omega
   ·cases k with
    | zero=>have:r.2+1≤n:=h1;omega
    | succ k=>
     have h1:edge l k≤n:=h1;have:=edge_ge (i:=k) a4 (by simp at hk;omega);omega
  have ih:=has_at (l:=l) (k:=k) (n:=n) a4 (by simp at hk;omega)
   (by
    rcases h1 with h1 | h1
    ·omega
    ·cases k with
     | zero=>exact .inl rfl
     | succ k=>exact .inr h1)
   (by
    rcases h2 with h2 | h2
    ·left;simp at h2;omega
    ·exact .inr h2)
  rw[has_cons,ih]
  have e:decide (r.1≤n∧n≤r.2)=false:=by simp;omega
  rw[e,Bool.false_or]
  have:(k+2) % 2=k % 2:=by omega
  rw[this]
structure Put (f:Bool→Bool→Bool) (a b l:List (Int×Int)):Prop where
 right:RightF 1 l
 has:∀ n,hasB l n=f (hasB a n) (hasB b n)
 len:l.length≤a.length+b.length
theorem Put.eq {f:Bool→Bool→Bool} {a b l l':List (Int×Int)} (h:Put f a b l) (h':Put f a b l'):l=l':=ext h.right h'.right fun n=>by rw[h.has,h'.has]
structure Join (f:Bool→Bool→Bool) (a b:List (Int×Int)) (i j:Nat) (p:Int) (done:List (Int×Int)) (s:Int) (within:Bool):Prop where
 hi:i≤2*a.length
 hj:j≤2*b.length
 pi:i=0∨edge a (i-1)≤p
 pj:j=0∨edge b (j-1)≤p
 ni:p<edge a i
 nj:p<edge b j
 w:within=f (decide (i % 2=1)) (decide (j % 2=1))
 right:RightF 1 done
 ends:∀ r∈done,r.2+1≤p
 open_:within=true→1≤s∧s≤p∧∀ r∈done,r.2+2≤s
 has:∀ n,n≤p→(hasB done n||(within&&decide (s≤n)))=f (hasB a n) (hasB b n)
 len:2*done.length+(if within then 1 else 0)≤i+j
theorem Join.zero {f:Bool→Bool→Bool} (hf:f false false=false) {a b:List (Int×Int)} (ha:RightF 1 a) (hb:RightF 1 b) (s:Int):Join f a b 0 0 0 [] s false:=by
 refine⟨Nat.zero_le _,Nat.zero_le _,.inl rfl,.inl rfl,?_,?_,by simp[hf],trivial,by simp,by simp,fun n hn=>?_,by simp⟩
 ·have:=edge_pos ha 0;omega
 ·have:=edge_pos hb 0;omega
 ·rw[has_lt ha (by omega),has_lt hb (by omega),hf];simp[has_nil]
def rowJ (done:List (Int×Int)) (s:Int) (within:Bool):List (Int×Int):=if within then done++[(s,0)]else done
theorem Join.end {f:Bool→Bool→Bool} (hf:f false false=false) {a b done:List (Int×Int)} {i j:Nat} {p s:Int} {within:Bool} (ha:RightF 1 a) (hb:RightF 1 b) (h:Join f a b i j p done s within) (hi:2*a.length≤i) (hj:2*b.length≤j):within=false∧Put f a b done:=by
 have ei:i=2*a.length:=Nat.le_antisymm h.hi hi;have ej:j=2*b.length:=Nat.le_antisymm h.hj hj
 have hw:within=false:=by
  rw[h.w,ei,ej];simp[hf]
 refine⟨hw,h.right,fun n=>?_,?_⟩
 ·by_cases hn:n≤p
  ·have:=h.has n hn
   rw[hw]at this
   simpa using this
  ·have e1:=has_at (k:=i) (n:=n) ha h.hi (by have:=h.pi;omega) (.inl ei)
   have e2:=has_at (k:=j) (n:=n) hb h.hj (by have:=h.pj;omega) (.inl ej)
   have e3:hasB done n=false:=has_false.2 fun r hr=>by have:=h.ends r hr;omega
   rw[e1,e2,e3,ei,ej];simp[hf]
 ·have:=h.len
  omega
theorem Join.more {f:Bool→Bool→Bool} {a b done:List (Int×Int)} {i j i' j':Nat} {p s at':Int} {within kept:Bool} (ha:RightF 1 a) (hb:RightF 1 b) (h:Join f a b i j p done s within)
  (hlt:i<2*a.length∨j<2*b.length) (hat:at'=min (edge a i) (edge b j)) (hi':i'=if edge a i=at' then i+1 else i) (hj':j'=if edge b j=at' then j+1 else j) (hk:kept=f (decide (i' % 2=1)) (decide (j' % 2=1))) :
  1≤at'∧at'≤1099511627777∧i+j<i'+j'∧Join f a b i' j' at' (if !kept&&within then done++[(s,at'-1)]else done) (if kept && !within then at' else s) kept:=by
 have hle:at'≤1099511627777:=by
  rw[hat]
  rcases hlt with h1 | h1
  ·have:=(edge_ge ha h1).2;omega
  ·have:=(edge_ge hb h1).2;omega
 have hp:p<at':=by have:=h.ni;have:=h.nj;omega
 have hpos:1≤at':=by have:=(edge_pos ha i).1;have:=(edge_pos hb j).1;omega
 have hii:edge a i=at'→i<2*a.length:=fun e=>by
  rcases Nat.lt_or_ge i (2*a.length)with h1 | h1
  ·exact h1
  ·rw[edge_end h1]at e;omega
 have hjj:edge b j=at'→j<2*b.length:=fun e=>by
  rcases Nat.lt_or_ge j (2*b.length)with h1 | h1
  ·exact h1
  ·rw[edge_end h1]at e;omega
 have hone:edge a i=at'∨edge b j=at':=by omega
 have h_i:i'≤2*a.length∧(i'=0∨edge a (i'-1)≤at')∧at'<edge a i':=by
  by_cases e:edge a i=at'
  ·rw[if_pos e]at hi'
   subst hi';have:=edge_lt ha (hii e);exact⟨hii e,.inr (by rw[Nat.add_sub_cancel];omega),by omega⟩
  ·rw[if_neg e]at hi'
   subst hi';exact⟨h.hi,by have:=h.pi;omega,by omega⟩
 have h_j:j'≤2*b.length∧(j'=0∨edge b (j'-1)≤at')∧at'<edge b j':=by
  by_cases e:edge b j=at'
  ·rw[if_pos e]at hj'
   subst hj';have:=edge_lt hb (hjj e);exact⟨hjj e,.inr (by rw[Nat.add_sub_cancel];omega),by omega⟩
  ·rw[if_neg e]at hj'
   subst hj';exact⟨h.hj,by have:=h.pj;omega,by omega⟩
 have hmid:∀ n,p<n→n<at'→f (hasB a n) (hasB b n)=within:=fun n h1 h2=>by
  have e1:=has_at (k:=i) (n:=n) ha h.hi (by have:=h.pi;omega) (.inr (by omega));have e2:=has_at (k:=j) (n:=n) hb h.hj (by have:=h.pj;omega) (.inr (by omega));rw[e1,e2,h.w]
 have hend:f (hasB a at') (hasB b at')=kept:=by
  have e1:=has_at (k:=i') (n:=at') ha h_i.1 h_i.2.1 (.inr h_i.2.2);have e2:=has_at (k:=j') (n:=at') hb h_j.1 h_j.2.1 (.inr h_j.2.2);rw[e1,e2,hk]
 have hno:∀ n,p≤n→hasB done n=false:=fun n hn=>has_false.2 fun r hr=>by have:=h.ends r hr;omega
 have hlen:=h.len
 have hsum:i+j<i'+j':=by
  rcases hone with e | e
  ·rw[if_pos e]at hi'
   have:j≤j':=by rw[hj'];split <;> omega
   omega
  ·rw[if_pos e]at hj'
   have:i≤i':=by rw[hi'];split <;> omega
   omega
 refine⟨hpos,hle,hsum,h_i.1,h_j.1,h_i.2.1,h_j.2.1,h_i.2.2,h_j.2.2,hk,?_,?_,?_,?_,?_⟩
 ·cases kept <;> cases hw:within <;> simp only[Bool.not_true,Bool.not_false,Bool.and_true,Bool.and_false,if_true,Bool.false_eq_true,if_false] <;> try exact h.right
  obtain⟨s1,s2,s3⟩:=h.open_ hw;exact h.right.snoc (fun q hq=>s3 q hq) s1 (by show s≤at'-1;omega) (by show at'-1≤_;omega)
 ·intro r hr
  have hr':r∈done∨r.2=at'-1:=by
   split at hr
   ·rcases List.mem_append.1 hr with h1 | h1
    ·exact .inl h1
    ·rw[List.mem_singleton.1 h1];exact .inr rfl
   ·exact .inl hr
  rcases hr' with h1 | h1
  ·have:=h.ends r h1;omega
  ·omega
 ·intro hkt
  subst hkt
  cases hw:within with
  | true=>
   obtain⟨s1,s2,s3⟩:=h.open_ hw;simp only[Bool.not_true,Bool.and_false,Bool.false_and,Bool.false_eq_true,if_false];exact⟨s1,by omega,s3⟩
  | false=>
   simp only[Bool.not_true,Bool.not_false,Bool.and_false,Bool.and_true,Bool.false_eq_true,if_false,if_true];exact⟨hpos,Int.le_refl _,fun r hr=>by have:=h.ends r hr;omega⟩
 ·intro n hn
  rcases (by omega:p<n∨n≤p)with h1 | h1
  ·rcases (by omega:n<at'∨at'≤n)with h2 | h2
   ·rw[hmid n h1 h2]
    have e0:=hno n (by omega)
    cases kept <;> cases hw:within
    ·simp[e0]
    ·obtain⟨s1,s2,s3⟩:=h.open_ hw
     simp only[Bool.not_false,Bool.and_true,if_true,has_append,has_cons,has_nil,e0,Bool.false_or,Bool.or_false,Bool.false_and,decide_eq_true_eq];omega
    ·have:¬at'≤n:=by omega
     simp[e0,this]
    ·obtain⟨s1,s2,s3⟩:=h.open_ hw
     have:s≤n:=by omega
     simp[e0,this]
   ·have:n=at':=by omega
    subst this;rw[hend];have e0:=hno n (by omega)
    cases kept <;> cases hw:within
    ·simp[e0]
    ·have e3:decide (s≤n∧n≤n-1)=false:=by simp;omega
     simp only[Bool.not_false,Bool.and_true,if_true,has_append,has_cons,has_nil,e0,Bool.or_false,Bool.false_and,e3]
    ·simp[e0]
    ·obtain⟨s1,s2,s3⟩:=h.open_ hw
     have:s≤n:=by omega
     simp[e0,this]
  ·have e:=h.has n h1
   rw[← e]
   cases kept <;> cases hw:within
   ·simp
   ·have e3:decide (s≤n∧n≤at'-1)=decide (s≤n):=by
     congr 1
     exact propext ⟨fun h=>h.1,fun h=>⟨h,by omega⟩⟩
    simp only[Bool.not_false,Bool.and_true,Bool.true_and,if_true,has_append,has_cons,has_nil,Bool.or_false,Bool.false_and,e3]
   ·have:¬at'≤n:=by omega
    simp[this]
   ·simp
 ·cases kept <;> cases hw:within <;> simp only[hw,Bool.not_true,Bool.not_false,Bool.and_true,Bool.and_false,if_true,Bool.false_eq_true,if_false,List.length_append,List.length_singleton]at hlen ⊢ <;> omega
end Sp
end Go.Proofs.YtgeafpaognhokaaGreat
namespace Go.Proofs.YtgeafpaognhokaaGreat
namespace Cx
open Sp
abbrev S3:=Int×Int×Int
def part (c:List S3) (d:Int):List (Int×Int):=(c.filter fun s=>decide (s.1=d)).map fun s=>s.2
def spans (d:Int) (l:List (Int×Int)):List S3:=l.map fun r=>(d,r)
theorem part_nil (d:Int):part [] d=[]:=rfl
theorem part_append (a b:List S3) (d:Int):part (a++b) d=part a d++part b d:=by simp[part]
theorem part_cons (s:S3) (c:List S3) (d:Int):part (s::c) d=if s.1=d then s.2::part c d else part c d:=by
 unfold part
 by_cases h:s.1=d
 ·simp[h]
 ·simp[h]
theorem part_spans (d e:Int) (l:List (Int×Int)):part (spans d l) e=if d=e then l else []:=by
 induction l with
 | nil=>simp[spans,part]
 | cons r l ih=>
  show part ((d,r)::spans d l) e=_;rw[part_cons,ih]
  by_cases h:d=e <;> simp[h]
theorem part_mem {c:List S3} {d:Int} {r:Int×Int} : r∈part c d↔(d,r)∈c:=by
 unfold part;simp only[List.mem_map,List.mem_filter,decide_eq_true_eq];constructor
 ·rintro⟨s,⟨hs,he⟩,rfl⟩
  subst he;exact hs
 ·intro h
  exact⟨(d,r),⟨h,rfl⟩,rfl⟩
theorem part_len (c:List S3) (d:Int):(part c d).length≤c.length:=by
 unfold part;rw[List.length_map];exact List.length_filter_le _ _
def Cen (d:Int):Prop:=0≤d∧d<4
def RiseC:Int→List S3→Prop
 | _,[]=>True
 | m,s::c=>m≤s.1∧s.1<4∧RiseC s.1 c
structure RightC (c:List S3):Prop where
 rise:RiseC 0 c
 part:∀ d,Cen d→RightF 1 (part c d)
theorem RiseC.mem:∀ {c:List S3} {m:Int},RiseC m c→∀ s∈c,m≤s.1∧s.1<4
 | [],_,_,s,h=>by simp at h
 | t::c,m,h,s,hs=>by
  obtain⟨h1,h2,h3⟩:=h
  rcases List.mem_cons.1 hs with rfl | hs
  ·exact⟨h1,h2⟩
  ·have:=RiseC.mem h3 s hs
   omega
theorem RiseC.mono {m m':Int} (hm:m'≤m):∀ {c:List S3},RiseC m c→RiseC m' c
 | [],_=>trivial
 | _::_,h=>⟨by have:=h.1;omega,h.2.1,h.2.2⟩
theorem rise_spans {d:Int} (hd:Cen d) (l:List (Int×Int)):RiseC d (spans d l):=by
 induction l with
 | nil=>trivial
 | cons r l ih=>exact⟨Int.le_refl _,hd.2,ih⟩
def glue (p:Int→List (Int×Int)):List S3:=spans 0 (p 0)++(spans 1 (p 1)++(spans 2 (p 2)++spans 3 (p 3)))
theorem cen_cases {d:Int} (h:Cen d):d=0∨d=1∨d=2∨d=3:=by unfold Cen at h;omega
theorem part_glue (p:Int→List (Int×Int)) {d:Int} (h:Cen d):part (glue p) d=p d:=by
 unfold glue;rw[part_append,part_append,part_append,part_spans,part_spans,part_spans,part_spans]
 rcases cen_cases h with rfl | rfl | rfl | rfl <;> simp
theorem rise_cat {d:Int} (hd:Cen d) (l:List (Int×Int)) {b:List S3} (hb:RiseC (d+1) b):RiseC d (spans d l++b):=by
 induction l with
 | nil=>exact hb.mono (by omega)
 | cons r l ih=>exact⟨Int.le_refl _,hd.2,ih⟩
theorem rise_glue (p:Int→List (Int×Int)):RiseC 0 (glue p):=
 rise_cat (by unfold Cen;omega) _ (rise_cat (by unfold Cen;omega) _ (rise_cat (by unfold Cen;omega) _ (rise_spans (by unfold Cen;omega) _)))
theorem right_glue {p:Int→List (Int×Int)} (h:∀ d,Cen d→RightF 1 (p d)):RightC (glue p):=⟨rise_glue p,fun d hd=>by rw[part_glue p hd];exact h d hd⟩
theorem rise_split:∀ {c:List S3} {d:Int},RiseC d c→∃ b,c=spans d (part c d)++b∧RiseC (d+1) b∧∀ e,d<e→part c e=part b e
 | [],_,_=>⟨[],rfl,trivial,fun _ _=>rfl⟩
 | s::c,d,h=>by
  obtain⟨h1,h2,h3⟩:=h
  by_cases hs:s.1=d
  ·rw[hs]at h3
   obtain⟨b,e1,e2,e3⟩:=rise_split h3;refine⟨b,?_,e2,fun e he=>?_⟩
   ·rw[part_cons,if_pos hs]
    show s::c=(d,s.2)::(spans d (part c d)++b);rw[← e1,← hs]
   ·rw[part_cons,if_neg (by omega)]
    exact e3 e he
  ·have hno:part (s::c) d=[]:=by
    rw[part_cons,if_neg hs]
    apply List.eq_nil_iff_forall_not_mem.2
    intro r hr;have:=h3.mem _ (part_mem.1 hr);have h4:s.1≤d:=this.1;omega
   refine⟨s::c,by rw[hno];rfl,⟨by omega,h2,h3⟩,fun _ _=>rfl⟩
theorem rise_last {b:List S3} (h:RiseC 4 b):b=[]:=by
 cases b with
 | nil=>rfl
 | cons s b=>have:=h.1;have:=h.2.1;omega
theorem glue_part {c:List S3} (h:RiseC 0 c):c=glue (part c):=by
 obtain⟨b1,e1,r1,p1⟩:=rise_split h;obtain⟨b2,e2,r2,p2⟩:=rise_split r1;obtain⟨b3,e3,r3,p3⟩:=rise_split r2;obtain⟨b4,e4,r4,p4⟩:=rise_split r3;have e5:=rise_last r4;have q1:part b1 1=part c 1:=(p1 1 (by omega)).symm;have q2:part b2 2=part c 2:=((p1 2 (by omega)).trans (p2 2 (by omega))).symm;have q3:part b3 3=part c 3:=((p1 3 (by omega)).trans ((p2 3 (by omega)).trans (p3 3 (by omega)))).symm;rw[show (0:Int)+1=1 from rfl]at e2;rw[show (0:Int)+1+1=2 from rfl]at e3;rw[show (0:Int)+1+1+1=3 from rfl,e5,List.append_nil]at e4;unfold glue;rw[← q1,← q2,← q3,← e4,← e3,← e2,← e1]
theorem ext_part {a b:List S3} (ha:RiseC 0 a) (hb:RiseC 0 b) (h:∀ d,Cen d→part a d=part b d):a=b:=by
 rw[glue_part ha,glue_part hb];unfold glue;rw[h 0 (by unfold Cen;omega),h 1 (by unfold Cen;omega),h 2 (by unfold Cen;omega),h 3 (by unfold Cen;omega)]
def hasC (c:List S3) (d n:Int):Bool:=hasB (part c d) n
theorem extC {a b:List S3} (ha:RightC a) (hb:RightC b) (h:∀ d n,Cen d→hasC a d n=hasC b d n):a=b:=
 ext_part ha.rise hb.rise fun d hd=>ext (ha.part d hd) (hb.part d hd) fun n=>h d n hd
structure PutC (f:Bool→Bool→Bool) (a b l:List S3):Prop where
 right:RightC l
 has:∀ d n,Cen d→hasC l d n=f (hasC a d n) (hasC b d n)
theorem PutC.eq {f:Bool→Bool→Bool} {a b l l':List S3} (h:PutC f a b l) (h':PutC f a b l'):l=l':=extC h.right h'.right fun d n hd=>by rw[h.has d n hd,h'.has d n hd]
theorem PutC.of {f:Bool→Bool→Bool} {a b:List S3} {p:Int→List (Int×Int)} (h:∀ d,Cen d→RightF 1 (p d)∧∀ n,hasB (p d) n=f (hasC a d n) (hasC b d n)):PutC f a b (glue p):=
 ⟨right_glue fun d hd=>(h d hd).1,fun d n hd=>by unfold hasC;rw[part_glue p hd];exact (h d hd).2 n⟩
end Cx
end Go.Proofs.YtgeafpaognhokaaGreat
namespace Go.Proofs.YtgeafpaognhokaaGreat
namespace Cs
open Classical
section
variable {α κ:Type} (key:α→κ) (lt:κ→κ→Prop) (st:Option α→Option α→Option α)
noncomputable def mrg:List α→List α→List α
 | [],[]=>[]
 | x::a,[]=>(st (some x) none).toList++mrg a []
 | [],y::b=>(st none (some y)).toList++mrg [] b
 | x::a,y::b=>
  if lt (key x) (key y)then (st (some x) none).toList++mrg a (y::b)
  else if lt (key y) (key x)then (st none (some y)).toList++mrg (x::a) b
  else (st (some x) (some y)).toList++mrg a b
termination_by a b=>a.length+b.length
noncomputable def look (l:List α) (k:κ):Option α:=l.find? fun x=>decide (key x=k)
end
section
variable {α κ:Type} {key:α→κ} {lt:κ→κ→Prop} {st:Option α→Option α→Option α}
theorem look_nil (k:κ):look key [] k=none:=rfl
theorem look_cons_eq {x:α} {k:κ} (h:key x=k) (l:List α):look key (x::l) k=some x:=by
 unfold look;rw[List.find?_cons_of_pos (by simpa using h)]
theorem look_cons_ne {x:α} {k:κ} (h:¬key x=k) (l:List α):look key (x::l) k=look key l k:=by
 unfold look;rw[List.find?_cons_of_neg (by simpa using h)]
theorem look_none {l:List α} {k:κ} (h:∀ x∈l,¬key x=k):look key l k=none:=by
 unfold look;rw[List.find?_eq_none];intro x hx
 simpa using h x hx
theorem look_mem {l:List α} {k:κ} {x:α} (h:look key l k=some x):x∈l∧key x=k:=by
 unfold look at h;exact⟨List.mem_of_find?_eq_some h,by simpa using List.find?_some h⟩
theorem look_iff (T:Tot lt):∀ {l:List α},l.Pairwise (fun x y=>lt (key x) (key y))→∀ {x:α} {k:κ},(look key l k=some x↔x∈l∧key x=k)
 | [],_,x,k=>by simp[look]
 | y::l,h,x,k=>by
  rw[List.pairwise_cons]at h
  by_cases hy:key y=k
  ·rw[look_cons_eq hy]
   constructor
   ·intro e
    injection e with e;subst e;exact⟨List.mem_cons_self,hy⟩
   ·rintro⟨h1,h2⟩
    rcases List.mem_cons.1 h1 with rfl | h1
    ·rfl
    ·have:=h.1 x h1
     rw[hy,h2]at this;exact absurd this (T.irr _)
  ·rw[look_cons_ne hy,look_iff T h.2]
   constructor
   ·rintro⟨h1,h2⟩
    exact⟨List.mem_cons_of_mem _ h1,h2⟩
   ·rintro⟨h1,h2⟩
    rcases List.mem_cons.1 h1 with rfl | h1
    ·exact absurd h2 hy
    ·exact⟨h1,h2⟩
theorem mrg_nil:mrg key lt st [] []=[]:=by rw[mrg]
theorem mrg_left (x:α) (a:List α):mrg key lt st (x::a) []=(st (some x) none).toList++mrg key lt st a []:=by rw[mrg]
theorem mrg_right (y:α) (b:List α):mrg key lt st [] (y::b)=(st none (some y)).toList++mrg key lt st [] b:=by rw[mrg]
theorem mrg_lt {x y:α} (h:lt (key x) (key y)) (a b:List α):mrg key lt st (x::a) (y::b)=(st (some x) none).toList++mrg key lt st a (y::b):=by
 rw[mrg,if_pos h]
theorem mrg_gt {x y:α} (h:¬lt (key x) (key y)) (h2:lt (key y) (key x)) (a b:List α):mrg key lt st (x::a) (y::b)=(st none (some y)).toList++mrg key lt st (x::a) b:=by
 rw[mrg,if_neg h,if_pos h2]
theorem mrg_eq {x y:α} (h:¬lt (key x) (key y)) (h2:¬lt (key y) (key x)) (a b:List α):mrg key lt st (x::a) (y::b)=(st (some x) (some y)).toList++mrg key lt st a b:=by
 rw[mrg,if_neg h,if_neg h2]
inductive Step (key:α→κ) (lt:κ→κ→Prop):List α→List α→Option α→Option α→List α→List α→Prop where
 | left (x:α) (a:List α):Step key lt (x::a) [] (some x) none a []
 | right (y:α) (b:List α):Step key lt [] (y::b) none (some y) [] b
 | lt {x y:α} (a b:List α):lt (key x) (key y)→Step key lt (x::a) (y::b) (some x) none a (y::b)
 | gt {x y:α} (a b:List α):¬lt (key x) (key y)→lt (key y) (key x)→Step key lt (x::a) (y::b) none (some y) (x::a) b
 | eq {x y:α} (a b:List α):¬lt (key x) (key y)→¬lt (key y) (key x)→Step key lt (x::a) (y::b) (some x) (some y) a b
theorem step_some (a b:List α) (h:¬(a=[]∧b=[])):∃ ox oy a' b',Step key lt a b ox oy a' b':=by
 rcases a with _ | ⟨x,a⟩
 ·rcases b with _ | ⟨y,b⟩
  ·exact absurd ⟨rfl,rfl⟩ h
  ·exact⟨_,_,_,_,.right y b⟩
 ·rcases b with _ | ⟨y,b⟩
  ·exact⟨_,_,_,_,.left x a⟩
  ·by_cases h1:lt (key x) (key y)
   ·exact⟨_,_,_,_,.lt a b h1⟩
   ·by_cases h2:lt (key y) (key x)
    ·exact⟨_,_,_,_,.gt a b h1 h2⟩
    ·exact⟨_,_,_,_,.eq a b h1 h2⟩
theorem Step.mrg {a b a' b':List α} {ox oy:Option α} (h:Step key lt a b ox oy a' b'):mrg key lt st a b=(st ox oy).toList++Cs.mrg key lt st a' b':=by
 cases h with
 | left=>exact mrg_left _ _
 | right=>exact mrg_right _ _
 | lt h1=>exact mrg_lt (by assumption) _ _
 | gt h1 h2=>exact mrg_gt (by assumption) (by assumption) _ _
 | eq h1 h2=>exact mrg_eq (by assumption) (by assumption) _ _
theorem Step.less {a b a' b':List α} {ox oy:Option α} (h:Step key lt a b ox oy a' b'):a'.length+b'.length<a.length+b.length:=by
 cases h <;> simp <;> omega
theorem mrg_ind (P:List α→List α→Prop) (h0:P [] []) (h1:∀ a b ox oy a' b',Step key lt a b ox oy a' b'→P a' b'→P a b) (a b:List α):P a b:=by
 obtain⟨n,hn⟩:∃ n,n=a.length+b.length:=⟨_,rfl⟩
 induction n using Nat.strongRecOn generalizing a b with
 | ind n ih=>
  by_cases h:a=[]∧b=[]
  ·rw[h.1,h.2];exact h0
  ·obtain⟨ox,oy,a',b',hs⟩:=step_some (key:=key) (lt:=lt) a b h
   exact h1 _ _ _ _ _ _ hs (ih _ (by rw[hn];exact hs.less) a' b' rfl)
structure Keeps (key:α→κ) (st:Option α→Option α→Option α):Prop where
 zero:st none none=none
 left:∀ x z,st (some x) none=some z→key z=key x
 right:∀ y z,st none (some y)=some z→key z=key y
 both:∀ x y z,key x=key y→st (some x) (some y)=some z→key z=key x
def Up (key:α→κ) (lt:κ→κ→Prop) (l:List α):Prop:=l.Pairwise fun x y=>lt (key x) (key y)
theorem Step.up (T:Tot lt) {a b a' b':List α} {ox oy:Option α} (h:Step key lt a b ox oy a' b') (ha:Up key lt a) (hb:Up key lt b) :
  Up key lt a'∧Up key lt b'∧∃ k,(∀ x,ox=some x→key x=k)∧(∀ y,oy=some y→key y=k)∧(∀ x∈a',lt k (key x))∧(∀ y∈b',lt k (key y))∧(∀ j,look key a j=if j=k then ox else look key a' j)∧(∀ j,look key b j=if j=k then oy else look key b' j)∧¬(ox=none∧oy=none):=by
 have hl:∀ {x:α} {a:List α},Up key lt (x::a)→∀ j,look key (x::a) j=if j=key x then some x else look key a j:=fun {x a} _ j=>by
  by_cases e:j=key x
  ·rw[if_pos e,look_cons_eq e.symm]
  ·rw[if_neg e,look_cons_ne (fun h=>e h.symm)]
 have hn:∀ {a:List α} {k:κ},(∀ x∈a,lt k (key x))→∀ j,look key a j=if j=k then none else look key a j:=fun {a k} h j=>by
  by_cases e:j=k
  ·rw[if_pos e]
   exact look_none fun x hx hk=>T.irr k (by have:=h x hx;rwa [hk,e]at this)
  ·rw[if_neg e]
 cases h with
 | left x=>
  have h1:=List.pairwise_cons.1 ha;exact⟨h1.2,hb,key x,by simp,by simp,h1.1,by simp,hl ha,hn (by simp),by simp⟩
 | right y=>
  have h1:=List.pairwise_cons.1 hb;exact⟨ha,h1.2,key y,by simp,by simp,by simp,h1.1,hn (by simp),hl hb,by simp⟩
 | @lt x y a b hlt=>
  have h1:=List.pairwise_cons.1 ha;have h2:=List.pairwise_cons.1 hb
  have h3:∀ z∈y::b,lt (key x) (key z):=fun z hz=>by
   rcases List.mem_cons.1 hz with rfl | hz
   ·exact hlt
   ·exact T.tr _ _ _ hlt (h2.1 z hz)
  exact⟨h1.2,hb,key x,by simp,by simp,h1.1,h3,hl ha,hn h3,by simp⟩
 | @gt x y a b hn1 hlt=>
  have h1:=List.pairwise_cons.1 ha;have h2:=List.pairwise_cons.1 hb
  have h3:∀ z∈x::a,lt (key y) (key z):=fun z hz=>by
   rcases List.mem_cons.1 hz with rfl | hz
   ·exact hlt
   ·exact T.tr _ _ _ hlt (h1.1 z hz)
  exact⟨ha,h2.2,key y,by simp,by simp,h3,h2.1,hn h3,hl hb,by simp⟩
 | @eq x y a b hn1 hn2=>
  have h1:=List.pairwise_cons.1 ha;have h2:=List.pairwise_cons.1 hb
  have e:key x=key y:=by
   rcases T.tri (key x) (key y)with h | h | h
   ·exact absurd h hn1
   ·exact h
   ·exact absurd h hn2
  refine⟨h1.2,h2.2,key x,by simp,fun z hz=>?_,h1.1,fun z hz=>?_,hl ha,fun j=>?_,by simp⟩
  ·injection hz with hz
   rw[← hz,e]
  ·rw[e];exact h2.1 z hz
  ·rw[e];exact hl hb j
theorem Keeps.at_ {ox oy:Option α} {z:α} (K:Keeps key st) {k:κ} (hx:∀ x,ox=some x→key x=k) (hy:∀ y,oy=some y→key y=k) (h:st ox oy=some z):key z=k:=by
 cases ox with
 | none=>
  cases oy with
  | none=>rw[K.zero]at h;cases h
  | some y=>rw[K.right y z h];exact hy y rfl
 | some x=>
  cases oy with
  | none=>rw[K.left x z h];exact hx x rfl
  | some y=>rw[K.both x y z ((hx x rfl).trans (hy y rfl).symm) h];exact hx x rfl
theorem look_put {o:Option α} {l:List α} {k:κ} (h:∀ z,o=some z→key z=k) (hl:∀ z∈l,¬key z=k) (j:κ):look key (o.toList++l) j=if j=k then o else look key l j:=by
 cases o with
 | none=>
  show look key l j=_
  by_cases e:j=k
  ·rw[if_pos e,look_none fun z hz hk=>hl z hz (hk.trans e)]
  ·rw[if_neg e]
 | some z=>
  show look key (z::l) j=_
  by_cases e:j=k
  ·rw[if_pos e,look_cons_eq ((h z rfl).trans e.symm)]
  ·rw[if_neg e,look_cons_ne fun hz=>e (hz.symm.trans (h z rfl))]
theorem mrg_all (T:Tot lt) (K:Keeps key st) (a b:List α):Up key lt a→Up key lt b→Up key lt (mrg key lt st a b)∧(∀ k,(∀ x∈a,lt k (key x))→(∀ y∈b,lt k (key y))→∀ z∈mrg key lt st a b,lt k (key z))∧∀ k,look key (mrg key lt st a b) k=st (look key a k) (look key b k):=by
 refine mrg_ind (key:=key) (lt:=lt) (fun a b=>Up key lt a→Up key lt b→Up key lt (mrg key lt st a b)∧(∀ k,(∀ x∈a,lt k (key x))→(∀ y∈b,lt k (key y))→∀ z∈mrg key lt st a b,lt k (key z))∧∀ k,look key (mrg key lt st a b) k=st (look key a k) (look key b k)) ?_ ?_ a b
 ·intro _ _
  rw[mrg_nil];exact⟨List.Pairwise.nil,by simp,fun k=>by rw[look_nil];exact K.zero.symm⟩
 ·intro a b ox oy a' b' hs ih ha hb
  obtain⟨ha',hb',k,hx,hy,hka,hkb,la,lb,hno⟩:=hs.up T ha hb;obtain⟨i1,i2,i3⟩:=ih ha' hb';have hz:∀ z,st ox oy=some z→key z=k:=fun z h=>K.at_ hx hy h;have hr:=i2 k hka hkb;rw[hs.mrg];refine⟨?_,?_,fun j=>?_⟩
  ·cases ho:st ox oy with
   | none=>exact i1
   | some z=>
    refine List.pairwise_cons.2 ⟨fun y hy=>?_,i1⟩;rw[hz z ho];exact hr y hy
  ·intro j h1 h2 z hzm
   have hjk:lt j k:=by
    cases hox:ox with
    | some x=>
     rw[← hx x hox]
     have:look key a k=some x:=by rw[la,if_pos rfl,hox]
     exact h1 x (look_mem this).1
    | none=>
     cases hoy:oy with
     | some y=>
      rw[← hy y hoy]
      have:look key b k=some y:=by rw[lb,if_pos rfl,hoy]
      exact h2 y (look_mem this).1
     | none=>exact absurd ⟨hox,hoy⟩ hno
   rcases List.mem_append.1 hzm with hzm | hzm
   ·cases ho:st ox oy with
    | none=>rw[ho]at hzm;cases hzm
    | some y=>
     rw[ho]at hzm;rw[List.mem_singleton.1 hzm,hz y ho];exact hjk
   ·exact T.tr _ _ _ hjk (hr z hzm)
  ·rw[look_put hz (fun z hzm e=>T.irr k (by have:=hr z hzm;rwa [e]at this)) j,la,lb]
   by_cases e:j=k
   ·rw[if_pos e,if_pos e,if_pos e]
   ·rw[if_neg e,if_neg e,if_neg e]
    exact i3 j
theorem mrg_from (_K:st none none=none) (a b:List α):∀ z∈mrg key lt st a b,∃ ox oy,st ox oy=some z∧(∀ x,ox=some x→x∈a)∧(∀ y,oy=some y→y∈b)∧¬(ox=none∧oy=none):=by
 refine mrg_ind (key:=key) (lt:=lt) (fun a b=>∀ z∈mrg key lt st a b,∃ ox oy,st ox oy=some z∧(∀ x,ox=some x→x∈a)∧(∀ y,oy=some y→y∈b)∧¬(ox=none∧oy=none)) ?_ ?_ a b
 ·intro z hz
  rw[mrg_nil]at hz
  cases hz
 ·intro a b ox oy a' b' hs ih z hz
  rw[hs.mrg]at hz
  have hsub:(∀ x∈a',x∈a)∧(∀ y∈b',y∈b)∧(∀ x,ox=some x→x∈a)∧(∀ y,oy=some y→y∈b)∧¬(ox=none∧oy=none):=by
   cases hs <;> simp +contextual
  rcases List.mem_append.1 hz with hz | hz
  ·cases ho:st ox oy with
   | none=>rw[ho]at hz;cases hz
   | some y=>
    rw[ho]at hz;rw[List.mem_singleton.1 hz];exact⟨ox,oy,ho,hsub.2.2.1,hsub.2.2.2.1,hsub.2.2.2.2⟩
  ·obtain⟨px,py,h1,h2,h3,h4⟩:=ih z hz
   exact⟨px,py,h1,fun x hx=>hsub.1 x (h2 x hx),fun y hy=>hsub.2.1 y (h3 y hy),h4⟩
theorem mrg_weight (wt:α→Nat) (h:∀ x y z,st x y=some z→wt z≤(x.map wt).getD 0+(y.map wt).getD 0) (a b:List α):((mrg key lt st a b).map wt).sum≤(a.map wt).sum+(b.map wt).sum:=by
 refine mrg_ind (key:=key) (lt:=lt) (fun a b=>((mrg key lt st a b).map wt).sum≤(a.map wt).sum+(b.map wt).sum) ?_ ?_ a b
 ·rw[mrg_nil];simp
 ·intro a b ox oy a' b' hs ih
  rw[hs.mrg,List.map_append,List.sum_append]
  have h1:((st ox oy).toList.map wt).sum≤(ox.map wt).getD 0+(oy.map wt).getD 0:=by
   cases ho:st ox oy with
   | none=>simp
   | some z=>simpa using h ox oy z ho
  have h2:(ox.map wt).getD 0+(a'.map wt).sum=(a.map wt).sum∧(oy.map wt).getD 0+(b'.map wt).sum=(b.map wt).sum:=by
   cases hs <;> simp
  omega
end
end Cs
end Go.Proofs.YtgeafpaognhokaaGreat
namespace Go.Proofs.YtgeafpaognhokaaGreat
namespace Cs
open Tr Cx Classical
def ltD (x y:Int×Int):Prop:=x.1<y.1∨(x.1=y.1∧x.2<y.2)
theorem tot_dot:Tot ltD:=by
 refine⟨fun a h=>?_,fun a b c h1 h2=>?_,fun a b=>?_⟩
 ·unfold ltD at h;omega
 ·unfold ltD at *;omega
 ·unfold ltD
  rcases a with ⟨a1,a2⟩
  rcases b with ⟨b1,b2⟩
  simp only[Prod.mk.injEq];omega
def keyE (e:E):Int×Int:=(e.a,e.n)
theorem ltE_key {x y:E} : ltE x y↔ltD (keyE x) (keyE y):=ltE_iff
theorem upE {es:List E} (h:es.Pairwise ltE):Up keyE ltD es:=h.imp fun h=>ltE_key.1 h
def ltV (x y:E):Prop:=x.v<y.v∨(x.v=y.v∧ltS x.s y.s)
theorem ltV_irr (x:E):¬ltV x x:=fun h=>by
 rcases h with h | h
 ·omega
 ·exact tot_str.irr _ h.2
theorem ltV_tr {x y z:E} (h1:ltV x y) (h2:ltV y z):ltV x z:=by
 unfold ltV at *
 rcases h1 with h1 | h1 <;> rcases h2 with h2 | h2
 ·exact .inl (by omega)
 ·exact .inl (by omega)
 ·exact .inl (by omega)
 ·exact .inr ⟨by omega,tot_str.tr _ _ _ h1.2 h2.2⟩
theorem ltV_tri (x y:E):ltV x y∨(x.v=y.v∧x.s=y.s)∨ltV y x:=by
 unfold ltV
 rcases tot_int.tri x.v y.v with h | h | h
 ·exact .inl (.inl h)
 ·rcases tot_str.tri x.s y.s with h2 | h2 | h2
  ·exact .inl (.inr ⟨h,h2⟩)
  ·exact .inr (.inl ⟨h,h2⟩)
  ·exact .inr (.inr (.inr ⟨h.symm,h2⟩))
 ·exact .inr (.inr (.inl h))
theorem ltV_le {x y z:E} (h1:¬ltV y x) (h2:¬ltV z y):¬ltV z x:=fun h3=>by
 rcases ltV_tri x y with h4 | h4 | h4
 ·exact h2 (ltV_tr h3 h4)
 ·apply h2
  unfold ltV at h3 ⊢;rw[← h4.1,← h4.2];exact h3
 ·exact h1 h4
noncomputable def grE (x y:E):E:=if ltV x y then y else x
theorem grE_or (x y:E):(ltV x y∧grE x y=y)∨(¬ltV x y∧grE x y=x):=by
 unfold grE
 by_cases h:ltV x y
 ·exact .inl ⟨h,if_pos h⟩
 ·exact .inr ⟨h,if_neg h⟩
theorem grE_self (x:E):grE x x=x:=by unfold grE;rw[if_neg (ltV_irr x)]
theorem E.ext {x y:E} (h1:keyE x=keyE y) (h2:x.v=y.v) (h3:x.s=y.s):x=y:=by
 cases x;cases y
 simp only[keyE,Prod.mk.injEq]at h1
 simp_all
theorem grE_comm {x y:E} (h:keyE x=keyE y):grE x y=grE y x:=by
 rcases grE_or x y with ⟨h1,e1⟩ | ⟨h1,e1⟩ <;> rcases grE_or y x with ⟨h2,e2⟩ | ⟨h2,e2⟩
 ·exact absurd (ltV_tr h1 h2) (ltV_irr _)
 ·rw[e1,e2]
 ·rw[e1,e2]
 ·rw[e1,e2]
  rcases ltV_tri x y with h3 | h3 | h3
  ·exact absurd h3 h1
  ·exact E.ext h h3.1 h3.2
  ·exact absurd h3 h2
theorem grE_assoc (x y z:E):grE (grE x y) z=grE x (grE y z):=by
 rcases grE_or x y with ⟨h1,e1⟩ | ⟨h1,e1⟩ <;> rcases grE_or y z with ⟨h2,e2⟩ | ⟨h2,e2⟩ <;> rw[e1,e2]
 ·rcases grE_or x z with ⟨h3,e3⟩ | ⟨h3,e3⟩
  ·rw[e3]
  ·exact absurd (ltV_tr h1 h2) h3
 ·exact e1.symm
 ·rw[e1]
  rcases grE_or x z with ⟨h3,e3⟩ | ⟨h3,e3⟩
  ·exact absurd h3 (ltV_le h2 h1)
  ·exact e3
theorem grE_key {x y:E} (h:keyE x=keyE y):keyE (grE x y)=keyE x:=by
 rcases grE_or x y with ⟨_,e⟩ | ⟨_,e⟩ <;> rw[e]
 exact h.symm
noncomputable def stE (ca cb:List S3):Option E→Option E→Option E
 | some x,some y=>some (grE x y)
 | some x,none=>if hasC cb x.a x.n=true then none else some x
 | none,some y=>if hasC ca y.a y.n=true then none else some y
 | none,none=>none
theorem stE_left (ca cb:List S3) (x:E):stE ca cb (some x) none=if hasC cb x.a x.n=true then none else some x:=rfl
theorem stE_right (ca cb:List S3) (y:E):stE ca cb none (some y)=if hasC ca y.a y.n=true then none else some y:=rfl
theorem stE_both (ca cb:List S3) (x y:E):stE ca cb (some x) (some y)=some (grE x y):=rfl
theorem keepsE (ca cb:List S3):Keeps keyE (stE ca cb):=by
 refine⟨rfl,fun x z h=>?_,fun y z h=>?_,fun x y z hk h=>?_⟩
 ·rw[stE_left]at h
  split at h
  ·cases h
  ·injection h with h;rw[h]
 ·rw[stE_right]at h
  split at h
  ·cases h
  ·injection h with h;rw[h]
 ·rw[stE_both]at h
  injection h with h;rw[← h];exact grE_key hk
theorem stE_or {ca cb:List S3} {ox oy:Option E} {z:E} (h:stE ca cb ox oy=some z):ox=some z∨oy=some z:=by
 cases ox with
 | none=>
  cases oy with
  | none=>cases h
  | some y=>
   rw[stE_right]at h
   split at h
   ·cases h
   ·exact .inr h
 | some x=>
  cases oy with
  | none=>
   rw[stE_left]at h
   split at h
   ·cases h
   ·exact .inl h
  | some y=>
   rw[stE_both]at h;injection h with h
   rcases grE_or x y with ⟨_,e⟩ | ⟨_,e⟩ <;> rw[e]at h <;> rw[h]
   ·exact .inr rfl
   ·exact .inl rfl
abbrev Kd:=ByteArray×T
def keyK (k:Kd):ByteArray:=k.1
def EmptyT (t:T):Prop:=t.es=[]∧t.ks=[]
theorem EmptyT.eq {t:T} (h:EmptyT t):t=none_:=by rw[← T.eta t,h.1,h.2];rfl
theorem empty_none:EmptyT none_:=⟨rfl,rfl⟩
def treeOf:Option Kd→T | some k=>k.2 | none=>none_
def nameOf:Option Kd→Option Kd→ByteArray
 | some x,_=>x.1
 | none,some y=>y.1
 | none,none=>⟨#[]⟩
noncomputable def stK (f:T→T→T) (x y:Option Kd):Option Kd:=if EmptyT (f (treeOf x) (treeOf y))then none else some (nameOf x y,f (treeOf x) (treeOf y))
theorem stK_some {f:T→T→T} {x y:Option Kd} {z:Kd} (h:stK f x y=some z):¬EmptyT (f (treeOf x) (treeOf y))∧z=(nameOf x y,f (treeOf x) (treeOf y)):=by
 unfold stK at h
 split at h
 ·cases h
 ·rename_i hn
  injection h with h;exact⟨hn,h.symm⟩
theorem keepsK {f:T→T→T} (h0:f none_ none_=none_):Keeps keyK (stK f):=by
 refine⟨?_,fun x z h=>?_,fun y z h=>?_,fun x y z hk h=>?_⟩
 ·unfold stK treeOf
  rw[h0,if_pos empty_none]
 ·rw[(stK_some h).2];rfl
 ·rw[(stK_some h).2];rfl
 ·rw[(stK_some h).2];rfl
noncomputable def joinT:Nat→List S3→List S3→T→T→T
 | 0,_,_,_,_=>none_
 | d+1,ca,cb,a,b=>.mk (mrg keyE ltD (stE ca cb) a.es b.es) (mrg keyK ltS (stK (joinT d ca cb)) a.ks b.ks)
theorem joinT_none:∀ (d:Nat) (ca cb:List S3),joinT d ca cb none_ none_=none_
 | 0,_,_=>rfl
 | d+1,ca,cb=>by
  unfold joinT none_;show T.mk (mrg keyE ltD (stE ca cb) [] []) (mrg keyK ltS (stK (joinT d ca cb)) [] [])=_;rw[mrg_nil,mrg_nil]
theorem stE_le {ca cb:List S3} (x y:Option E) (z:E) (_:stE ca cb x y=some z) (hn:¬(x=none∧y=none)):1≤(x.map fun _=>1).getD 0+(y.map fun _=>1).getD 0:=by
 cases x <;> cases y <;> simp_all
theorem joinT_nodes:∀ (d:Nat) (ca cb:List S3) (a b:T),nodes (joinT d ca cb a b)≤nodes a+nodes b
 | 0,ca,cb,a,b=>by
  show nodes none_≤_;unfold none_;rw[nodes_mk];simp
 | d+1,ca,cb,.mk es ks,.mk es2 ks2=>by
  show nodes (T.mk (mrg keyE ltD (stE ca cb) es es2) (mrg keyK ltS (stK (joinT d ca cb)) ks ks2))≤_;rw[nodes_mk,nodes_mk,nodes_mk]
  have h1:=mrg_weight (key:=keyE) (lt:=ltD) (st:=stE ca cb) (fun _=>1) (fun x y z h=>by
   refine stE_le x y z h fun hn=>?_;rw[hn.1,hn.2]at h
   cases h) es es2
  have h2:=mrg_weight (α:=ByteArray×T) (key:=keyK) (lt:=ltS) (st:=stK (joinT d ca cb)) (fun k:ByteArray×T=>1+nodes k.2) (fun x y z h=>by
   obtain⟨hne,rfl⟩:=stK_some h;have:=joinT_nodes d ca cb (treeOf x) (treeOf y)
   have hz:nodes none_=0:=by unfold none_;rw[nodes_mk];rfl
   cases x with
   | none=>
    cases y with
    | none=>exact absurd (by unfold treeOf;rw[joinT_none];exact empty_none) hne
    | some y=>simp[treeOf,hz]at this ⊢;omega
   | some x=>
    cases y with
    | none=>simp[treeOf,hz]at this ⊢;omega
    | some y=>simp[treeOf]at this ⊢;omega) ks ks2
  have e1:∀ l:List E,(l.map fun _=>1).sum=l.length:=fun l=>by
   induction l with
   | nil=>rfl
   | cons k l ih=>simp only[List.map_cons,List.sum_cons,List.length_cons,ih];omega
  have e2:∀ l:List (ByteArray×T),(l.map fun k:ByteArray×T=>1+nodes k.2).sum=l.length+(l.map fun k:ByteArray×T=>nodes k.2).sum:=fun l=>by
   induction l with
   | nil=>rfl
   | cons k l ih=>simp only[List.map_cons,List.sum_cons,List.length_cons,ih];omega
  rw[e1,e1,e1]at h1;rw[e2,e2,e2]at h2;omega
noncomputable def entAt (t:T) (p:List ByteArray) (q:Int×Int):Option E:=look keyE (getT t p).es q
theorem entAt_key {t:T} {p:List ByteArray} {q:Int×Int} {e:E} (h:entAt t p q=some e):keyE e=q:=(look_mem h).2
theorem getT_no:∀ p:List ByteArray,getT none_ p=none_
 | []=>rfl
 | k::p=>by
  unfold getT;show getT (kidAt [] k) p=none_;exact getT_no p
theorem entAt_none (p:List ByteArray) (q:Int×Int):entAt none_ p q=none:=by
 unfold entAt;rw[getT_no];rfl
def RT (d:Nat) (t:T):Prop:=RightT d t∨t=none_
theorem RT.succ {d:Nat} {t:T} (h:RT (d+1) t):RightT (d+1) t:=by
 rcases h with h | rfl
 ·exact h
 ·exact RightT.none
theorem RT.kid {d:Nat} {es:List E} {ks:List Kd} (h:RightT (d+1) (.mk es ks)) (k:ByteArray):RT d (kidAt ks k):=by
 rcases kidAt_mem (ks:=ks) (key:=k)with ⟨x,h1,_,h3⟩ | ⟨_,h2⟩
 ·rw[h3];exact .inl (h.2.2.2 x h1).2.2
 ·rw[h2];exact .inr rfl
theorem kidAt_look:∀ (ks:List Kd) (k:ByteArray),kidAt ks k=treeOf (look keyK ks k)
 | [],k=>rfl
 | x::ks,k=>by
  unfold kidAt
  by_cases h:x.1=k
  ·rw[if_pos h,look_cons_eq (key:=keyK) h];rfl
  ·rw[if_neg h,look_cons_ne (key:=keyK) h];exact kidAt_look ks k
theorem kid_join {d:Nat} (ca cb:List S3) {ks ks2:List Kd} (h1:ks.Pairwise fun x y=>ltS x.1 y.1) (h2:ks2.Pairwise fun x y=>ltS x.1 y.1) (k:ByteArray):kidAt (mrg keyK ltS (stK (joinT d ca cb)) ks ks2) k=joinT d ca cb (kidAt ks k) (kidAt ks2 k):=by
 rw[kidAt_look,kidAt_look,kidAt_look,(mrg_all (key:=keyK) tot_str (keepsK (joinT_none d ca cb)) ks ks2 h1 h2).2.2 k];unfold stK
 split
 ·rename_i h
  rw[h.eq];rfl
 ·rfl
theorem ent_join:∀ (d:Nat) (ca cb:List S3) (a b:T),RT d a→RT d b→∀ (p:List ByteArray) (q:Int×Int),entAt (joinT d ca cb a b) p q=stE ca cb (entAt a p q) (entAt b p q)
 | 0,ca,cb,a,b,ha,hb,p,q=>by
  have e:∀ t:T,RT 0 t→t=none_:=fun t h=>by
   rcases h with h | h
   ·exact h.elim
   ·exact h
  rw[e a ha,e b hb,entAt_none];show entAt none_ p q=_;rw[entAt_none];rfl
 | d+1,ca,cb,.mk es ks,.mk es2 ks2,ha,hb,[],q=>by
  show look keyE (mrg keyE ltD (stE ca cb) es es2) q=stE ca cb (look keyE es q) (look keyE es2 q);exact (mrg_all (key:=keyE) tot_dot (keepsE ca cb) es es2 (upE ha.succ.2.1) (upE hb.succ.2.1)).2.2 q
 | d+1,ca,cb,.mk es ks,.mk es2 ks2,ha,hb,k::p,q=>by
  show entAt (kidAt (mrg keyK ltS (stK (joinT d ca cb)) ks ks2) k) p q=stE ca cb (entAt (kidAt ks k) p q) (entAt (kidAt ks2 k) p q);rw[kid_join ca cb ha.succ.2.2.1 hb.succ.2.2.1];exact ent_join d ca cb _ _ (RT.kid ha.succ k) (RT.kid hb.succ k) p q
theorem right_join:∀ (d:Nat) (ca cb:List S3) (a b:T),RightT d a→RightT d b→RightT d (joinT d ca cb a b)
 | 0,_,_,_,_,ha,_=>ha.elim
 | d+1,ca,cb,.mk es ks,.mk es2 ks2,ha,hb=>by
  have m1:=mrg_all (key:=keyE) tot_dot (keepsE ca cb) es es2 (upE ha.2.1) (upE hb.2.1);have m2:=mrg_all (key:=keyK) tot_str (keepsK (joinT_none d ca cb)) ks ks2 ha.2.2.1 hb.2.2.1;refine⟨fun e he=>?_,?_,?_,fun k hk=>?_⟩
  ·obtain⟨ox,oy,h1,h2,h3,_⟩:=mrg_from (key:=keyE) (lt:=ltD) (st:=stE ca cb) rfl es es2 e he
   rcases stE_or h1 with h | h
   ·exact ha.1 e (h2 e h)
   ·exact hb.1 e (h3 e h)
  ·exact m1.1.imp fun h=>ltE_key.2 h
  ·exact m2.1
  ·obtain⟨ox,oy,h1,h2,h3,h4⟩:=mrg_from (key:=keyK) (lt:=ltS) (st:=stK (joinT d ca cb)) (keepsK (joinT_none d ca cb)).zero ks ks2 k hk
   obtain⟨hne,rfl⟩:=stK_some h1
   have hT:∀ (o:Option Kd) (l:List Kd),(∀ x,o=some x→x∈l)→(∀ x∈l,RightT d x.2)→RT d (treeOf o):=fun o l ho hl=>by
    cases o with
    | none=>exact .inr rfl
    | some x=>exact .inl (hl x (ho x rfl))
   have hx:=hT ox ks h2 fun x hx=>(ha.2.2.2 x hx).2.2;have hy:=hT oy ks2 h3 fun x hx=>(hb.2.2.2 x hx).2.2;refine⟨?_,hne,?_⟩
   ·cases ox with
    | some x=>exact (ha.2.2.2 x (h2 x rfl)).1
    | none=>
     cases oy with
     | some y=>exact (hb.2.2.2 y (h3 y rfl)).1
     | none=>exact absurd ⟨rfl,rfl⟩ h4
   ·cases d with
    | zero=>
     have e:∀ t:T,RT 0 t→t=none_:=fun t h=>by
      rcases h with h | h
      ·exact h.elim
      ·exact h
     rw[e _ hx,e _ hy,joinT_none]at hne;exact absurd empty_none hne
    | succ d=>exact right_join (d+1) ca cb _ _ hx.succ hy.succ
theorem leaf_iff:∀ {d:Nat} {t:T},RightT d t→∀ (p:List ByteArray) (e:E),((p,e)∈leaves t↔entAt t p (keyE e)=some e)
 | 0,_,h,_,_=>h.elim
 | d+1,.mk es ks,h,[],e=>by
  have h1:(([]:List ByteArray),e)∈leaves (.mk es ks)↔e∈es:=by
   have:=rootE_leaves es ks;constructor
   ·intro hm
    rw[← this];unfold rootE;rw[List.mem_filterMap];exact⟨_,hm,rfl⟩
   ·intro hm
    rw[leaves_mk];exact List.mem_append_left _ (List.mem_map.2 ⟨e,hm,rfl⟩)
  rw[h1];show _↔look keyE es (keyE e)=some e;rw[look_iff tot_dot (upE h.2.1)];simp
 | d+1,.mk es ks,h,k::p,e=>by
  have h1:(k::p,e)∈leaves (.mk es ks)↔(p,e)∈leaves (kidAt ks k):=by
   have:=under_leaves h k;show _↔(p,e)∈leaves (kidAt (T.mk es ks).ks k);rw[← this];unfold under;rw[List.mem_filterMap];constructor
   ·intro hm
    exact⟨_,hm,by simp⟩
   ·rintro⟨⟨q,e2⟩,hm,hx⟩
    cases q with
    | nil=>cases hx
    | cons k2 q=>
     dsimp only at hx
     split at hx
     ·rename_i hk
      injection hx with hx;injection hx with hx1 hx2;rw[← hx1,← hx2,← hk];exact hm
     ·cases hx
  rw[h1];show _↔entAt (kidAt ks k) p (keyE e)=some e
  rcases RT.kid h k with hr | hn
  ·exact leaf_iff hr p e
  ·rw[hn,leaves_none,entAt_none]
   simp
theorem up_ext {α κ:Type} {key:α→κ} {lt:κ→κ→Prop} (T:Tot lt):∀ {l m:List α},Up key lt l→Up key lt m→(∀ k,look key l k=look key m k)→l=m
 | [],[],_,_,_=>rfl
 | [],y::m,_,_,h=>by have:=h (key y);rw[look_nil,look_cons_eq rfl]at this;cases this
 | x::l,[],_,_,h=>by have:=h (key x);rw[look_nil,look_cons_eq rfl]at this;cases this
 | x::l,y::m,hl,hm,h=>by
  have l1:=List.pairwise_cons.1 hl;have m1:=List.pairwise_cons.1 hm
  have e:key x=key y:=by
   rcases T.tri (key x) (key y)with h1 | h1 | h1
   ·have:=h (key x)
    rw[look_cons_eq rfl,look_none (l:=y::m)]at this
    ·cases this
    ·intro z hz hk
     rcases List.mem_cons.1 hz with rfl | hz
     ·rw[hk]at h1;exact T.irr _ h1
     ·have:=T.tr _ _ _ h1 (m1.1 z hz);rw[hk]at this;exact T.irr _ this
   ·exact h1
   ·have:=h (key y)
    rw[look_cons_eq (l:=m) rfl,look_none (l:=x::l)]at this
    ·cases this
    ·intro z hz hk
     rcases List.mem_cons.1 hz with rfl | hz
     ·rw[hk]at h1;exact T.irr _ h1
     ·have:=T.tr _ _ _ h1 (l1.1 z hz);rw[hk]at this;exact T.irr _ this
  have hxy:x=y:=by
   have:=h (key x);rw[look_cons_eq rfl,look_cons_eq e.symm]at this;injection this
  subst hxy
  congr 1
  refine up_ext T l1.2 m1.2 fun k=>?_
  by_cases hk:key x=k
  ·rw[look_none fun z hz hz2=>?_,look_none fun z hz hz2=>?_]
   ·have:=m1.1 z hz;rw[hz2,hk]at this;exact T.irr _ this
   ·have:=l1.1 z hz;rw[hz2,hk]at this;exact T.irr _ this
  ·have:=h k
   rwa [look_cons_ne hk,look_cons_ne hk]at this
theorem tree_ext:∀ {d:Nat} {t u:T},RT d t→RT d u→(∀ p q,entAt t p q=entAt u p q)→t=u
 | 0,t,u,ht,hu,_=>by
  have e:∀ t:T,RT 0 t→t=none_:=fun t h=>by
   rcases h with h | h
   ·exact h.elim
   ·exact h
  rw[e t ht,e u hu]
 | d+1,.mk es ks,.mk es2 ks2,ht,hu,h=>by
  have h1:=ht.succ;have h2:=hu.succ;have e1:es=es2:=up_ext tot_dot (upE h1.2.1) (upE h2.2.1) fun q=>h [] q;have ek:∀ k,kidAt ks k=kidAt ks2 k:=fun k=>tree_ext (RT.kid h1 k) (RT.kid h2 k) fun p q=>h (k::p) q
  have e2:ks=ks2:=by
   refine up_ext (key:=keyK) tot_str h1.2.2.1 h2.2.2.1 fun k=>?_;have hk:=ek k;rw[kidAt_look,kidAt_look]at hk;have hne:∀ (l:List Kd),(∀ x∈l,KeyOk x.1∧¬(x.2.es=[]∧x.2.ks=[])∧RightT d x.2)→∀ x,look keyK l k=some x→¬x.2=none_:=fun l hl x hx e=>(hl x (look_mem hx).1).2.1 (by rw[e];exact empty_none);have hname:∀ (l:List Kd) x,look keyK l k=some x→x.1=k:=fun l x hx=>(look_mem hx).2
   cases ha:look keyK ks k with
   | none=>
    cases hb:look keyK ks2 k with
    | none=>rfl
    | some y=>
     rw[ha,hb]at hk;exact absurd hk.symm (hne ks2 h2.2.2.2 y hb)
   | some x=>
    cases hb:look keyK ks2 k with
    | none=>
     rw[ha,hb]at hk;exact absurd hk (hne ks h1.2.2.2 x ha)
    | some y=>
     rw[ha,hb]at hk;have a1:=hname ks x ha;have b1:=hname ks2 y hb;have:x=y:=Prod.ext (a1.trans b1.symm) hk;rw[this]
  rw[e1,e2]
end Cs
end Go.Proofs.YtgeafpaognhokaaGreat
namespace Go.Proofs.YtgeafpaognhokaaGreat
namespace Cs
open Tr Cx Sp Classical
abbrev K:=T×List S3
structure RK (k:K):Prop where
 tree:RightT 5 k.1
 ctx:RightC k.2
 has:∀ x∈leaves k.1,hasC k.2 x.2.a x.2.n=true
noncomputable def rightKB (k:K):Bool:=decide (RK k)
theorem rightKB_iff {k:K} : rightKB k=true↔RK k:=decide_eq_true_iff
theorem not_cen {c:List S3} (h:RightC c) {d n:Int} (hd:¬Cen d):hasC c d n=false:=by
 unfold hasC
 have e:Cx.part c d=[]:=by
  rw[List.eq_nil_iff_forall_not_mem];intro r hr;have:=h.rise.mem _ (part_mem.1 hr)
  apply hd
  unfold Cen;dsimp only at this;omega
 rw[e];rfl
theorem ctx_ext {a b:List S3} (ha:RightC a) (hb:RightC b) (h:∀ d n,hasC a d n=hasC b d n):a=b:=extC ha hb fun d n _=>h d n
noncomputable def st (k:K) (p:List ByteArray) (q:Int×Int):Option (Option E):=if hasC k.2 q.1 q.2=true then some (entAt k.1 p q)else none
noncomputable def mx:Option (Option E)→Option (Option E)→Option (Option E)
 | none,y=>y
 | some x,none=>some x
 | some none,some _=>some none
 | some (some _),some none=>some none
 | some (some x),some (some y)=>some (some (grE x y))
theorem mx_none (y:Option (Option E)):mx none y=y:=by cases y <;> rfl
theorem none_mx (y:Option (Option E)):mx y none=y:=by rcases y with _ | _ | y <;> rfl
theorem mx_self (x:Option (Option E)):mx x x=x:=by
 rcases x with _ | _ | x
 ·rfl
 ·rfl
 ·show some (some (grE x x))=_
  rw[grE_self]
def At (q:Int×Int) (x:Option (Option E)):Prop:=∀ e,x=some (some e)→keyE e=q
theorem mx_comm {q:Int×Int} {x y:Option (Option E)} (hx:At q x) (hy:At q y):mx x y=mx y x:=by
 rcases x with _ | _ | x <;> rcases y with _ | _ | y <;> try rfl
 show some (some (grE x y))=some (some (grE y x));rw[grE_comm ((hx x rfl).trans (hy y rfl).symm)]
theorem mx_assoc (x y z:Option (Option E)):mx (mx x y) z=mx x (mx y z):=by
 rcases x with _ | _ | x <;> rcases y with _ | _ | y <;> rcases z with _ | _ | z <;> try rfl
 show some (some (grE (grE x y) z))=some (some (grE x (grE y z)));rw[grE_assoc]
theorem At.mx {q:Int×Int} {x y:Option (Option E)} (hx:At q x) (hy:At q y):At q (mx x y):=by
 rcases x with _ | _ | x <;> rcases y with _ | _ | y <;> intro e he
 ·cases he
 ·cases he
 ·exact hy e he
 ·cases he
 ·cases he
 ·cases he
 ·exact hx e he
 ·cases he
 ·have h1:some (some (grE x y))=some (some e):=he
  injection h1 with h1;injection h1 with h1;rw[← h1,grE_key ((hx x rfl).trans (hy y rfl).symm)];exact hx x rfl
theorem st_at (k:K) (p:List ByteArray) (q:Int×Int):At q (st k p q):=by
 intro e he;unfold st at he
 split at he
 ·injection he with he
  exact entAt_key he
 ·cases he
theorem RK.known {k:K} (h:RK k) {p:List ByteArray} {q:Int×Int} {e:E} (he:entAt k.1 p q=some e):hasC k.2 q.1 q.2=true:=by
 have hk:=entAt_key he;have:=h.has (p,e) ((leaf_iff h.tree p e).2 (by rw[hk];exact he))
 have e1:e.a=q.1:=by rw[← hk];rfl
 have e2:e.n=q.2:=by rw[← hk];rfl
 rw[← e1,← e2];exact this
theorem st_some {k:K} {p:List ByteArray} {q:Int×Int} (h:hasC k.2 q.1 q.2=true):st k p q=some (entAt k.1 p q):=by unfold st;rw[if_pos h]
theorem st_none {k:K} {p:List ByteArray} {q:Int×Int} (h:hasC k.2 q.1 q.2=false):st k p q=none:=by unfold st;rw[if_neg (by simp[h])]
theorem RK.unknown {k:K} (h:RK k) {p:List ByteArray} {q:Int×Int} (hq:hasC k.2 q.1 q.2=false):entAt k.1 p q=none:=by
 cases he:entAt k.1 p q with
 | none=>rfl
 | some e=>rw[h.known he]at hq;cases hq
theorem ext_st {a b:K} (ha:RK a) (hb:RK b) (h:∀ p q,st a p q=st b p q):a=b:=by
 have hc:∀ d n,hasC a.2 d n=hasC b.2 d n:=fun d n=>by
  have:=h [] (d,n)
  cases h1:hasC a.2 d n with
  | true=>
   cases h2:hasC b.2 d n with
   | true=>rfl
   | false=>rw[st_some (q:=(d,n)) h1,st_none (q:=(d,n)) h2]at this;cases this
  | false=>
   cases h2:hasC b.2 d n with
   | false=>rfl
   | true=>rw[st_none (q:=(d,n)) h1,st_some (q:=(d,n)) h2]at this;cases this
 refine Prod.ext (tree_ext (d:=5) (.inl ha.tree) (.inl hb.tree) fun p q=>?_) (ctx_ext ha.ctx hb.ctx hc)
 cases h1:hasC a.2 q.1 q.2 with
 | true=>
  have:=h p q;rw[st_some h1,st_some (by rw[← hc];exact h1)]at this;injection this
 | false=>rw[ha.unknown h1,hb.unknown (by rw[← hc];exact h1)]
structure IsJ (a b x:K):Prop where
 tree:x.1=joinT 5 a.2 b.2 a.1 b.1
 ctx:PutC (fun x y=>x||y) a.2 b.2 x.2
theorem IsJ.eq {a b x y:K} (h:IsJ a b x) (h2:IsJ a b y):x=y:=Prod.ext (h.tree.trans h2.tree.symm) (h.ctx.eq h2.ctx)
theorem IsJ.hasC {a b x:K} (ha:RK a) (hb:RK b) (h:IsJ a b x) (d n:Int):hasC x.2 d n=(hasC a.2 d n||hasC b.2 d n):=by
 by_cases hd:Cen d
 ·exact h.ctx.has d n hd
 ·rw[not_cen h.ctx.right hd,not_cen ha.ctx hd,not_cen hb.ctx hd];rfl
theorem st_two {a b:K} (ha:RK a) (hb:RK b) (p:List ByteArray) (q:Int×Int):mx (st a p q) (st b p q)=if (Cx.hasC a.2 q.1 q.2||Cx.hasC b.2 q.1 q.2)=true then some (stE a.2 b.2 (entAt a.1 p q) (entAt b.1 p q))else none:=by
 cases h1:Cx.hasC a.2 q.1 q.2 with
 | false=>
  rw[st_none h1,mx_none]
  cases h2:Cx.hasC b.2 q.1 q.2 with
  | false=>rw[st_none h2];rfl
  | true=>
   rw[st_some h2,ha.unknown h1];show _=some _
   cases hy:entAt b.1 p q with
   | none=>rfl
   | some y=>
    have hk:=entAt_key hy
    have e1:Cx.hasC a.2 y.a y.n=false:=by rw[show y.a=q.1 by rw[← hk];rfl,show y.n=q.2 by rw[← hk];rfl];exact h1
    rw[stE_right,if_neg (by simp[e1])]
 | true=>
  rw[st_some h1]
  cases h2:Cx.hasC b.2 q.1 q.2 with
  | false=>
   rw[st_none h2,none_mx,hb.unknown h2];show _=some _
   cases hx:entAt a.1 p q with
   | none=>rfl
   | some x=>
    have hk:=entAt_key hx
    have e1:Cx.hasC b.2 x.a x.n=false:=by rw[show x.a=q.1 by rw[← hk];rfl,show x.n=q.2 by rw[← hk];rfl];exact h2
    rw[stE_left,if_neg (by simp[e1])]
  | true=>
   rw[st_some h2];show _=some _
   cases hx:entAt a.1 p q with
   | none=>
    cases hy:entAt b.1 p q with
    | none=>rfl
    | some y=>
     have hk:=entAt_key hy
     have e1:Cx.hasC a.2 y.a y.n=true:=by rw[show y.a=q.1 by rw[← hk];rfl,show y.n=q.2 by rw[← hk];rfl];exact h1
     rw[stE_right,if_pos e1];rfl
   | some x=>
    have hk:=entAt_key hx
    have e1:Cx.hasC b.2 x.a x.n=true:=by rw[show x.a=q.1 by rw[← hk];rfl,show x.n=q.2 by rw[← hk];rfl];exact h2
    cases hy:entAt b.1 p q with
    | none=>rw[stE_left,if_pos e1];rfl
    | some y=>rfl
theorem IsJ.ent {a b x:K} (ha:RK a) (hb:RK b) (h:IsJ a b x) (p:List ByteArray) (q:Int×Int):entAt x.1 p q=stE a.2 b.2 (entAt a.1 p q) (entAt b.1 p q):=by
 rw[h.tree];exact ent_join 5 a.2 b.2 a.1 b.1 (.inl ha.tree) (.inl hb.tree) p q
theorem IsJ.right {a b x:K} (ha:RK a) (hb:RK b) (h:IsJ a b x):RK x:=by
 have ht:RightT 5 x.1:=by rw[h.tree];exact right_join 5 _ _ _ _ ha.tree hb.tree
 refine⟨ht,h.ctx.right,fun y hy=>?_⟩;have h1:=(leaf_iff ht y.1 y.2).1 hy;rw[h.ent ha hb]at h1;rw[h.hasC ha hb]
 rcases stE_or h1 with h2 | h2
 ·have:=ha.known h2
  rw[show Cx.hasC a.2 y.2.a y.2.n=true from this];rfl
 ·have:=hb.known h2
  rw[show Cx.hasC b.2 y.2.a y.2.n=true from this,Bool.or_true]
theorem IsJ.st {a b x:K} (ha:RK a) (hb:RK b) (h:IsJ a b x) (p:List ByteArray) (q:Int×Int):Cs.st x p q=mx (Cs.st a p q) (Cs.st b p q):=by
 rw[st_two ha hb];unfold Cs.st;rw[h.hasC ha hb,h.ent ha hb]
theorem join_of {a b x:K} (ha:RK a) (hb:RK b) (hx:RK x) (h:∀ p q,st x p q=mx (st a p q) (st b p q)):IsJ a b x:=by
 have hc:∀ d n,hasC x.2 d n=(hasC a.2 d n||hasC b.2 d n):=fun d n=>by
  have:=h [] (d,n);rw[st_two ha hb]at this;unfold st at this
  cases h1:hasC x.2 d n with
  | true=>
   cases h2:(hasC a.2 d n||hasC b.2 d n)with
   | true=>rfl
   | false=>rw[if_pos h1,if_neg (by rw[h2];simp)]at this;cases this
  | false=>
   cases h2:(hasC a.2 d n||hasC b.2 d n)with
   | false=>rfl
   | true=>rw[if_neg (by rw[h1];simp),if_pos h2]at this;cases this
 refine⟨?_,⟨hx.ctx,fun d n _=>hc d n⟩⟩;refine tree_ext (d:=5) (.inl hx.tree) (.inl (right_join 5 _ _ _ _ ha.tree hb.tree)) fun p q=>?_;rw[ent_join 5 a.2 b.2 a.1 b.1 (.inl ha.tree) (.inl hb.tree)]
 cases h1:hasC x.2 q.1 q.2 with
 | true=>
  have:=h p q;rw[st_two ha hb,st_some h1,← hc,if_pos h1]at this;injection this
 | false=>
  have h2:=hc q.1 q.2;rw[h1]at h2;have h3:=Bool.or_eq_false_iff.1 h2.symm;rw[hx.unknown h1,ha.unknown h3.1,hb.unknown h3.2];rfl
theorem isJ_iff {a b x:K} (ha:RK a) (hb:RK b) (hx:RK x):IsJ a b x↔∀ p q,st x p q=mx (st a p q) (st b p q):=⟨fun h p q=>h.st ha hb p q,join_of ha hb hx⟩
noncomputable def leqB (a b:K):Bool:=decide (IsJ a b b)
theorem leqB_iff {a b:K} (ha:RK a) (hb:RK b):leqB a b=true↔∀ p q,mx (st a p q) (st b p q)=st b p q:=by
 unfold leqB;rw[decide_eq_true_iff,isJ_iff ha hb hb];exact⟨fun h p q=>(h p q).symm,fun h p q=>(h p q).symm⟩
theorem leq_refl {a:K} (ha:RK a):leqB a a=true:=(leqB_iff ha ha).2 fun _ _=>mx_self _
def noneK:K:=(none_,[])
theorem right_noneC:RightC []:=⟨trivial,fun d _=>by rw[part_nil];trivial⟩
theorem right_noneK:RK noneK:=⟨RightT.none (d:=4),right_noneC,fun x hx=>by
 have:x∈leaves none_:=hx;rw[leaves_none]at this
 cases this⟩
theorem st_noneK (p:List ByteArray) (q:Int×Int):st noneK p q=none:=st_none rfl
theorem join_none {a x:K} (ha:RK a) (h:IsJ noneK a x):x=a:=ext_st (h.right right_noneK ha) ha fun p q=>by rw[h.st right_noneK ha,st_noneK,mx_none]
noncomputable def stAll (l:List K) (p:List ByteArray) (q:Int×Int):Option (Option E):=l.foldr (fun k y=>mx (st k p q) y) none
theorem stAll_append (a b:List K) (p:List ByteArray) (q:Int×Int):stAll (a++b) p q=mx (stAll a p q) (stAll b p q):=by
 induction a with
 | nil=>show _=mx none _;rw[mx_none];rfl
 | cons k a ih=>
  show mx (st k p q) (stAll (a++b) p q)=mx (mx (st k p q) (stAll a p q)) (stAll b p q);rw[ih,mx_assoc]
theorem stAll_one (k:K) (p:List ByteArray) (q:Int×Int):stAll [k] p q=st k p q:=none_mx _
theorem stAll_at (l:List K) (p:List ByteArray) (q:Int×Int):At q (stAll l p q):=by
 induction l with
 | nil=>intro e he;cases he
 | cons k l ih=>exact (st_at k p q).mx ih
theorem stAll_reverse (l:List K) (p:List ByteArray) (q:Int×Int):stAll l.reverse p q=stAll l p q:=by
 induction l with
 | nil=>rfl
 | cons k l ih=>
  rw[List.reverse_cons,stAll_append,stAll_one,ih];exact mx_comm (stAll_at l p q) (st_at k p q)
structure AllJ (l:List K) (x:K):Prop where
 right:RK x
 st:∀ p q,Cs.st x p q=stAll l p q
theorem AllJ.eq {l:List K} {x y:K} (h:AllJ l x) (h2:AllJ l y):x=y:=ext_st h.right h2.right fun p q=>(h.st p q).trans (h2.st p q).symm
theorem AllJ.nil:AllJ [] noneK:=⟨right_noneK,fun p q=>st_noneK p q⟩
theorem AllJ.app {a b:List K} {x y z:K} (h:AllJ a x) (h2:AllJ b y) (hj:IsJ x y z):AllJ (a++b) z:=⟨hj.right h.right h2.right,fun p q=>by rw[hj.st h.right h2.right,stAll_append,h.st,h2.st]⟩
theorem AllJ.one {k:K} (h:RK k):AllJ [k] k:=⟨h,fun p q=>(stAll_one k p q).symm⟩
theorem AllJ.reverse {l:List K} {x:K} (h:AllJ l x):AllJ l.reverse x:=⟨h.right,fun p q=>by rw[stAll_reverse];exact h.st p q⟩
end Cs
end Go.Proofs.YtgeafpaognhokaaGreat
namespace Go.Proofs.YtgeafpaognhokaaGreat
namespace Cs
open Tr Cx Sp Classical
def oneT (e:E):T:=.mk [e] []
theorem entAt_one (e:E) (p:List ByteArray) (q:Int×Int):entAt (oneT e) p q=if p=[]∧keyE e=q then some e else none:=by
 cases p with
 | nil=>
  show look keyE [e] q=_
  by_cases h:keyE e=q
  ·rw[look_cons_eq h,if_pos ⟨rfl,h⟩]
  ·rw[look_cons_ne h,look_nil,if_neg fun h2=>h h2.2]
 | cons k p=>
  rw[if_neg fun h2=>by cases h2.1];exact entAt_none p q
theorem right_one {e:E} {c:List S3} (he:RightT 5 (oneT e)) (hc:RightC c) (hh:hasC c e.a e.n=true):RK (oneT e,c):=⟨he,hc,fun x hx=>by
 have h1:=(leaf_iff he x.1 x.2).1 hx;rw[entAt_one]at h1
 split at h1
 ·injection h1 with h1
  rw[← h1];exact hh
 ·cases h1⟩
theorem right_gone {c:List S3} (hc:RightC c):RK (none_,c):=⟨RightT.none (d:=4),hc,fun x hx=>by
 have h:x∈leaves none_:=hx;rw[leaves_none]at h
 cases h⟩
end Cs
end Go.Proofs.YtgeafpaognhokaaGreat
namespace Go.Proofs.YtgeafpaognhokaaGreat
namespace Tr
open Classical
theorem rise_of {α:Type} {lt:α→α→Prop} (tr:∀ a b c,lt a b→lt b c→lt a c) {l:List α} (h:∀ (i:Nat) (_:0<i) (hi:i<l.length),lt (l[i-1]'(by omega)) l[i]):l.Pairwise lt:=by
 rw[List.pairwise_iff_getElem];intro i j hi hj hij
 induction j with
 | zero=>omega
 | succ j ih=>
  have h1:=h (j+1) (by omega) hj
  have e:j+1-1=j:=by omega
  simp only[e]at h1
  rcases Nat.lt_or_ge i j with hlt | hge
  ·exact tr _ _ _ (ih (by omega) hlt) h1
  ·have:i=j:=by omega
   subst this;exact h1
def GoodE (es:List E) (k:Nat):Prop:=∀ (i:Nat) (h:i<es.length),i<k→RightE es[i]∧(0<i→ltE (es[i-1]'(by omega)) es[i])
def OkK (d:Nat) (ks:List (ByteArray×T)) (i:Nat) (h:i<ks.length):Prop:=KeyOk (ks[i]).1∧(0<i→ltS (ks[i-1]'(by omega)).1 (ks[i]).1)∧¬((ks[i]).2.es=[]∧(ks[i]).2.ks=[])∧RightT d (ks[i]).2
def GoodK (d:Nat) (ks:List (ByteArray×T)) (k:Nat):Prop:=∀ (i:Nat) (h:i<ks.length),i<k→OkK d ks i h
theorem GoodE.zero (es:List E):GoodE es 0:=fun _ _ h=>absurd h (Nat.not_lt_zero _)
theorem GoodK.zero (d:Nat) (ks:List (ByteArray×T)):GoodK d ks 0:=fun _ _ h=>absurd h (Nat.not_lt_zero _)
theorem GoodE.succ {es:List E} {k:Nat} (h:GoodE es k) (hk:k<es.length) (h1:RightE es[k]) (h2:0<k→ltE (es[k-1]'(by omega)) es[k]):GoodE es (k+1):=fun i hi hlt=>by
 by_cases he:i=k
 ·subst he;exact⟨h1,h2⟩
 ·exact h i hi (by omega)
theorem GoodK.succ {d:Nat} {ks:List (ByteArray×T)} {k:Nat} (h:GoodK d ks k) (hk:k<ks.length) (h1:OkK d ks k hk):GoodK d ks (k+1):=fun i hi hlt=>by
 by_cases he:i=k
 ·subst he;exact h1
 ·exact h i hi (by omega)
theorem right_iff (d:Nat) (es:List E) (ks:List (ByteArray×T)):RightT (d+1) (.mk es ks)↔GoodE es es.length∧GoodK d ks ks.length:=by
 constructor
 ·rintro⟨h1,h2,h3,h4⟩
  refine⟨fun i hi _=>⟨h1 _ (List.getElem_mem hi),fun h0=>List.pairwise_iff_getElem.1 h2 (i-1) i (by omega) hi (by omega)⟩,fun i hi _=>?_⟩;obtain⟨k1,k2,k3⟩:=h4 _ (List.getElem_mem hi);exact⟨k1,fun h0=>List.pairwise_iff_getElem.1 h3 (i-1) i (by omega) hi (by omega),k2,k3⟩
 ·rintro⟨h1,h2⟩
  refine⟨fun e he=>?_,rise_of (lt:=ltE) (fun _ _ _=>ltE_tr) fun i h0 hi=>(h1 i hi hi).2 h0,?_,fun k hk=>?_⟩
  ·obtain⟨i,hi,rfl⟩:=List.getElem_of_mem he
   exact (h1 i hi hi).1
  ·refine rise_of (lt:=fun x y:ByteArray×T=>ltS x.1 y.1) (fun _ _ _=>tot_str.tr _ _ _) fun i h0 hi=>(h2 i hi hi).2.1 h0
  ·obtain⟨i,hi,rfl⟩:=List.getElem_of_mem hk
   obtain⟨k1,_,k2,k3⟩:=h2 i hi hi;exact⟨k1,k2,k3⟩
noncomputable def rightB (d:Nat) (t:T):Bool:=decide (RightT d t)
theorem rightB_zero (t:T):rightB 0 t=false:=decide_eq_false (by intro h;cases t;exact h)
theorem rightB_yes {d:Nat} {es:List E} {ks:List (ByteArray×T)} (h1:GoodE es es.length) (h2:GoodK d ks ks.length):rightB (d+1) (.mk es ks)=true:=decide_eq_true ((right_iff d es ks).2 ⟨h1,h2⟩)
theorem rightB_noE {d:Nat} {es:List E} {ks:List (ByteArray×T)} (k:Nat) (hk:k<es.length) (h:¬(RightE es[k]∧(0<k→ltE (es[k-1]'(by omega)) es[k]))):rightB (d+1) (.mk es ks)=false:=
 decide_eq_false fun hr=>h (((right_iff d es ks).1 hr).1 k hk hk)
theorem rightB_noK {d:Nat} {es:List E} {ks:List (ByteArray×T)} (k:Nat) (hk:k<ks.length) (h:¬OkK d ks k hk):rightB (d+1) (.mk es ks)=false:=
 decide_eq_false fun hr=>h (((right_iff d es ks).1 hr).2 k hk hk)
theorem rightB_iff {d:Nat} {t:T} : rightB d t=true↔RightT d t:=decide_eq_true_iff
end Tr
end Go.Proofs.YtgeafpaognhokaaGreat
namespace Go.Proofs.YtgeafpaognhokaaGreat
open Go.RowKit

def sev (u:Nat):List UInt8:=if u<128 then [UInt8.ofNat u]else UInt8.ofNat (u % 128+128)::sev (u / 128)
termination_by u
decreasing_by omega
def Begins (bs:List UInt8) (u n:Nat):Prop:=u<18446744073709551616∧n≤bs.length∧bs.take n=sev u
theorem Begins.split {bs:List UInt8} {u n:Nat} (h:Begins bs u n):bs=sev u++bs.drop n:=by
 rw[← h.2.2,List.take_append_drop]
theorem Begins.len {bs:List UInt8} {u n:Nat} (h:Begins bs u n):n=(sev u).length:=by
 rw[← h.2.2,List.length_take];have:=h.2.1;omega
section
variable {P:Program}
end

structure Two (a:Nat) (g:Option Nat) (w w':World):Prop where
 os:w'.os=w.os
 tape:w'.tape=w.tape
 output:w'.output=w.output
 size:w.heap.size≤w'.heap.size
 block:∀ k,k<w.heap.size→k≠a→some k≠g→w'.heap[k]?=w.heap[k]?
def Fresh (g g':Option Nat) (w:World):Prop:=g'=none∨g'=g∨∃ k,g'=some k∧w.heap.size≤k
section
variable {a:Nat} {g g' g2:Option Nat} {w w' w2:World}
theorem Two.refl (a:Nat) (g:Option Nat) (w:World):Two a g w w:=⟨rfl,rfl,rfl,Nat.le_refl _,fun _ _ _ _=>rfl⟩
theorem Fresh.refl (g:Option Nat) (w:World):Fresh g g w:=.inr (.inl rfl)
theorem Two.of_below (h:Below w.heap.size w w'):Two a g w w':=⟨h.os,h.tape,h.output,h.size,fun k hk _ _=>h.block k hk⟩
theorem Two.trans (h:Two a g w w') (hf:Fresh g g' w) (h2:Two a g' w' w2):Two a g w w2:=
 ⟨h2.os.trans h.os,h2.tape.trans h.tape,h2.output.trans h.output,Nat.le_trans h.size h2.size,fun k hk ha hg=>
  (h2.block k (Nat.lt_of_lt_of_le hk h.size) ha (by
   rcases hf with rfl | rfl | ⟨q,rfl,hq⟩
   ·intro e;cases e
   ·exact hg
   ·intro e;injection e with e;omega)).trans (h.block k hk ha hg)⟩
theorem Fresh.trans (hf:Fresh g g' w) (hs:w.heap.size≤w'.heap.size) (h2:Fresh g' g2 w'):Fresh g g2 w:=by
 rcases h2 with rfl | rfl | ⟨k,rfl,hk⟩
 ·exact .inl rfl
 ·exact hf
 ·exact .inr (.inr ⟨k,rfl,by omega⟩)
theorem Two.setCell (h:Two a g w w') (o:Nat) (u:Value):Two a g w (w'.setCell ⟨a,o,none⟩ u):=
 ⟨h.os,h.tape,h.output,by simpa [World.setCell] using h.size,fun k hk ha hg=>(Below.heap_setCell w' ⟨a,o,none⟩ u k ha).trans (h.block k hk ha hg)⟩
theorem Two.cell (h:Two a g w w') {p:Addr} (hp:p.block<w.heap.size) (ha:p.block≠a) (hg:some p.block≠g):w'.cell? p=w.cell? p:=World.cell?_of_block (h.block p.block hp ha hg)
theorem Two.frozen (h:Two a g w w') {p:Addr} (hp:p.block<w.heap.size) (ha:p.block≠a) (hg:some p.block≠g):w'.frozen? p=w.frozen? p:=World.frozen?_of_block (h.block p.block hp ha hg)
theorem Two.below (h:Two a g w w') {B:Nat} (ha:B≤a) (hg:∀ k,g=some k→B≤k) (hB:B≤w.heap.size):Below B w w':=
 ⟨h.os,h.tape,h.output,h.size,fun k hk=>h.block k (by omega) (by omega) (fun e=>by have:=hg k e.symm;omega)⟩
theorem ownsRow_later {base e sz n:Nat} {v:Value} {xs:List Value} (hr:w.ownsRow base e sz v n xs) (h:Below w.heap.size w w'):w'.ownsRow base e sz v n xs:=by
 refine⟨hr.1,?_⟩
 rcases hr.2 with h1 | ⟨b,cap,cur,rfl,h2,h3,h4⟩
 ·exact .inl h1
 ·exact .inr ⟨b,cap,cur,rfl,h2,(h.block b (Array.getElem?_eq_some_iff.1 h3).1).trans h3,h4⟩
end
end Go.Proofs.YtgeafpaognhokaaGreat
namespace Go.Proofs.YtgeafpaognhokaaGreat
open Go.ChangeShapes Go.WideShapes Go.ChangeAt Go.RowKit
namespace Sp
def runC (r:Int×Int):List Value:=[.int .i64 r.1,.int .i64 r.2]
def runsC (l:List (Int×Int)):List Value:=l.flatMap runC
theorem runsC_append (a b:List (Int×Int)):runsC (a++b)=runsC a++runsC b:=by simp[runsC]
theorem runsC_len (l:List (Int×Int)):(runsC l).length=l.length*2:=flatMap_len (f:=runC) (fun _=>rfl) l
theorem runsC_one (l:List (Int×Int)):∀ u∈runsC l,u.oneCell'=true:=by
 intro u hu;obtain⟨r,_,hu⟩:=List.mem_flatMap.1 hu;simp[runC]at hu
 rcases hu with rfl | rfl <;> rfl
theorem runsC_at (l:List (Int×Int)) (k:Nat) (h:k<l.length):(runsC l)[k*2]?=some (.int .i64 l[k].1)∧(runsC l)[k*2+1]?=some (.int .i64 l[k].2):=by
 unfold runsC
 induction l generalizing k with
 | nil=>simp at h
 | cons d l ih=>
  cases k with
  | zero=>simp[runC]
  | succ k=>
   have:=ih k (by simpa using h);rw[List.flatMap_cons,show (k+1)*2=(k*2+1)+1 from by omega];simp only[runC,List.cons_append,List.nil_append,List.getElem?_cons_succ,List.getElem_cons_succ];exact this
def intsC (l:List Int):List Value:=l.map fun x=>Value.int .i64 x
theorem intsC_one (l:List Int):∀ u∈intsC l,u.oneCell'=true:=by
 intro u hu;obtain⟨r,_,rfl⟩:=List.mem_map.1 hu;rfl
theorem intsC_at (l:List Int) (k:Nat) (h:k<l.length):(intsC l)[k]?=some (.int .i64 l[k]):=by
 simp[intsC,h]
theorem intsC_append (a b:List Int):intsC (a++b)=intsC a++intsC b:=by simp[intsC]
theorem rd_run {w:World} {B n c:Nat} {A:Option Addr} {l:List (Int×Int)} (h:Rd w B 2 A n c (runsC l)) (hl:l.length=n) {k:Nat} (hk:k<n) :
  ∃ b o,A=some ⟨b,o,none⟩∧b<B∧∀ (k:Nat) (hk:k<l.length),w.cell? ⟨b,o+k*2,none⟩=some (.int .i64 l[k].1)∧w.cell? ⟨b,o+k*2+1,none⟩=some (.int .i64 l[k].2):=by
 obtain⟨b,o,e,hb,hc⟩:=h.at_ (by omega);refine⟨b,o,e,hb,fun k hk=>?_⟩;obtain⟨q0,q1⟩:=runsC_at l k hk;exact⟨hc _ _ q0,by rw[Nat.add_assoc];exact hc _ _ q1⟩
theorem rd_int {w:World} {B n c:Nat} {A:Option Addr} {l:List Int} (h:Rd w B 1 A n c (intsC l)) (_:l.length=n) {k:Nat} (hk:k<n) :
  ∃ b o,A=some ⟨b,o,none⟩∧b<B∧∀ (k:Nat) (hk:k<l.length),w.cell? ⟨b,o+k,none⟩=some (.int .i64 l[k]):=by
 obtain⟨b,o,e,hb,hc⟩:=h.at_ (by omega);exact⟨b,o,e,hb,fun k hk=>hc _ _ (intsC_at l k hk)⟩
theorem info_of {t sz by_:Nat} {z:Value} (h:(Tryz.prog.info? t).map (fun i=>(i.zero,i.size,i.bytes))=some (some z,sz,by_)):∃ i,Tryz.prog.info? t=some i∧i.zero=some z∧i.size=sz∧i.bytes=by_:=by
 cases hi:Tryz.prog.info? t with
 | none=>rw[hi]at h;cases h
 | some i=>
  rw[hi]at h;simp only[Option.map_some,Option.some.injEq,Prod.mk.injEq]at h;exact⟨i,rfl,h.1,h.2.1,h.2.2⟩
theorem infoR:(Tryz.prog.info? 214).map (fun i=>(i.zero,i.size,i.bytes))=some (some (.agg #[.int .i64 0,.int .i64 0]),2,16):=by kernel_rfl
theorem infoP:(Tryz.prog.info? 157).map (fun i=>(i.zero,i.size,i.bytes))=some (some (.agg #[.int .i64 0,.int .i64 0]),2,16):=by kernel_rfl
theorem infoI:(Tryz.prog.info? 2).map (fun i=>(i.zero,i.size,i.bytes))=some (some (.int .i64 0),1,8):=by kernel_rfl
theorem run_push {t e sz by_:Nat} {z:Value} (ht:Tryz.prog.underlying t=some (.slice e)) (hi:(Tryz.prog.info? e).map (fun i=>(i.zero,i.size,i.bytes))=some (some z,sz,by_)) (hzs:z.cells.size=sz) (hsz:0<sz) (hby:by_≤1000000)
  (W:World) (base q:Nat) (hq:W.heap.size=q) (hb:base≤W.heap.size) (v:Value) (n:Nat) (xs:List Value) (hown:W.ownsRow base e sz v n xs) (news:List Value) (m:Nat) (hm:news.length=m*sz) (h1:∀ u∈news,u.oneCell'=true) (hn:n+m≤1000000) :
  ∃ v' w',(Builtin.append_ #[t,t] t #[v,.slice (some ⟨q,0,none⟩) m m]).run Tryz.prog (W.alloc (.cells news.toArray e)) = .ok v' w' ∧
   w'.ownsRow base e sz v' (n+m) (xs++news)∧Below base W w':=by
 subst hq;obtain⟨i0,hi0,hz0,hz1,hz2⟩:=info_of hi
 obtain⟨v',w',h1,h2,h3,h4⟩:=run_app (P:=Tryz.prog) (W.alloc (.cells news.toArray e)) base t t e i0 z sz by_ ht hi0 hz0 hz1 hz2 hzs hsz
  (hown.alloc _) (B:=W.heap.size+1) (A:=some ⟨W.heap.size,0,none⟩) (m:=m) (c:=m) (news:=news)
  ⟨hm,by omega,h1,fun _=>⟨_,_,rfl,by omega,fun j u hu=>by
   rw[Nat.zero_add,cell_of_row _ _ j _ _ (0,0) (heap_alloc_new _ _)]
   simpa using hu⟩⟩ hn hby (by simp;omega)
 exact⟨v',w',h1,h2,((Below.refl base W).alloc hb _).grown h3 (by simp;omega) (fun k hk=>(hown.lt k hk).1)⟩
theorem push_run {t e:Nat} (ht:Tryz.prog.underlying t=some (.slice e)) (hi:(Tryz.prog.info? e).map (fun i=>(i.zero,i.size,i.bytes))=some (some (.agg #[.int .i64 0,.int .i64 0]),2,16))
  (W:World) (base q:Nat) (hq:W.heap.size=q) (hb:base≤W.heap.size) (v:Value) (l:List (Int×Int)) (hown:W.ownsRow base e 2 v l.length (runsC l)) (x y:Int) (hn:l.length≤900000) :
  ∃ A' c' w',(Builtin.append_ #[t,t] t #[v,.slice (some ⟨q,0,none⟩) 1 1]).run Tryz.prog (W.alloc (.cells #[.int .i64 x,.int .i64 y] e)) = .ok (.slice A' (l++[(x,y)]).length c') w' ∧
   Own w' base e 2 A' (l++[(x,y)]).length c' (runsC (l++[(x,y)]))∧Below base W w':=by
 obtain⟨v',w',h1,h2,h3⟩:=run_push ht hi rfl (by omega) (by omega) W base q hq hb v l.length (runsC l) hown [.int .i64 x,.int .i64 y] 1 rfl (by intro u hu;simp at hu;rcases hu with rfl | rfl <;> rfl) (by omega)
 have e1:runsC (l++[(x,y)])=runsC l++[.int .i64 x,.int .i64 y]:=by rw[runsC_append];rfl
 have e2:(l++[(x,y)]).length=l.length+1:=by simp
 rw[← e1,← e2]at h2;obtain⟨A',c',rfl,ho⟩:=Own.of_row h2 (runsC_one _);exact⟨A',c',w',h1,ho,h3⟩
theorem ownsRow_set {w:World} {base e sz n cap g:Nat} {xs:List Value} (h:w.ownsRow base e sz (.slice (some ⟨g,0,none⟩) n cap) n xs) (i:Nat) (u:Value):(w.setCell ⟨g,i,none⟩ u).ownsRow base e sz (.slice (some ⟨g,0,none⟩) n cap) n (xs.set i u):=by
 obtain⟨h1,h2⟩:=h;refine⟨by rw[List.length_set];exact h1,?_⟩
 rcases h2 with ⟨h2,_⟩ | ⟨g',cap',cur,hv,hg,hh,hn,hm,hs,hx⟩
 ·cases h2
 ·injection hv with e1 e2 e3
  injection e1 with e1;injection e1 with e1;subst e1;subst e3;refine .inr ⟨g,cap,cur.setIfInBounds i u,rfl,hg,heap_setCell_same w g i cur e u hh,hn,hm,by simpa using hs,?_⟩;rw[← hx];simp[List.take_set]
theorem Own.place {w:World} {base e sz n c:Nat} {A:Option Addr} {xs:List Value} (h:Own w base e sz A n c xs) (hn:0<n):∃ g,A=some ⟨g,0,none⟩∧base≤g∧g<w.heap.size∧(∀ j,w.frozen? ⟨g,j,none⟩=false)∧∀ j u,xs[j]?=some u→w.cell? ⟨g,j,none⟩=some u:=by
 rcases h.row.2 with ⟨_,h0⟩ | ⟨g,cap,cur,hv,hg,hh,_⟩
 ·omega
 ·injection hv with e1 e2 e3
  subst e1;obtain⟨b,o,e4,hb,hc⟩:=h.rd.at_ hn;injection e4 with e4;injection e4 with e4 e5;subst e4;subst e5;exact⟨g,rfl,hg,hb,fun j=>by simp[World.frozen?,hh],fun j u hu=>by have:=hc j u hu;rwa [Nat.zero_add]at this⟩
theorem own_later {w w':World} {base e sz n c:Nat} {A:Option Addr} {xs:List Value} (h:Own w base e sz A n c xs) (hb:Below w.heap.size w w'):Own w' base e sz A n c xs:=⟨ownsRow_later h.row hb,h.one⟩
theorem own_close {w:World} {base e n c g:Nat} {done:List (Int×Int)} {s t t':Int} (h:Own w base e 2 (some ⟨g,0,none⟩) n c (runsC (done++[(s,t)]))):Own (w.setCell ⟨g,done.length*2+1,none⟩ (.int .i64 t')) base e 2 (some ⟨g,0,none⟩) n c (runsC (done++[(s,t')])):=by
 have e1:(runsC (done++[(s,t)])).set (done.length*2+1) (.int .i64 t')=runsC (done++[(s,t')]):=by
  have e2:¬done.length*2+1<(runsC done).length:=by rw[runsC_len];omega
  rw[runsC_append,runsC_append,List.set_append,if_neg e2,runsC_len,Nat.add_sub_cancel_left];rfl
 refine⟨?_,runsC_one _⟩;rw[← e1];exact ownsRow_set h.row _ _
end Sp
end Go.Proofs.YtgeafpaognhokaaGreat
namespace Go.Proofs.YtgeafpaognhokaaGreat
open Go.ChangeShapes Go.WideShapes Go.ChangeAt Go.RowKit
namespace Rw
open Sp
section
variable {α:Type} {f:α→List Value} {k:Nat}
theorem flat_at (hf:∀ a,(f a).length=k):∀ (l:List α) (i j:Nat) (hi:i<l.length),j<k→(l.flatMap f)[i*k+j]?=(f l[i])[j]?
 | [],i,_,hi,_=>by simp at hi
 | a::l,0,j,_,hj=>by
  rw[List.flatMap_cons,Nat.zero_mul,Nat.zero_add,List.getElem?_append_left (by rw[hf];exact hj)];rfl
 | a::l,i+1,j,hi,hj=>by
  have ih:=flat_at hf l i j (by simpa using hi) hj
  have e:(i+1)*k+j=k+(i*k+j):=by rw[Nat.succ_mul];omega
  rw[List.flatMap_cons,e,List.getElem?_append_right (by rw[hf];omega),hf,Nat.add_sub_cancel_left,ih];rfl
theorem rd_elem (hf:∀ a,(f a).length=k) {w:World} {B n c:Nat} {A:Option Addr} {l:List α} (h:Rd w B k A n c (l.flatMap f)) {m:Nat} (hm:m<n) :
  ∃ b o,A=some ⟨b,o,none⟩∧b<B∧∀ (i:Nat) (hi:i<l.length) (j:Nat) (u:Value),(f l[i])[j]?=some u→w.cell? ⟨b,o+i*k+j,none⟩=some u:=by
 obtain⟨b,o,e,hb,hc⟩:=h.at_ (by omega);refine⟨b,o,e,hb,fun i hi j u hu=>?_⟩
 have hj:j<k:=by
  have:=(List.getElem?_eq_some_iff.1 hu).1
  rwa [hf]at this
 rw[Nat.add_assoc];exact hc _ _ ((flat_at hf l i j hi hj).trans hu)
theorem push (hf:∀ a,(f a).length=k) (h1:∀ a,∀ u∈f a,u.oneCell'=true) {t e by_:Nat} {z:Value} (ht:Tryz.prog.underlying t=some (.slice e)) (hi:(Tryz.prog.info? e).map (fun i=>(i.zero,i.size,i.bytes))=some (some z,k,by_)) (hzs:z.cells.size=k) (hk:0<k) (hby:by_≤1000000)
  (W:World) (base q:Nat) (hq:W.heap.size=q) (hb:base≤W.heap.size) (v:Value) (l:List α) (hown:W.ownsRow base e k v l.length (l.flatMap f)) (a:α) (cs:Array Value) (hcs:cs=(f a).toArray) (hn:l.length≤900000) :
  ∃ A' c' w',(Builtin.append_ #[t,t] t #[v,.slice (some ⟨q,0,none⟩) 1 1]).run Tryz.prog (W.alloc (.cells cs e)) = .ok (.slice A' (l++[a]).length c') w' ∧
   Own w' base e k A' (l++[a]).length c' ((l++[a]).flatMap f)∧Below base W w':=by
 subst hcs;obtain⟨v',w',r1,r2,r3⟩:=run_push ht hi hzs hk hby W base q hq hb v l.length (l.flatMap f) hown (f a) 1 (by rw[hf,Nat.one_mul]) (h1 a) (by omega)
 have e1:(l++[a]).flatMap f=l.flatMap f++f a:=by simp
 have e2:(l++[a]).length=l.length+1:=by simp
 rw[← e1,← e2]at r2
 obtain⟨A',c',rfl,ho⟩:=Own.of_row r2 (fun u hu=>by
  obtain⟨b,_,hu⟩:=List.mem_flatMap.1 hu
  exact h1 b u hu)
 exact⟨A',c',w',r1,ho,r3⟩
end
def spC (s:Int×Int×Int):List Value:=[.int .i64 s.1,.int .i64 s.2.1,.int .i64 s.2.2]
theorem spC_len (s:Int×Int×Int):(spC s).length=3:=rfl
theorem spC_one (s:Int×Int×Int):∀ u∈spC s,u.oneCell'=true:=by
 intro u hu;simp[spC]at hu
 rcases hu with rfl | rfl | rfl <;> rfl
def spsC (l:List (Int×Int×Int)):List Value:=l.flatMap spC
theorem rd_span {w:World} {B n c:Nat} {A:Option Addr} {l:List (Int×Int×Int)} (h:Rd w B 3 A n c (spsC l)) {m:Nat} (hm:m<n) :
  ∃ b o,A=some ⟨b,o,none⟩∧b<B∧∀ (i:Nat) (hi:i<l.length),w.cell? ⟨b,o+i*3,none⟩=some (.int .i64 l[i].1)∧w.cell? ⟨b,o+i*3+1,none⟩=some (.int .i64 l[i].2.1)∧w.cell? ⟨b,o+i*3+2,none⟩=some (.int .i64 l[i].2.2):=by
 obtain⟨b,o,e,hb,hc⟩:=rd_elem spC_len h hm;exact⟨b,o,e,hb,fun i hi=>⟨hc i hi 0 _ rfl,hc i hi 1 _ rfl,hc i hi 2 _ rfl⟩⟩
end Rw
end Go.Proofs.YtgeafpaognhokaaGreat
namespace Go.Proofs.YtgeafpaognhokaaGreat
open Go.ChangeShapes Go.WideShapes Go.ChangeAt Go.RowKit
namespace Rw
open Sp
structure SV where
 A:Option Addr
 n:Nat
 c:Nat
def SV.val (s:SV):Value:=.slice s.A s.n s.c
def sv0:SV:=⟨none,0,0⟩
def upd {α:Type} (f:Nat→α) (d:Nat) (x:α) (i:Nat):α:=if i=d then x else f i
theorem upd_same {α:Type} (f:Nat→α) (d:Nat) (x:α):upd f d x d=x:=by simp[upd]
theorem upd_other {α:Type} (f:Nat→α) {d i:Nat} (x:α) (h:i≠d):upd f d x i=f i:=by simp[upd,h]
structure Rows4 (W:World) (base e sz g:Nat) (s:Nat→SV) (q:Nat→List Value):Prop where
 low:g<base
 high:base≤W.heap.size
 free:Free g W
 cell:∀ d,d<4→W.cell? ⟨g,d,none⟩=some (.slice (s d).A (s d).n (s d).c)
 own:∀ d,d<4→Own W base e sz (s d).A (s d).n (s d).c (q d)
 apart:∀ d d',d<4→d'<4→d≠d'→∀ b,(s d).val.ownBlock=some b→(s d').val.ownBlock≠some b
namespace Rows4
variable {W:World} {base e sz g:Nat} {s:Nat→SV} {q:Nat→List Value}
theorem later {W':World} (h:Rows4 W base e sz g s q) (hb:Below W.heap.size W W'):Rows4 W' base e sz g s q:=
 ⟨h.low,Nat.le_trans h.high hb.size,h.free.later hb,fun d hd=>(hb.cell (p:=⟨g,d,none⟩) h.free.1).trans (h.cell d hd),fun d hd=>own_later (h.own d hd) hb,h.apart⟩
theorem nil {W:World} {base e sz g:Nat} (low:g<base) (high:base≤W.heap.size) (free:Free g W) (c:∀ d,d<4→W.cell? ⟨g,d,none⟩=some (.slice none 0 0)):Rows4 W base e sz g (fun _=>sv0) (fun _=>[]):=
 ⟨low,high,free,c,fun _ _=>⟨World.ownsRow_nil _ _ _ _,by simp⟩,fun _ _ _ _ _ b h=>by simp[sv0,SV.val,Value.ownBlock]at h⟩
theorem lt (h:Rows4 W base e sz g s q) {d b:Nat} (hd:d<4) (hb:(s d).val.ownBlock=some b):base≤b∧b<W.heap.size:=(h.own d hd).row.lt b hb
theorem rd (h:Rows4 W base e sz g s q) {d:Nat} (hd:d<4):Rd W W.heap.size sz (s d).A (s d).n (s d).c (q d):=(h.own d hd).rd
theorem push {t by_:Nat} {z:Value} (ht:Tryz.prog.underlying t=some (.slice e)) (hi:(Tryz.prog.info? e).map (fun i=>(i.zero,i.size,i.bytes))=some (some z,sz,by_)) (hzs:z.cells.size=sz) (hsz:0<sz) (hby:by_≤1000000)
  (h:Rows4 W base e sz g s q) {d:Nat} (hd:d<4) (p:Nat) (hp:W.heap.size=p) (news:List Value) (hm:news.length=1*sz) (h1:∀ u∈news,u.oneCell'=true) (hn:(s d).n≤900000) :
  ∃ A' c' w',(Builtin.append_ #[t,t] t #[.slice (s d).A (s d).n (s d).c,.slice (some ⟨p,0,none⟩) 1 1]).run Tryz.prog (W.alloc (.cells news.toArray e)) = .ok (.slice A' ((s d).n+1) c') w' ∧
   (∀ b,(s d).val.ownBlock≠some b→b<W.heap.size→∀ j,w'.cell? ⟨b,j,none⟩=W.cell? ⟨b,j,none⟩)∧Free g w'∧Below base W w' ∧
   Rows4 (w'.setCell ⟨g,d,none⟩ (.slice A' ((s d).n+1) c')) base e sz g (upd s d ⟨A',(s d).n+1,c'⟩) (upd q d (q d++news)):=by
 subst hp;obtain⟨i0,hi0,hz0,hz1,hz2⟩:=info_of hi;have hown:=(h.own d hd).row
 obtain⟨v',w',r1,r2,r3,r4⟩:=run_app (P:=Tryz.prog) (W.alloc (.cells news.toArray e)) base t t e i0 z sz by_ ht hi0 hz0 hz1 hz2 hzs hsz
  (hown.alloc _) (B:=W.heap.size+1) (A:=some ⟨W.heap.size,0,none⟩) (m:=1) (c:=1) (news:=news)
  ⟨hm,by omega,h1,fun _=>⟨_,_,rfl,by omega,fun j u hu=>by
   rw[Nat.zero_add,cell_of_row _ _ j _ _ (0,0) (heap_alloc_new _ _)]
   simpa using hu⟩⟩ (by omega) hby (by have:=h.high;simp;omega)
 obtain⟨A',c',rfl,ho⟩:=Own.of_row r2 (fun u hu=>by
  rcases List.mem_append.1 hu with hu | hu
  ·exact (h.own d hd).one u hu
  ·exact h1 u hu)
 have hblk:∀ b,(s d).val.ownBlock≠some b→b<W.heap.size→w'.heap[b]?=W.heap[b]?:=fun b hb hlt=>
  (r3.block b (by simp;omega) (fun e=>hb e.symm)).trans (heap_alloc_old W _ hlt)
 have hsize:W.heap.size≤w'.heap.size:=by have:=r3.size;simp at this;omega
 have hgd:∀ d',d'<4→(s d').val.ownBlock≠some g:=fun d' hd' hb=>by have:=(h.lt hd' hb).1;have:=h.low;omega
 have hfree:Free g w':=⟨Nat.lt_of_lt_of_le h.free.1 hsize,fun j=>(World.frozen?_of_block (a:=⟨g,j,none⟩) (hblk g (hgd d hd) h.free.1)).trans (h.free.2 j)⟩;have hbel:Below base W w':=((Below.refl base W).alloc h.high _).grown r3 (by have:=h.high;simp;omega) (fun k hk=>(h.lt hd hk).1)
 have hnewb:∀ b,(SV.val ⟨A',(s d).n+1,c'⟩).ownBlock=some b→b=W.heap.size+1∨(s d).val.ownBlock=some b:=fun b hb=>by
  rcases r4 with r4 | r4
  ·exact .inr (r4.symm.trans hb)
  ·have:some b=some (W.alloc (.cells news.toArray e)).heap.size:=hb.symm.trans r4
   injection this with this
   simp at this
   exact .inl this
 refine⟨A',c',w',r1,fun b hb hlt j=>World.cell?_of_block (a:=⟨b,j,none⟩) (hblk b hb hlt),hfree,hbel,⟨h.low,by have:=h.high;simpa [World.setCell] using Nat.le_trans this hsize,hfree.set _ _,?_,?_,?_⟩⟩
 ·intro d' hd'
  by_cases he:d'=d
  ·subst he
   rw[upd_same];have k0:w'.cell? ⟨g,d',none⟩=some (.slice (s d').A (s d').n (s d').c):=(World.cell?_of_block (a:=⟨g,d',none⟩) (hblk g (hgd d' hd) h.free.1)).trans (h.cell d' hd);have m0:=hfree.2 d';go_simp
  ·rw[upd_other _ _ he]
   rw[World.cell?_setCell_other w' ⟨g,d,none⟩ ⟨g,d',none⟩ _ (fun e=>by injection e with _ e;exact he e.symm)];exact (World.cell?_of_block (a:=⟨g,d',none⟩) (hblk g (hgd d hd) h.free.1)).trans (h.cell d' hd')
 ·intro d' hd'
  by_cases he:d'=d
  ·subst he
   rw[upd_same,upd_same];exact ho.set_below (a:=⟨g,d',none⟩) h.low _
  ·rw[upd_other _ _ he,upd_other _ _ he]
   refine Own.set_below ⟨?_,(h.own d' hd').one⟩ (a:=⟨g,d,none⟩) h.low _;refine ((h.own d' hd').row.alloc _).kept r3 ?_
   cases hv:(s d').val.ownBlock with
   | none=>exact .inl hv
   | some b=>exact .inr (fun e=>h.apart d' d hd' hd he b hv (e.symm.trans hv))
 ·intro d1 d2 h1 h2 hne b hb
  by_cases e1:d1=d
  ·subst e1
   rw[upd_same]at hb;rw[upd_other _ _ (Ne.symm hne)];intro hb2
   rcases hnewb b hb with hb' | hb'
   ·have:=(h.lt h2 hb2).2;omega
   ·exact h.apart d1 d2 h1 h2 hne b hb' hb2
  ·rw[upd_other _ _ e1]at hb
   by_cases e2:d2=d
   ·subst e2
    rw[upd_same];intro hb2
    rcases hnewb b hb2 with hb' | hb'
    ·have:=(h.lt h1 hb).2;omega
    ·exact h.apart d1 d2 h1 h2 hne b hb hb'
   ·rw[upd_other _ _ e2]
    exact h.apart d1 d2 h1 h2 hne b hb
end Rows4
end Rw
end Go.Proofs.YtgeafpaognhokaaGreat
namespace Go.Proofs.YtgeafpaognhokaaGreat
open Go.ChangeShapes Go.WideShapes Go.ChangeAt Go.RowKit
namespace Tr
open Rw
def entC (e:E):List Value:=[.int .i64 e.a,.int .i64 e.n,.string e.s,.int .i64 e.v]
theorem entC_len (e:E):(entC e).length=4:=rfl
theorem entC_one (e:E):∀ u∈entC e,u.oneCell'=true:=by
 intro u hu;simp[entC]at hu
 rcases hu with rfl | rfl | rfl | rfl <;> rfl
def entsC (l:List E):List Value:=l.flatMap entC
theorem at_lt {ks:List (ByteArray×T)} {i:Nat} (h:i<ks.length) (es:List E):SizeOf.sizeOf (ks[i]).2<SizeOf.sizeOf (T.mk es ks):=kid_lt (List.getElem_mem h)
def RdT (w:World) (B:Nat):T→SV→SV→Prop
 | .mk es ks,se,sk=>es.length=se.n∧Rd w B 4 se.A se.n se.c (entsC es)∧ks.length=sk.n∧∃ xs:List Value,Rd w B 3 sk.A sk.n sk.c xs ∧
   ∀ (i:Nat) (h:i<ks.length),∃ se' sk':SV,xs[i*3]?=some (.string (ks[i]).1)∧xs[i*3+1]?=some (.slice se'.A se'.n se'.c)∧xs[i*3+2]?=some (.slice sk'.A sk'.n sk'.c)∧RdT w B (ks[i]).2 se' sk'
termination_by t=>SizeOf.sizeOf t
decreasing_by exact at_lt h es
theorem rdT_mk (w:World) (B:Nat) (es:List E) (ks:List (ByteArray×T)) (se sk:SV):RdT w B (.mk es ks) se sk↔(es.length=se.n∧Rd w B 4 se.A se.n se.c (entsC es)∧ks.length=sk.n∧∃ xs:List Value,Rd w B 3 sk.A sk.n sk.c xs ∧
   ∀ (i:Nat) (h:i<ks.length),∃ se' sk':SV,xs[i*3]?=some (.string (ks[i]).1)∧xs[i*3+1]?=some (.slice se'.A se'.n se'.c)∧xs[i*3+2]?=some (.slice sk'.A sk'.n sk'.c)∧RdT w B (ks[i]).2 se' sk'):=by
 rw[RdT]
theorem RdT.keep {w w':World} {B:Nat} (hk:∀ p:Addr,p.block<B→w'.cell? p=w.cell? p):∀ (t:T) {se sk:SV},RdT w B t se sk→RdT w' B t se sk:=by
 intro t
 induction t using T.ind with
 | h es ks ih=>
  intro se sk h;rw[rdT_mk]at h ⊢;obtain⟨h1,h2,h3,xs,h4,h5⟩:=h;refine⟨h1,h2.keep hk,h3,xs,h4.keep hk,fun i hi=>?_⟩;obtain⟨se',sk',e1,e2,e3,e4⟩:=h5 i hi;exact⟨se',sk',e1,e2,e3,ih _ (List.getElem_mem hi) e4⟩
theorem RdT.more {w:World} {B B':Nat} (hB:B≤B'):∀ (t:T) {se sk:SV},RdT w B t se sk→RdT w B' t se sk:=by
 intro t
 induction t using T.ind with
 | h es ks ih=>
  intro se sk h;rw[rdT_mk]at h ⊢;obtain⟨h1,h2,h3,xs,h4,h5⟩:=h;refine⟨h1,h2.more hB,h3,xs,h4.more hB,fun i hi=>?_⟩;obtain⟨se',sk',e1,e2,e3,e4⟩:=h5 i hi;exact⟨se',sk',e1,e2,e3,ih _ (List.getElem_mem hi) e4⟩
theorem RdT.below {w w':World} {B:Nat} {t:T} {se sk:SV} (h:RdT w B t se sk) (hb:Below B w w'):RdT w' B t se sk:=RdT.keep (fun _ hp=>hb.cell hp) t h
theorem RdT.later {w w':World} {t:T} {se sk:SV} (h:RdT w w.heap.size t se sk) (hb:Below w.heap.size w w'):RdT w' w'.heap.size t se sk:=RdT.more hb.size t (h.below hb)
theorem RdT.none (w:World) (B c c':Nat):RdT w B none_ ⟨none,0,c⟩ ⟨none,0,c'⟩:=by
 unfold none_;rw[rdT_mk];exact⟨rfl,Rd.nil _,rfl,[],Rd.nil _,fun i hi=>by simp at hi⟩
theorem rd_ent {w:World} {B:Nat} {es:List E} {ks:List (ByteArray×T)} {Ae Ak:Option Addr} {ne nk ce ck:Nat} (h:RdT w B (.mk es ks) ⟨Ae,ne,ce⟩ ⟨Ak,nk,ck⟩) (hn:0<ne) :
  ∃ b o,Ae=some ⟨b,o,none⟩∧b<B∧∀ (i:Nat) (hi:i<es.length),w.cell? ⟨b,o+i*4,none⟩=some (.int .i64 es[i].a)∧w.cell? ⟨b,o+i*4+1,none⟩=some (.int .i64 es[i].n)∧w.cell? ⟨b,o+i*4+2,none⟩=some (.string es[i].s)∧w.cell? ⟨b,o+i*4+3,none⟩=some (.int .i64 es[i].v):=by
 rw[rdT_mk]at h;obtain⟨b,o,e,hb,hc⟩:=rd_elem entC_len h.2.1 hn;exact⟨b,o,e,hb,fun i hi=>⟨hc i hi 0 _ rfl,hc i hi 1 _ rfl,hc i hi 2 _ rfl,hc i hi 3 _ rfl⟩⟩
theorem rd_kid {w:World} {B:Nat} {es:List E} {ks:List (ByteArray×T)} {Ae Ak:Option Addr} {ne nk ce ck:Nat} (h:RdT w B (.mk es ks) ⟨Ae,ne,ce⟩ ⟨Ak,nk,ck⟩) (hn:0<nk) :
  ∃ b o,Ak=some ⟨b,o,none⟩∧b<B∧∀ (i:Nat) (hi:i<ks.length),∃ se' sk':SV,w.cell? ⟨b,o+i*3,none⟩=some (.string (ks[i]).1)∧w.cell? ⟨b,o+i*3+1,none⟩=some (.slice se'.A se'.n se'.c)∧w.cell? ⟨b,o+i*3+2,none⟩=some (.slice sk'.A sk'.n sk'.c)∧RdT w B (ks[i]).2 se' sk':=by
 rw[rdT_mk]at h;obtain⟨_,_,_,xs,h4,h5⟩:=h;obtain⟨b,o,e,hb,hc⟩:=h4.at_ hn;refine⟨b,o,e,hb,fun i hi=>?_⟩;obtain⟨se',sk',e1,e2,e3,e4⟩:=h5 i hi;refine⟨se',sk',hc _ _ e1,?_,?_,e4⟩
 ·rw[Nat.add_assoc];exact hc _ _ e2
 ·rw[Nat.add_assoc];exact hc _ _ e3
theorem rd_lens {w:World} {B:Nat} {es:List E} {ks:List (ByteArray×T)} {Ae Ak:Option Addr} {ne nk ce ck:Nat} (h:RdT w B (.mk es ks) ⟨Ae,ne,ce⟩ ⟨Ak,nk,ck⟩):es.length=ne∧ks.length=nk:=by
 rw[rdT_mk]at h;exact⟨h.1,h.2.2.1⟩
def ksum (f:ByteArray×T→Nat) (ks:List (ByteArray×T)) (k:Nat):Nat:=((ks.take k).map f).sum
theorem ksum_zero (f:ByteArray×T→Nat) (ks:List (ByteArray×T)):ksum f ks 0=0:=rfl
theorem ksum_succ (f:ByteArray×T→Nat) {ks:List (ByteArray×T)} {k:Nat} (h:k<ks.length):ksum f ks (k+1)=ksum f ks k+f ks[k]:=by
 unfold ksum;rw[List.take_succ_eq_append_getElem h];simp only[List.map_append,List.sum_append,List.map_cons,List.map_nil,List.sum_cons,List.sum_nil,Nat.add_zero]
theorem ksum_all (f:ByteArray×T→Nat) {ks:List (ByteArray×T)} {n:Nat} (h:ks.length=n):ksum f ks n=(ks.map f).sum:=by
 unfold ksum;rw[List.take_of_length_le (by omega)]
theorem ksum_le (f:ByteArray×T→Nat) (ks:List (ByteArray×T)) (k:Nat):ksum f ks k≤(ks.map f).sum:=by
 unfold ksum
 conv=>rhs;rw[← List.take_append_drop k ks]
 rw[List.map_append,List.sum_append];omega
end Tr
end Go.Proofs.YtgeafpaognhokaaGreat
namespace Go.Proofs.YtgeafpaognhokaaGreat
open Go.ChangeShapes Go.WideShapes Go.ChangeAt Go.RowKit
namespace Dt
theorem nan_int (a:Int) (w:World):Calls Tryz.prog 192 #[.int .i64 a] w fun e w'=>e = .returned (.bool false)∧w=w':=by
 have f1:(a != a)=false:=by simp
 go_enter Tryz.func192,Tryz.ntmps192;go_wp2;go_ret;exact⟨rfl,rfl⟩
theorem nan_int64 (a:Int) (w:World):Calls Tryz.prog 193 #[.int .i64 a] w fun e w'=>e = .returned (.bool false)∧w=w':=by
 have f1:(a != a)=false:=by simp
 go_enter Tryz.func193,Tryz.ntmps193;go_wp2;go_ret;exact⟨rfl,rfl⟩
theorem cmp_int (a b:Int) (w:World):Calls Tryz.prog 165 #[.int .i64 a,.int .i64 b] w fun e w'=>e = .returned (.int .i64 (cmp1 a b))∧w=w':=by
 rcases Int.lt_trichotomy a b with h | rfl | h
 ·rw[cmp1_lt h]
  have f1:decide (a<b)=true:=by simpa using h
  go_enter Tryz.func165,Tryz.ntmps165;go_wp2_with (go_at_call 192;refine (nan_int _ _).mono ?_;rintro e w' ⟨rfl,rfl⟩);go_ret;exact⟨rfl,rfl⟩
 ·rw[cmp1_eq]
  have f1:decide (a<a)=false:=by simp
  go_enter Tryz.func165,Tryz.ntmps165;go_wp2_with (go_at_call 192;refine (nan_int _ _).mono ?_;rintro e w' ⟨rfl,rfl⟩);go_ret;exact⟨rfl,rfl⟩
 ·rw[cmp1_gt h]
  have f1:decide (a<b)=false:=by simp;omega
  have f2:decide (b<a)=true:=by simpa using h
  go_enter Tryz.func165,Tryz.ntmps165;go_wp2_with (go_at_call 192;refine (nan_int _ _).mono ?_;rintro e w' ⟨rfl,rfl⟩);go_ret;exact⟨rfl,rfl⟩
theorem cmp_int64 (a b:Int) (w:World):Calls Tryz.prog 166 #[.int .i64 a,.int .i64 b] w fun e w'=>e = .returned (.int .i64 (cmp1 a b))∧w=w':=by
 rcases Int.lt_trichotomy a b with h | rfl | h
 ·rw[cmp1_lt h]
  have f1:decide (a<b)=true:=by simpa using h
  go_enter Tryz.func166,Tryz.ntmps166;go_wp2_with (go_at_call 193;refine (nan_int64 _ _).mono ?_;rintro e w' ⟨rfl,rfl⟩);go_ret;exact⟨rfl,rfl⟩
 ·rw[cmp1_eq]
  have f1:decide (a<a)=false:=by simp
  go_enter Tryz.func166,Tryz.ntmps166;go_wp2_with (go_at_call 193;refine (nan_int64 _ _).mono ?_;rintro e w' ⟨rfl,rfl⟩);go_ret;exact⟨rfl,rfl⟩
 ·rw[cmp1_gt h]
  have f1:decide (a<b)=false:=by simp;omega
  have f2:decide (b<a)=true:=by simpa using h
  go_enter Tryz.func166,Tryz.ntmps166;go_wp2_with (go_at_call 193;refine (nan_int64 _ _).mono ?_;rintro e w' ⟨rfl,rfl⟩);go_ret;exact⟨rfl,rfl⟩
theorem or_two (g:Nat) (x y:Int) (w:World) (h0:w.cell? ⟨g,0,none⟩=some (.int .i64 x)) (h1:w.cell? ⟨g,1,none⟩=some (.int .i64 y)) :
  Calls Tryz.prog 164 #[.slice (some ⟨g,0,none⟩) 2 2] w fun e w'=>e = .returned (.int .i64 (if x=0 then y else x))∧w=w':=by
 by_cases hx:x=0
 ·rw[if_pos hx]
  subst hx
  by_cases hy:y=0
  ·subst hy
   go_enter Tryz.func164,Tryz.ntmps164;go_wp2
   go_loop [8] (fun i=>∃ k:Nat,k≤2∧i = .int .i64 k) (fun i=>2-(intOf i).toNat)
   case atStart=>exact⟨0,by omega,rfl⟩
   case round=>
    obtain⟨k,hk,rfl⟩:=hrel
    rcases (by omega:k=0∨k=1∨k=2)with rfl | rfl | rfl
    ·go_wp2
     go_round
     case rel=>exact⟨1,by omega,rfl⟩
     case measure=>simp[intOf]
    ·go_wp2
     go_round
     case rel=>exact⟨2,by omega,rfl⟩
     case measure=>simp[intOf]
    ·go_wp2
     go_ret;exact⟨rfl,rfl⟩
  ·have f1:(y != 0)=true:=by simpa using hy
   go_enter Tryz.func164,Tryz.ntmps164;go_wp2
   go_loop [8] (fun i=>∃ k:Nat,k≤1∧i = .int .i64 k) (fun i=>2-(intOf i).toNat)
   case atStart=>exact⟨0,by omega,rfl⟩
   case round=>
    obtain⟨k,hk,rfl⟩:=hrel
    rcases (by omega:k=0∨k=1)with rfl | rfl
    ·go_wp2
     go_round
     case rel=>exact⟨1,by omega,rfl⟩
     case measure=>simp[intOf]
    ·go_wp2
     go_ret;exact⟨rfl,rfl⟩
 ·rw[if_neg hx]
  have f1:(x != 0)=true:=by simpa using hx
  go_enter Tryz.func164,Tryz.ntmps164;go_wp2
  go_loop [8] (fun i=>i = .int .i64 0) (fun i=>2-(intOf i).toNat)
  case atStart=>rfl
  case round=>
   subst hrel;go_wp2;go_ret;exact⟨rfl,rfl⟩
theorem box2_below (w:World) (x y:Array Value) (t u:TypeId):Below w.heap.size w ((w.alloc (.cells x t)).alloc (.cells y u)):=((Below.refl _ _).alloc (Nat.le_refl _) _).alloc (by simp) _
set_option maxRecDepth 100000 in
set_option maxHeartbeats 400000 in
theorem less_any (a n b m:Int) (w:World):Calls Tryz.prog 120 #[.agg #[.int .i64 a,.int .i64 n],.agg #[.int .i64 b,.int .i64 m]] w fun e w'=>e = .returned (.bool (lessB a n b m))∧Below w.heap.size w w':=by
 by_cases h0:a=b
 ·subst h0
  have g0:(a != a)=false:=by simp
  by_cases h1:n<m
  ·have f1:decide (n<m)=true:=by simpa using h1
   go_enter Tryz.func120,Tryz.ntmps120;go_wp2;go_ret;exact⟨ret_bool (by unfold lessB;simp;omega),box2_below _ _ _ _ _⟩
  ·have f1:decide (n<m)=false:=by simp;omega
   go_enter Tryz.func120,Tryz.ntmps120;go_wp2;go_ret;exact⟨ret_bool (by unfold lessB;simp;omega),box2_below _ _ _ _ _⟩
 ·have g0:(a != b)=true:=by simpa using h0
  by_cases h1:a<b
  ·have f1:decide (a<b)=true:=by simpa using h1
   go_enter Tryz.func120,Tryz.ntmps120;go_wp2;go_ret;exact⟨ret_bool (by unfold lessB;simp;omega),box2_below _ _ _ _ _⟩
  ·have f1:decide (a<b)=false:=by simp;omega
   go_enter Tryz.func120,Tryz.ntmps120;go_wp2;go_ret;exact⟨ret_bool (by unfold lessB;simp;omega),box2_below _ _ _ _ _⟩
theorem cmpI_or (a n b m:Int):(if cmp1 a b=0 then cmp1 n m else cmp1 a b)=cmpI a n b m:=by
 unfold cmp1 cmpI
 repeat' split
 all_goals omega
set_option maxRecDepth 100000 in
set_option maxHeartbeats 400000 in
theorem compare_any (a n b m:Int) (w:World):Calls Tryz.prog 134 #[.agg #[.int .i64 a,.int .i64 n],.agg #[.int .i64 b,.int .i64 m]] w fun e w'=>e = .returned (.int .i64 (cmpI a n b m))∧Below w.heap.size w w':=by
 have HC:=Lib.hid (cmpI_or a n b m);obtain⟨x,hx⟩:∃ x,x=cmp1 a b:=⟨_,rfl⟩;obtain⟨y,hy⟩:∃ y,y=cmp1 n m:=⟨_,rfl⟩;rw[← hx,← hy]at HC
 have H1:∀ W,Hid (Calls Tryz.prog 165 #[.int .i64 a,.int .i64 b] W fun e w'=>e = .returned (.int .i64 x)∧w'=W):=fun W=>by rw[hx];exact (cmp_int a b W).mono fun _ _ h=>⟨h.1,h.2.symm⟩
 have H2:∀ W,Hid (Calls Tryz.prog 166 #[.int .i64 n,.int .i64 m] W fun e w'=>e = .returned (.int .i64 y)∧w'=W):=fun W=>by rw[hy];exact (cmp_int64 n m W).mono fun _ _ h=>⟨h.1,h.2.symm⟩
 clear hx hy;go_enter Tryz.func134,Tryz.ntmps134;go_wp2;have hb:=Lib.hid (box2_below w #[.int .i64 a,.int .i64 n] #[.int .i64 b,.int .i64 m] 37 37);obtain⟨p,hp⟩:∃ p,p=w.heap.size:=⟨_,rfl⟩;obtain⟨W,hW⟩:∃ W,W=(w.alloc (.cells #[.int .i64 a,.int .i64 n] 37)).alloc (.cells #[.int .i64 b,.int .i64 m] 37):=⟨_,rfl⟩
 have k0:W.cell? ⟨p,0,none⟩=some (.int .i64 a):=by rw[hW,hp];go_simp
 have k1:W.cell? ⟨p,1,none⟩=some (.int .i64 n):=by rw[hW,hp];go_simp
 have k2:W.cell? ⟨p+1,0,none⟩=some (.int .i64 b):=by rw[hW,hp];go_simp
 have k3:W.cell? ⟨p+1,1,none⟩=some (.int .i64 m):=by rw[hW,hp];go_simp
 rw[← hW]at hb ⊢;rw[← hp];have HP:=Lib.hid hp;clear hW hp;refine wp_region_still_tail 10 (by kernel_rfl) (by kernel_rfl) ?_;simp only[List.take_succ_cons,List.take_zero,List.drop_succ_cons,List.drop_zero]
 still_step
 still_step
 still_step
 still_step
 still_call (H1 _).out
 still_step
 still_step
 still_step
 still_step
 still_call (H2 _).out
 refine wpStill_nil ?_
 change wpList _ _ _ _ _ W.drew
 have hb2:Hid (Below w.heap.size w (W.drew.alloc (.cells #[.int .i64 x,.int .i64 y] 3))):=((bel_drewN hb.out 1)).alloc (by have:=hb.out.size;simpa using this) _;clear H1 H2 k0 k1 k2 k3 hb
 generalize W.drew=W2 at *
 go_wp2_with (go_at_call 164;refine (or_two W2.heap.size x y _ (by go_simp) (by go_simp)).mono ?_;rw[HC.out];rintro e w' ⟨rfl,rfl⟩);go_ret;exact⟨rfl,hb2.out⟩

end Dt
end Go.Proofs.YtgeafpaognhokaaGreat
namespace Go.Proofs.YtgeafpaognhokaaGreat
open Go.ChangeShapes Go.WideShapes Go.ChangeAt Go.RowKit
namespace Tr
open Sp Rw
theorem upon_append {P:Program} {o:Oper} {a:Go.Act} {K:Go.Act→World→Prop} {Q:Exit→Go.Act→World→Prop} {w w':World} {v xv v':Value} (s x:Operand) (t:TypeId)
  (ho:o.op = .call { callee:=.builtin .append,args:=#[s,x],argTypes:=#[t,t] }) (hs:a.eval s=v) (hx:a.eval x=xv)
  (hr:(Builtin.append_ #[t,t] o.type #[v,xv]).run P w = .ok v' w') (h:K (a.put o.dst v') w'):Oper.upon P o a K Q ((execOp a.eval o).run P w):=by
 unfold execOp;simp only[ho,resolve,invoke,builtin,Sem.run_bind,Sem.run_pure,Result.andThen_ok,List.map_toArray,List.map_cons,List.map_nil,hs,hx,hr];exact h
theorem empty_any (Ae Ak:Option Addr) (ne nk ce ck:Nat) (w:World):Calls Tryz.prog 136 #[.agg #[.slice Ae ne ce,.slice Ak nk ck]] w fun e w'=>e = .returned (.bool (decide (ne=0∧nk=0)))∧Below w.heap.size w w':=by
 by_cases h0:ne=0
 ·by_cases h1:nk=0
  ·have f0:((ne:Int)==0)=true:=by simpa using h0
   have f1:((nk:Int)==0)=true:=by simpa using h1
   go_enter Tryz.func136,Tryz.ntmps136;go_wp2;go_ret;exact⟨Dt.ret_bool (by simp[h0,h1]),Dt.box_below _ _ _⟩
  ·have f0:((ne:Int)==0)=true:=by simpa using h0
   have f1:((nk:Int)==0)=false:=by simpa using h1
   go_enter Tryz.func136,Tryz.ntmps136;go_wp2;go_ret;exact⟨Dt.ret_bool (by simp[h1]),Dt.box_below _ _ _⟩
 ·have f0:((ne:Int)==0)=false:=by simpa using h0
  go_enter Tryz.func136,Tryz.ntmps136;go_wp2;go_ret;exact⟨Dt.ret_bool (by simp[h0]),Dt.box_below _ _ _⟩
def keyB (k:ByteArray):Bool:=decide (1≤k.size∧k.size≤30)
theorem keyB_iff {k:ByteArray} : keyB k=true↔KeyOk k:=decide_eq_true_iff (p:=1≤k.size∧k.size≤30)
theorem rightKey_any (k:ByteArray) (w:World):Calls Tryz.prog 135 #[.string k] w fun e w'=>e = .returned (.bool (keyB k))∧w=w':=by
 by_cases h0:1≤k.size
 ·by_cases h1:k.size≤30
  ·have f0:decide ((1:Int)≤(k.size:Int))=true:=by simp;omega
   have f1:decide ((k.size:Int)≤30)=true:=by simp;omega
   go_enter Tryz.func135,Tryz.ntmps135;go_wp2;go_ret;exact⟨Dt.ret_bool (by unfold keyB;simp[h0,h1]),rfl⟩
  ·have f0:decide ((1:Int)≤(k.size:Int))=true:=by simp;omega
   have f1:decide ((k.size:Int)≤30)=false:=by simp;omega
   go_enter Tryz.func135,Tryz.ntmps135;go_wp2;go_ret;exact⟨Dt.ret_bool (by unfold keyB;simp[h1]),rfl⟩
 ·have f0:decide ((1:Int)≤(k.size:Int))=false:=by simp;omega
  go_enter Tryz.func135,Tryz.ntmps135;go_wp2;go_ret;exact⟨Dt.ret_bool (by unfold keyB;simp[h0]),rfl⟩
theorem refkey_any (k:ByteArray) (w:World):Calls Tryz.prog 44 #[.string k] w fun e w'=>e = .returned (.bool (keyB k))∧w=w':=by
 by_cases h0:1≤k.size
 ·by_cases h1:k.size≤30
  ·have f0:decide ((1:Int)≤(k.size:Int))=true:=by simp;omega
   have f1:decide ((k.size:Int)≤30)=true:=by simp;omega
   go_enter Tryz.func44,Tryz.ntmps44;go_wp2;go_ret;exact⟨Dt.ret_bool (by unfold keyB;simp[h0,h1]),rfl⟩
  ·have f0:decide ((1:Int)≤(k.size:Int))=true:=by simp;omega
   have f1:decide ((k.size:Int)≤30)=false:=by simp;omega
   go_enter Tryz.func44,Tryz.ntmps44;go_wp2;go_ret;exact⟨Dt.ret_bool (by unfold keyB;simp[h1]),rfl⟩
 ·have f0:decide ((1:Int)≤(k.size:Int))=false:=by simp;omega
  go_enter Tryz.func44,Tryz.ntmps44;go_wp2;go_ret;exact⟨Dt.ret_bool (by unfold keyB;simp[h0]),rfl⟩
def entB (e:E):Bool:=Dt.rightB e.a e.n&&decide (e.s.size≤30 ∧ -1099511627776≤e.v∧e.v≤1099511627776)
theorem entB_iff {e:E} : entB e=true↔RightE e:=by
 unfold entB RightE;rw[Bool.and_eq_true,decide_eq_true_iff]
def entV (e:E):Value:=.agg #[.int .i64 e.a,.int .i64 e.n,.string e.s,.int .i64 e.v]
theorem entB_no {e:E} (h:Dt.rightB e.a e.n=false):entB e=false:=by unfold entB;rw[h,Bool.false_and]
theorem entB_bad {e:E} (h:¬(e.s.size≤30 ∧ -1099511627776≤e.v∧e.v≤1099511627776)):entB e=false:=by unfold entB;rw[decide_eq_false h,Bool.and_false]
set_option maxHeartbeats 800000 in
theorem rightEntry_any (e:E) (w:World):Calls Tryz.prog 133 #[.agg #[.int .i64 e.a,.int .i64 e.n,.string e.s,.int .i64 e.v]] w fun r w'=>r = .returned (.bool (entB e))∧Below w.heap.size w w':=by
 have HR:=fun W=>Lib.hid (Dt.right_any e.a e.n W);obtain⟨a,n,s,v⟩:=e;dsimp only at HR ⊢
 cases hd:Dt.rightB a n with
 | false=>
  rw[hd]at HR;have hz:entB ⟨a,n,s,v⟩=false:=entB_no hd;rw[hz];clear hz hd;go_enter Tryz.func133,Tryz.ntmps133;go_wp2_with (go_at_call 163;refine (HR _).out.mono ?_;rintro e w1 ⟨rfl,hb⟩;have HB:=Lib.hid hb;clear hb);go_ret;exact⟨rfl,(Dt.box_below _ _ _).trans (HB.out.mono (by simp))⟩
 | true=>
  rw[hd]at HR
  by_cases h1:s.size≤30
  ·have f1:decide ((s.size:Int)≤30)=true:=by simp;omega
   by_cases h2 : -1099511627776≤v
   ·have f2:decide (-1099511627776≤v)=true:=decide_eq_true h2
    by_cases h3:v≤1099511627776
    ·have f3:decide (v≤1099511627776)=true:=decide_eq_true h3
     have hz:entB ⟨a,n,s,v⟩=true:=entB_iff.2 ⟨hd,h1,h2,h3⟩;rw[hz];clear hz hd h1 h2 h3;go_enter Tryz.func133,Tryz.ntmps133;go_wp2_with (go_at_call 163;have hk:=Lib.hid (((((Kept.nil w).alloc (.cells #[.int .i64 a,.int .i64 n,.string s,.int .i64 v] 97)).cons_of (p:=⟨w.heap.size,2,none⟩) (v:=.string s) (by go_simp)).cons_of (p:=⟨w.heap.size,3,none⟩) (v:=.int .i64 v) (by go_simp)));refine (HR _).out.mono ?_;rintro e w1 ⟨rfl,hb⟩;have HK:=Lib.hid (hk.out.later hb);have k0:=HK.out.c0;have k1:=HK.out.c1;clear hb hk);go_ret;exact⟨rfl,HK.out.below⟩
    ·have f3:decide (v≤1099511627776)=false:=decide_eq_false h3
     have hz:entB ⟨a,n,s,v⟩=false:=entB_bad (by rintro⟨_,_,h⟩;exact h3 h);rw[hz];clear hz hd h1 h2 h3;go_enter Tryz.func133,Tryz.ntmps133;go_wp2_with (go_at_call 163;have hk:=Lib.hid (((((Kept.nil w).alloc (.cells #[.int .i64 a,.int .i64 n,.string s,.int .i64 v] 97)).cons_of (p:=⟨w.heap.size,2,none⟩) (v:=.string s) (by go_simp)).cons_of (p:=⟨w.heap.size,3,none⟩) (v:=.int .i64 v) (by go_simp)));refine (HR _).out.mono ?_;rintro e w1 ⟨rfl,hb⟩;have HK:=Lib.hid (hk.out.later hb);have k0:=HK.out.c0;have k1:=HK.out.c1;clear hb hk);go_ret;exact⟨rfl,HK.out.below⟩
   ·have f2:decide (-1099511627776≤v)=false:=decide_eq_false h2
    have hz:entB ⟨a,n,s,v⟩=false:=entB_bad (by rintro⟨_,h,_⟩;exact h2 h);rw[hz]
    by_cases h3:v≤1099511627776
    ·have f3:decide (v≤1099511627776)=true:=decide_eq_true h3
     clear hz hd h1 h2 h3;go_enter Tryz.func133,Tryz.ntmps133;go_wp2_with (go_at_call 163;have hk:=Lib.hid (((((Kept.nil w).alloc (.cells #[.int .i64 a,.int .i64 n,.string s,.int .i64 v] 97)).cons_of (p:=⟨w.heap.size,2,none⟩) (v:=.string s) (by go_simp)).cons_of (p:=⟨w.heap.size,3,none⟩) (v:=.int .i64 v) (by go_simp)));refine (HR _).out.mono ?_;rintro e w1 ⟨rfl,hb⟩;have HK:=Lib.hid (hk.out.later hb);have k0:=HK.out.c0;have k1:=HK.out.c1;clear hb hk);go_ret;exact⟨rfl,HK.out.below⟩
    ·omega
  ·have f1:decide ((s.size:Int)≤30)=false:=by simp;omega
   have hz:entB ⟨a,n,s,v⟩=false:=entB_bad (by rintro⟨h,_⟩;exact h1 h);rw[hz];clear hz hd h1;go_enter Tryz.func133,Tryz.ntmps133;go_wp2_with (go_at_call 163;have hk:=Lib.hid (((((Kept.nil w).alloc (.cells #[.int .i64 a,.int .i64 n,.string s,.int .i64 v] 97)).cons_of (p:=⟨w.heap.size,2,none⟩) (v:=.string s) (by go_simp)).cons_of (p:=⟨w.heap.size,3,none⟩) (v:=.int .i64 v) (by go_simp)));refine (HR _).out.mono ?_;rintro e w1 ⟨rfl,hb⟩;have HK:=Lib.hid (hk.out.later hb);have k0:=HK.out.c0;have k1:=HK.out.c1;clear hb hk);go_ret;exact⟨rfl,HK.out.below⟩
set_option maxHeartbeats 800000 in
theorem refentry_any (e:E) (w:World):Calls Tryz.prog 119 #[.agg #[.int .i64 e.a,.int .i64 e.n,.string e.s,.int .i64 e.v]] w fun r w'=>r = .returned (.bool (entB e))∧Below w.heap.size w w':=by
 have HR:=fun W=>Lib.hid (Dt.refright_any e.a e.n W);obtain⟨a,n,s,v⟩:=e;dsimp only at HR ⊢
 cases hd:Dt.rightB a n with
 | false=>
  rw[hd]at HR;have hz:entB ⟨a,n,s,v⟩=false:=entB_no hd;rw[hz];clear hz hd;go_enter Tryz.func119,Tryz.ntmps119;go_wp2_with (go_at_call 80;refine (HR _).out.mono ?_;rintro e w1 ⟨rfl,hb⟩;have HB:=Lib.hid hb;clear hb);go_ret;exact⟨rfl,(Dt.box_below _ _ _).trans (HB.out.mono (by simp))⟩
 | true=>
  rw[hd]at HR
  by_cases h1:s.size≤30
  ·have f1:decide ((s.size:Int)≤30)=true:=by simp;omega
   by_cases h2 : -1099511627776≤v
   ·have f2:decide (-1099511627776≤v)=true:=decide_eq_true h2
    by_cases h3:v≤1099511627776
    ·have f3:decide (v≤1099511627776)=true:=decide_eq_true h3
     have hz:entB ⟨a,n,s,v⟩=true:=entB_iff.2 ⟨hd,h1,h2,h3⟩;rw[hz];clear hz hd h1 h2 h3;go_enter Tryz.func119,Tryz.ntmps119;go_wp2_with (go_at_call 80;have hk:=Lib.hid (((((Kept.nil w).alloc (.cells #[.int .i64 a,.int .i64 n,.string s,.int .i64 v] 97)).cons_of (p:=⟨w.heap.size,2,none⟩) (v:=.string s) (by go_simp)).cons_of (p:=⟨w.heap.size,3,none⟩) (v:=.int .i64 v) (by go_simp)));refine (HR _).out.mono ?_;rintro e w1 ⟨rfl,hb⟩;have HK:=Lib.hid (hk.out.later hb);have k0:=HK.out.c0;have k1:=HK.out.c1;clear hb hk);go_ret;exact⟨rfl,HK.out.below⟩
    ·have f3:decide (v≤1099511627776)=false:=decide_eq_false h3
     have hz:entB ⟨a,n,s,v⟩=false:=entB_bad (by rintro⟨_,_,h⟩;exact h3 h);rw[hz];clear hz hd h1 h2 h3;go_enter Tryz.func119,Tryz.ntmps119;go_wp2_with (go_at_call 80;have hk:=Lib.hid (((((Kept.nil w).alloc (.cells #[.int .i64 a,.int .i64 n,.string s,.int .i64 v] 97)).cons_of (p:=⟨w.heap.size,2,none⟩) (v:=.string s) (by go_simp)).cons_of (p:=⟨w.heap.size,3,none⟩) (v:=.int .i64 v) (by go_simp)));refine (HR _).out.mono ?_;rintro e w1 ⟨rfl,hb⟩;have HK:=Lib.hid (hk.out.later hb);have k0:=HK.out.c0;have k1:=HK.out.c1;clear hb hk);go_ret;exact⟨rfl,HK.out.below⟩
   ·have f2:decide (-1099511627776≤v)=false:=decide_eq_false h2
    have hz:entB ⟨a,n,s,v⟩=false:=entB_bad (by rintro⟨_,h,_⟩;exact h2 h);rw[hz]
    by_cases h3:v≤1099511627776
    ·have f3:decide (v≤1099511627776)=true:=decide_eq_true h3
     clear hz hd h1 h2 h3;go_enter Tryz.func119,Tryz.ntmps119;go_wp2_with (go_at_call 80;have hk:=Lib.hid (((((Kept.nil w).alloc (.cells #[.int .i64 a,.int .i64 n,.string s,.int .i64 v] 97)).cons_of (p:=⟨w.heap.size,2,none⟩) (v:=.string s) (by go_simp)).cons_of (p:=⟨w.heap.size,3,none⟩) (v:=.int .i64 v) (by go_simp)));refine (HR _).out.mono ?_;rintro e w1 ⟨rfl,hb⟩;have HK:=Lib.hid (hk.out.later hb);have k0:=HK.out.c0;have k1:=HK.out.c1;clear hb hk);go_ret;exact⟨rfl,HK.out.below⟩
    ·omega
  ·have f1:decide ((s.size:Int)≤30)=false:=by simp;omega
   have hz:entB ⟨a,n,s,v⟩=false:=entB_bad (by rintro⟨h,_⟩;exact h1 h);rw[hz];clear hz hd h1;go_enter Tryz.func119,Tryz.ntmps119;go_wp2_with (go_at_call 80;have hk:=Lib.hid (((((Kept.nil w).alloc (.cells #[.int .i64 a,.int .i64 n,.string s,.int .i64 v] 97)).cons_of (p:=⟨w.heap.size,2,none⟩) (v:=.string s) (by go_simp)).cons_of (p:=⟨w.heap.size,3,none⟩) (v:=.int .i64 v) (by go_simp)));refine (HR _).out.mono ?_;rintro e w1 ⟨rfl,hb⟩;have HK:=Lib.hid (hk.out.later hb);have k0:=HK.out.c0;have k1:=HK.out.c1;clear hb hk);go_ret;exact⟨rfl,HK.out.below⟩
end Tr
end Go.Proofs.YtgeafpaognhokaaGreat
namespace Go.Proofs.YtgeafpaognhokaaGreat
open Go.ChangeShapes Go.WideShapes Go.ChangeAt Go.RowKit
namespace Tr
open Sp Rw
theorem tree_box (w:World) (Ae Ak:Option Addr) (ne nk ce ck:Nat):Kept [(⟨w.heap.size,0,none⟩,.slice Ae ne ce),(⟨w.heap.size,1,none⟩,.slice Ak nk ck)] w (w.alloc (.cells #[.slice Ae ne ce,.slice Ak nk ck] 35)):=
 (((Kept.nil w).alloc _).cons_of (by go_simp)).cons_of (by go_simp)
end Tr
end Go.Proofs.YtgeafpaognhokaaGreat
set_option maxRecDepth 100000
set_option maxHeartbeats 4000000
namespace Go.Proofs.YtgeafpaognhokaaGreat
open Go.ChangeShapes Go.WideShapes Go.ChangeAt Go.RowKit
namespace Tr
open Sp Rw
def kmax (f:ByteArray×T→Nat) (ks:List (ByteArray×T)) (k:Nat):Nat:=((ks.take k).map f).foldl max 0
theorem kmax_zero (f:ByteArray×T→Nat) (ks:List (ByteArray×T)):kmax f ks 0=0:=rfl
theorem kmax_succ (f:ByteArray×T→Nat) {ks:List (ByteArray×T)} {k:Nat} (h:k<ks.length):kmax f ks (k+1)=max (kmax f ks k) (f ks[k]):=by
 unfold kmax;rw[List.take_succ_eq_append_getElem h];simp only[List.map_append,List.foldl_append,List.map_cons,List.map_nil,List.foldl_cons,List.foldl_nil]
def levels:T→Nat
 | .mk _ ks=>1+(ks.attach.map fun k=>levels k.1.2).foldl max 0
termination_by t=>SizeOf.sizeOf t
decreasing_by exact kid_lt k.2
theorem levels_mk (es:List E) (ks:List (ByteArray×T)):levels (.mk es ks)=1+kmax (fun k=>levels k.2) ks ks.length:=by
 rw[levels];unfold kmax;rw[List.take_length]
 congr 2
 conv=>rhs;rw[← List.attach_map_subtype_val ks]
 rw[List.map_map];rfl
theorem kmax_le {f:ByteArray×T→Nat} {ks:List (ByteArray×T)} {m:Nat} (h:∀ k∈ks,f k≤m):∀ {k:Nat},k≤ks.length→kmax f ks k≤m
 | 0,_=>Nat.zero_le _
 | k+1,hk=>by
  rw[kmax_succ f (show k<ks.length by omega)];have h1:=kmax_le h (k:=k) (by omega);have h2:=h _ (List.getElem_mem (show k<ks.length by omega));omega
theorem le_kmax {f:ByteArray×T→Nat} {ks:List (ByteArray×T)} : ∀ {k:Nat},k≤ks.length→∀ i (hi:i<ks.length),i<k→f ks[i]≤kmax f ks k
 | 0,_,_,_,h=>absurd h (Nat.not_lt_zero _)
 | k+1,hk,i,hi,h=>by
  rw[kmax_succ f (show k<ks.length by omega)]
  by_cases he:i=k
  ·subst he;omega
  ·have:=le_kmax (f:=f) (k:=k) (by omega) i hi (by omega)
   omega
theorem levels_le:∀ {d:Nat} {t:T},RightT d t→levels t≤d
 | d+1,.mk es ks,h=>by
  rw[levels_mk];have:=kmax_le (f:=fun k=>levels k.2) (ks:=ks) (m:=d) (fun k hk=>levels_le (h.2.2.2 k hk).2.2) (k:=ks.length) (Nat.le_refl _);omega
theorem RightT.le {d d':Nat} {t:T} (h:RightT d t) (hd:d≤d'):RightT d' t:=by
 obtain⟨m,rfl⟩:∃ m,d'=d+m:=⟨_,(Nat.add_sub_cancel' hd).symm⟩;clear hd
 induction m with
 | zero=>exact h
 | succ m ih=>exact ih.more
theorem levels_nodes:∀ t:T,levels t≤nodes t+1:=by
 intro t
 induction t using T.ind with
 | h es ks ih=>
  rw[levels_mk,nodes_mk]
  have:kmax (fun k=>levels k.2) ks ks.length≤(ks.map fun k=>nodes k.2).sum+ks.length:=by
   refine Nat.le_trans (kmax_le (m:=(ks.map fun k=>nodes k.2).sum+1*(if ks=[]then 0 else 1)) (fun k hk=>?_) (Nat.le_refl _)) ?_
   ·have h1:=ih k hk
    have h2:=le_sum (f:=fun k:ByteArray×T=>nodes k.2) hk;have:ks≠[]:=List.ne_nil_of_mem hk;rw[if_neg this];omega
   ·split
    ·omega
    ·have:0<ks.length:=List.length_pos_iff.2 (by assumption)
     omega
  omega
theorem levels_any:∀ (t:T) (Ae Ak:Option Addr) (ne nk ce ck:Nat) (w:World),nodes t≤1000000→RdT w w.heap.size t ⟨Ae,ne,ce⟩ ⟨Ak,nk,ck⟩ →
  Calls Tryz.prog 145 #[.agg #[.slice Ae ne ce,.slice Ak nk ck]] w fun e w'=>e = .returned (.int .i64 (levels t))∧Below w.heap.size w w':=by
 intro t
 induction t using T.ind with
 | h es ks ih=>
  intro Ae Ak ne nk ce ck w hn hr;obtain⟨hle,hlk⟩:=rd_lens hr;have HR:=Lib.hid hr;have HLE:=Lib.hid hle;have HLK:=Lib.hid hlk;clear hle hlk hr
  have hnk:nk≤1000000:=by have:=nodes_es es ks;have:=HLK.out;omega
  have IH:=Lib.hid ih;have HN:=Lib.hid hn;obtain⟨m,hm⟩:∃ m,m=levels (.mk es ks):=⟨_,rfl⟩;rw[← hm]
  have HM:Hid (m=1+kmax (fun k=>levels k.2) ks nk):=by unfold Hid;rw[hm,levels_mk,HLK.out]
  have hm6:m≤1000001:=by rw[hm];have:=levels_nodes (.mk es ks);omega
  have HMX:Hid (∀ k,k≤nk→kmax (fun k=>levels k.2) ks k≤1000000):=fun k hk=>by
   rw[← HLK.out]at hk;refine kmax_le (fun x hx=>?_) hk;obtain⟨i,hi,rfl⟩:=List.getElem_of_mem hx;have h1:=le_kmax (f:=fun k=>levels k.2) (ks:=ks) (Nat.le_refl _) i hi hi;have h2:=HM.out;rw[← HLK.out]at h2;omega
  clear ih hn hm;obtain⟨g,hg⟩:∃ g,g=w.heap.size:=⟨_,rfl⟩;have HK:=Lib.hid (tree_box w Ae Ak ne nk ce ck);rw[← hg]at HK;obtain⟨W0,hW0⟩:∃ W,W=w.alloc (.cells #[.slice Ae ne ce,.slice Ak nk ck] 35):=⟨_,rfl⟩;rw[← hW0]at HK;have HG:=Lib.hid hg;have HW0:=Lib.hid hW0;have k0:=HK.out.c0;have k1:=HK.out.c1;clear hg hW0;go_enter Tryz.func145,Tryz.ntmps145;go_wp2_with fail;rw[← HG.out,← HW0.out];go_wp2_with fail
  go_loopw [3,9] (fun n i wr=>∃ (k:Nat),k≤nk∧i = .int .i64 k∧n = .int .i64 ((kmax (fun k=>levels k.2) ks k:Nat):Int)∧Hid (Kept [(⟨g,0,none⟩,.slice Ae ne ce),(⟨g,1,none⟩,.slice Ak nk ck)] w wr)) (fun _ i _=>nk-(intOf i).toNat)
  case atStart=>exact⟨0,by omega,rfl,by rw[kmax_zero];rfl,HK.out⟩
  case round=>
   obtain⟨k,hk,rfl,rfl,HKW⟩:=hrel;clear k0 k1;have k0:=HKW.out.c0;have k1:=HKW.out.c1
   by_cases hlt:k<nk
   ·have hkl:k<ks.length:=by rw[HLK.out];exact hlt
    obtain⟨b,o,rfl,hb,hc⟩:=rd_kid HR.out (by omega);obtain⟨⟨Ae',ne',ce'⟩,⟨Ak',nk',ck'⟩,c0,c1,c2,hkid⟩:=hc k hkl;dsimp only at c0 c1 c2;have c0:=(HKW.out.below.cell (p:=⟨b,o+k*3,none⟩) hb).trans c0;have c1:=(HKW.out.below.cell (p:=⟨b,o+k*3+1,none⟩) hb).trans c1;have c2:=(HKW.out.below.cell (p:=⟨b,o+k*3+2,none⟩) hb).trans c2;obtain⟨key,hkey⟩:∃ key,key=(ks[k]).1:=⟨_,rfl⟩;rw[← hkey]at c0;clear hc;obtain⟨W1,hW1⟩:∃ W,W=wr.alloc (.cells #[.string key,.slice Ae' ne' ce',.slice Ak' nk' ck'] 134):=⟨_,rfl⟩
    have hb1:Below wr.heap.size wr W1:=by rw[hW1];exact Dt.box_below _ _ _
    have hk1:=HKW.out.later hb1;have hrd1:=RdT.more hk1.below.size _ (RdT.below hkid hk1.below);have HK1:=Lib.hid hk1;have HW1:=Lib.hid hW1;clear hW1 hb1 hkid;obtain⟨q,hq⟩:∃ q,q=levels (ks[k]).2:=⟨_,rfl⟩;have hs1:=kmax_succ (fun k=>levels k.2) hkl;have hcall:=IH.out _ (List.getElem_mem hkl) Ae' Ak' ne' nk' ce' ck' W1 (Nat.le_trans (nodes_kid (List.getElem_mem hkl)) HN.out) hrd1;rw[← hq]at hcall hs1;have HC:=Lib.hid hcall;obtain⟨S,hS⟩:∃ S,S=kmax (fun k=>levels k.2) ks k:=⟨_,rfl⟩;obtain⟨S',hS'⟩:∃ S,S=kmax (fun k=>levels k.2) ks (k+1):=⟨_,rfl⟩;rw[← hS,← hS']at hs1;rw[← hS]
    have hmax:max (S:Int) (q:Int)=(S':Int):=by omega
    have HS':=Lib.hid hS';clear hrd1 hkey hk1 hcall hq hs1 hS hS';go_wp2_with fail;rw[← HW1.out];refine HC.out.mono ?_;rintro e w2 ⟨rfl,hb2⟩;have HK2:=Lib.hid (HK1.out.later hb2);clear hb2;go_wp2_with fail;go_roundw
    case rel=>exact⟨k+1,by omega,by go_num,by rw[HS'.out],HK2.out⟩
    case measure=>simp[intOf];omega
   ·obtain rfl:k=nk:=by omega
    have hmx:=HMX.out k (Nat.le_refl _);obtain⟨S,hS⟩:∃ S,S=kmax (fun k=>levels k.2) ks k:=⟨_,rfl⟩;rw[← hS]at hmx ⊢
    have hwrap:IntKind.i64.wrap (1+(S:Int))=(m:Int):=by rw[IntKind.wrap_i64];have:=HM.out;omega
    have hm1:1+(S:Int)=(m:Int):=by have:=HM.out;omega
    have HM1:=Lib.hid hm1;clear hS hm1;go_wp2_with fail;go_ret;exact⟨Dt.ret_int (by first | rfl | exact HM1.out),HKW.out.below⟩
theorem room_any:∀ (t:T) (Ae Ak:Option Addr) (ne nk ce ck:Nat) (left deep:Int) (w:World),0≤left→left≤1000→0≤deep→deep≤1000→LenT reachBytes t→RdT w w.heap.size t ⟨Ae,ne,ce⟩ ⟨Ak,nk,ck⟩ →
  Calls Tryz.prog 90 #[.agg #[.slice Ae ne ce,.slice Ak nk ck],.int .i64 left,.int .i64 deep] w fun e w'=>∃ r:Int,e = .returned (.int .i64 r) ∧ -1000000000000000≤r∧r≤left∧(0≤r→(nodes t:Int)+r=left)∧Below w.heap.size w w':=by
 intro t
 induction t using T.ind with
 | h es ks ih=>
  intro Ae Ak ne nk ce ck left deep w h0 h1 h2 h3 hl hr;obtain⟨hle,hlk⟩:=rd_lens hr;have HR:=Lib.hid hr;have HLE:=Lib.hid hle;have HLK:=Lib.hid hlk;clear hle hlk hr;have hle:=hl.es;have hlk:=hl.ks;rw[HLE.out]at hle;rw[HLK.out]at hlk;unfold reachBytes at hle hlk;have IH:=Lib.hid ih;have HL:=Lib.hid hl;obtain⟨d,rfl⟩:∃ m:Nat,deep=(m:Int):=⟨deep.toNat,by omega⟩
  have HN:Hid (nodes (.mk es ks)=ne+nk+(ks.map fun k=>nodes k.2).sum):=by unfold Hid;rw[nodes_mk,HLE.out,HLK.out]
  clear ih hl;obtain⟨g,hg⟩:∃ g,g=w.heap.size:=⟨_,rfl⟩;have HK:=Lib.hid (tree_box w Ae Ak ne nk ce ck);rw[← hg]at HK;obtain⟨W0,hW0⟩:∃ W,W=w.alloc (.cells #[.slice Ae ne ce,.slice Ak nk ck] 35):=⟨_,rfl⟩;rw[← hW0]at HK;have HG:=Lib.hid hg;have HW0:=Lib.hid hW0;have k0:=HK.out.c0;have k1:=HK.out.c1;clear hg hW0
  have hw1:IntKind.i64.wrap (left-(ne:Int))=left-ne:=by rw[IntKind.wrap_i64];omega
  have hw2:IntKind.i64.wrap (left-(ne:Int)-(nk:Int))=left-ne-nk:=by rw[IntKind.wrap_i64];omega
  go_enter Tryz.func90,Tryz.ntmps90;go_wp2_with fail;rw[← HG.out,← HW0.out];go_wp2_with fail
  go_loopw [1,20] (fun n i wr=>∃ (k:Nat) (x:Int),k≤nk∧i = .int .i64 k∧n = .int .i64 x ∧ -1000000000000000≤x∧x≤left∧Hid (0≤x→((ne+nk+ksum (fun k=>nodes k.2) ks k:Nat):Int)+x=left)∧Hid (Kept [(⟨g,0,none⟩,.slice Ae ne ce),(⟨g,1,none⟩,.slice Ak nk ck)] w wr)) (fun _ i _=>nk-(intOf i).toNat)
  case atStart=>exact⟨0,left-ne-nk,by omega,rfl,rfl,by omega,by omega,fun _=>by rw[ksum_zero];omega,HK.out⟩
  case round=>
   obtain⟨k,x,hk,rfl,rfl,hx1,hx2,HX,HKW⟩:=hrel;clear k0 k1;have k0:=HKW.out.c0;have k1:=HKW.out.c1
   by_cases hlt:k<nk
   ·by_cases hx:x<0
    ·have f1:decide (x<0)=true:=decide_eq_true hx
     go_wp2_with fail;go_ret;exact⟨-1,rfl,by omega,by omega,fun h=>by omega,HKW.out.below⟩
    have f1:decide (x<0)=false:=decide_eq_false hx
    by_cases hd:d=0
    ·subst hd
     go_wp2_with fail;go_ret;exact⟨-1,rfl,by omega,by omega,fun h=>by omega,HKW.out.below⟩
    have f2:((d:Int)==0)=false:=by simpa using hd
    have hkl:k<ks.length:=by rw[HLK.out];exact hlt
    obtain⟨b,o,rfl,hb,hc⟩:=rd_kid HR.out (by omega);obtain⟨⟨Ae',ne',ce'⟩,⟨Ak',nk',ck'⟩,c0,c1,c2,hkid⟩:=hc k hkl;dsimp only at c0 c1 c2;have c0:=(HKW.out.below.cell (p:=⟨b,o+k*3,none⟩) hb).trans c0;have c1:=(HKW.out.below.cell (p:=⟨b,o+k*3+1,none⟩) hb).trans c1;have c2:=(HKW.out.below.cell (p:=⟨b,o+k*3+2,none⟩) hb).trans c2;obtain⟨key,hkey⟩:∃ key,key=(ks[k]).1:=⟨_,rfl⟩;rw[← hkey]at c0;clear hc;have hk1:=HKW.out;have hrd1:=RdT.more hk1.below.size _ (RdT.below hkid hk1.below);have hs1:=ksum_succ (fun k=>nodes k.2) hkl;have hcall:=IH.out _ (List.getElem_mem hkl) Ae' Ak' ne' nk' ce' ck' x ((d:Int)-1) wr (by omega) (by omega) (by omega) (by omega) (HL.out.kid (List.getElem_mem hkl)) hrd1;have HC:=Lib.hid hcall;have HS:=Lib.hid hs1;clear hrd1 hkey hk1 hcall hs1 hkid;go_wp2_with fail;refine HC.out.mono ?_
    rintro e w2 ⟨y,rfl,hy1,hy2,hy3,hb2⟩;have HK2:=Lib.hid (HKW.out.later hb2);have HY:=Lib.hid hy3;clear hb2 hy3;go_wp2_with fail;go_roundw
    case rel=>
     refine⟨k+1,y,by omega,by go_num,rfl,by omega,by omega,fun h=>?_,HK2.out⟩;have h1:=HY.out h;have h2:=HX.out (by omega);rw[HS.out];omega
    case measure=>simp[intOf];omega
   ·obtain rfl:k=nk:=by omega
    go_wp2_with fail;go_ret;refine⟨x,rfl,by omega,by omega,fun h=>?_,HKW.out.below⟩;have h1:=HX.out h;rw[HN.out,← ksum_all _ HLK.out];exact h1
theorem small_any (t:T) (Ae Ak:Option Addr) (ne nk ce ck:Nat) (most:Nat) (w:World) (h1:most≤1000) (hl:LenT reachBytes t) (hr:RdT w w.heap.size t ⟨Ae,ne,ce⟩ ⟨Ak,nk,ck⟩) :
  Calls Tryz.prog 45 #[.agg #[.slice Ae ne ce,.slice Ak nk ck],.int .i64 most] w fun e w'=>∃ b:Bool,e = .returned (.bool b)∧(b=true→nodes t≤most)∧Below w.heap.size w w':=by
 have hb1:Below w.heap.size w (w.alloc (.cells #[.slice Ae ne ce,.slice Ak nk ck] 35)):=Dt.box_below _ _ _;have HC:=Lib.hid (room_any t Ae Ak ne nk ce ck most 8 _ (by omega) (by omega) (by omega) (by omega) hl (RdT.more hb1.size _ (RdT.below hr hb1)));have HB:=Lib.hid hb1;clear hl hr hb1;go_enter Tryz.func45,Tryz.ntmps45;go_wp2_with fail;refine HC.out.mono ?_;rintro e w2 ⟨r,rfl,hr1,hr2,hr3,hb2⟩;have HB2:=Lib.hid (HB.out.trans (hb2.mono HB.out.size));have HR3:=Lib.hid hr3;clear hb2 hr3;go_wp2_with fail;go_ret;refine⟨_,rfl,fun h=>?_,HB2.out⟩
 have h2:0≤r:=by simpa using h
 have:=HR3.out h2;omega
end Tr
end Go.Proofs.YtgeafpaognhokaaGreat
namespace Go.Proofs.YtgeafpaognhokaaGreat
open Go.ChangeShapes Go.WideShapes Go.ChangeAt Go.RowKit
namespace Sp
theorem ret_bool {a b:Bool} (h:a=b):Ending.returned (.bool a) = .returned (.bool b):=by rw[h]
theorem ret_int {a b:Int} (h:a=b):Ending.returned (.int .i64 a) = .returned (.int .i64 b):=by rw[h]
theorem drop_at {l:List (Int×Int)} {k:Nat} (hk:k<l.length) {r:Int×Int} (hr:r=l[k]):l.drop k=r::l.drop (k+1):=by rw[hr];exact List.drop_eq_getElem_cons hk
theorem rightB_of {l:List (Int×Int)} {P:Prop} (h:RightF 1 l↔P) {b:Bool} (hb:b=true↔P):b=rightB l:=by
 unfold rightB
 cases b with
 | true=>simp only[true_iff]at hb;simp[h.2 hb]
 | false=>
  have:¬P:=fun hp=>by have:=hb.2 hp;cases this
  simp[h,this]
set_option maxRecDepth 100000 in
set_option maxHeartbeats 1000000 in
theorem right_any (l:List (Int×Int)) (n:Nat) (A:Option Addr) (c:Nat) (w:World) (hl:l.length=n) (hn:n≤1000000) (hr:Rd w w.heap.size 2 A n c (runsC l)) :
  Calls Tryz.prog 190 #[.slice A n c] w fun e w'=>e = .returned (.bool (rightB l))∧Below w.heap.size w w':=by
 have HR:=Lib.hid hr;have HL:=Lib.hid hl;clear hr hl;go_enter Tryz.func190,Tryz.ntmps190;go_wp2
 go_loopw [3,8] (fun h i wr=>∃ (k:Nat) (m:Int),k≤n∧h = .int .i64 m∧i = .int .i64 k∧Hid (1≤m∧m≤1099511627778)∧Hid (RightF 1 l↔RightF m (l.drop k))∧Hid (Below w.heap.size w wr)) (fun _ i _=>n-(intOf i).toNat)
 case atStart=>exact⟨0,1,by omega,rfl,rfl,⟨by omega,by omega⟩,Iff.rfl,Below.refl _ _⟩
 case round=>
  obtain⟨k,m,hk,rfl,rfl,HM,HI,HB⟩:=hrel
  by_cases hlt:k<n
  ·have hkl:k<l.length:=by rw[HL.out];exact hlt
   obtain⟨b,o,rfl,hbl,hc⟩:=rd_run HR.out HL.out hlt;obtain⟨q0,q1⟩:=hc k hkl;obtain⟨p,hp⟩:∃ p,p=l[k]:=⟨_,rfl⟩;have HD:=Lib.hid (drop_at hkl hp);rw[← hp]at q0 q1;obtain⟨x,y⟩:=p;have q0:=(HB.out.cell (p:=⟨b,o+k*2,none⟩) hbl).trans q0;have q1:=(HB.out.cell (p:=⟨b,o+k*2+1,none⟩) hbl).trans q1;have HB2:=Lib.hid (HB.out.alloc HB.out.size (.cells #[.int .i64 x,.int .i64 y] 214));clear hc hp
   by_cases h1:x<m
   ·have f1:decide (x<m)=true:=by simpa using h1
    have HE:Hid (false=rightB l):=rightB_of HI.out (by rw[HD.out];simp only[Bool.false_eq_true,RightF,false_iff];omega);go_wp2;go_ret;exact⟨ret_bool HE.out,HB2.out⟩
   ·have f1:decide (x<m)=false:=by simpa using h1
    by_cases h2:y<x
    ·have f2:decide (y<x)=true:=by simpa using h2
     have HE:Hid (false=rightB l):=rightB_of HI.out (by rw[HD.out];simp only[Bool.false_eq_true,RightF,false_iff];omega);go_wp2;go_ret;exact⟨ret_bool HE.out,HB2.out⟩
    ·have f2:decide (y<x)=false:=by simpa using h2
     by_cases h3:1099511627776<y
     ·have f3:decide (1099511627776<y)=true:=by simpa using h3
      have HE:Hid (false=rightB l):=rightB_of HI.out (by rw[HD.out];simp only[Bool.false_eq_true,RightF,false_iff];omega);go_wp2;go_ret;exact⟨ret_bool HE.out,HB2.out⟩
     ·have f3:decide (1099511627776<y)=false:=by simpa using h3
      have HI2:Hid (RightF 1 l↔RightF (y+2) (l.drop (k+1))):=by
       refine Iff.trans HI.out ?_;rw[HD.out];simp only[RightF];exact⟨fun h=>h.2.2.2,fun h=>⟨by omega,by omega,by omega,h⟩⟩
      have hm:=HM.out.1;go_wp2;go_roundw
      case rel=>exact⟨k+1,y+2,by omega,by go_num,by go_num,⟨by omega,by omega⟩,HI2.out,HB2.out⟩
      case measure=>simp[intOf];omega
  ·have HE:Hid (true=rightB l):=rightB_of HI.out (by rw[List.drop_eq_nil_of_le (by rw[HL.out];omega)];simp[RightF])
   go_wp2;go_ret;exact⟨ret_bool HE.out,HB.out⟩
theorem edge_div {l:List (Int×Int)} {i:Nat} (h:i<2*l.length):(i % 2=0∧∃ hk:i / 2<l.length,edge l i=l[i / 2].1)∨(i % 2=1∧∃ hk:i / 2<l.length,edge l i=l[i / 2].2+1):=by
 have hk:i / 2<l.length:=by omega
 rcases Nat.mod_two_eq_zero_or_one i with h0 | h0
 ·have e:i=2*(i / 2):=by omega
  exact .inl ⟨h0,hk,by have:=edge_even hk;rwa [← e]at this⟩
 ·have e:i=2*(i / 2)+1:=by omega
  exact .inr ⟨h0,hk,by have:=edge_odd hk;rwa [← e]at this⟩
set_option maxHeartbeats 400000 in
theorem edge_any (l:List (Int×Int)) (n:Nat) (A:Option Addr) (c:Nat) (w:World) (hl:l.length=n) (hn:n≤1000000) (hr:Rd w w.heap.size 2 A n c (runsC l)) (hR:RightF 1 l) (i:Nat) (hi:i≤2*n) :
  Calls Tryz.prog 216 #[.slice A n c,.int .i64 i] w fun e w'=>e = .returned (.int .i64 (edge l i))∧w'=w:=by
 by_cases h:i<2*l.length
 ·have hb:=edge_ge hR h
  rcases edge_div h with ⟨h0,hk,he⟩ | ⟨h0,hk,he⟩
  ·obtain⟨b,o,rfl,hbl,hc⟩:=rd_run hr hl (k:=i / 2) (by omega)
   obtain⟨q0,q1⟩:=hc (i / 2) hk;rw[← he]at q0;obtain⟨x,hx⟩:∃ x,x=edge l i:=⟨_,rfl⟩;rw[← hx]at q0 ⊢
   have f1:decide (2*(n:Int)≤i)=false:=by simp;omega
   have f2:((i:Int).tmod 2)=0:=by rw[Int.tmod_eq_emod_of_nonneg (by omega)];omega
   have f3:((i:Int).tdiv 2)=((i / 2:Nat):Int):=by rw[Int.tdiv_eq_ediv_of_nonneg (by omega)];omega
   have hdn:i / 2<n:=by omega
   clear hc q1 he hx;go_enter Tryz.func216,Tryz.ntmps216;go_wp2;go_ret;exact⟨rfl,rfl⟩
  ·obtain⟨b,o,rfl,hbl,hc⟩:=rd_run hr hl (k:=i / 2) (by omega)
   obtain⟨q0,q1⟩:=hc (i / 2) hk;rw[he]at hb ⊢;obtain⟨x,hx⟩:∃ x,x=l[i / 2].2:=⟨_,rfl⟩;rw[← hx]at q1 hb ⊢
   have f1:decide (2*(n:Int)≤i)=false:=by simp;omega
   have f2:((i:Int).tmod 2)=1:=by rw[Int.tmod_eq_emod_of_nonneg (by omega)];omega
   have f3:((i:Int).tdiv 2)=((i / 2:Nat):Int):=by rw[Int.tdiv_eq_ediv_of_nonneg (by omega)];omega
   have hdn:i / 2<n:=by omega
   clear hc q0 he hx;go_enter Tryz.func216,Tryz.ntmps216;go_wp2;go_ret;exact⟨ret_int (by go_num),rfl⟩
 ·rw[edge_end (by omega)]
  have f1:decide (2*(n:Int)≤i)=true:=by simp;omega
  go_enter Tryz.func216,Tryz.ntmps216;go_wp2;go_ret;exact⟨rfl,rfl⟩
end Sp
end Go.Proofs.YtgeafpaognhokaaGreat
namespace Go.Proofs.YtgeafpaognhokaaGreat
open Go.ChangeShapes Go.WideShapes Go.ChangeAt Go.RowKit
namespace Sp
def frontI:List (Int×Int)→Int
 | []=>0
 | r::_=>if r.1=1 then r.2 else 0
theorem RightF.of_append:∀ {a b:List (Int×Int)} {m:Int},RightF m (a++b)→RightF m a
 | [],_,_,_=>trivial
 | _::_,_,_,h=>⟨h.1,h.2.1,h.2.2.1,RightF.of_append h.2.2.2⟩
theorem RightF.take {l:List (Int×Int)} {m:Int} (h:RightF m l) (k:Nat):RightF m (l.take k):=RightF.of_append (b:=l.drop k) (by rwa [List.take_append_drop])
end Sp
end Go.Proofs.YtgeafpaognhokaaGreat
namespace Go.Proofs.YtgeafpaognhokaaGreat
namespace Cx
open Sp
def upTo (v:Int):List (Int×Int):=if 0<v then [(1,v)]else []
def full (v:Int→Int):List S3:=glue fun d=>upTo (v d)
end Cx
end Go.Proofs.YtgeafpaognhokaaGreat
namespace Go.Proofs.YtgeafpaognhokaaGreat
open Go.ChangeShapes Go.WideShapes Go.ChangeAt Go.RowKit
namespace Sp
theorem upon_append {P:Program} {o:Oper} {a:Go.Act} {K:Go.Act→World→Prop} {Q:Exit→Go.Act→World→Prop} {w w':World} {v xv v':Value} (s x:Operand) (t:TypeId)
  (ho:o.op = .call { callee:=.builtin .append,args:=#[s,x],argTypes:=#[t,t] }) (hs:a.eval s=v) (hx:a.eval x=xv)
  (hr:(Builtin.append_ #[t,t] o.type #[v,xv]).run P w = .ok v' w') (h:K (a.put o.dst v') w'):Oper.upon P o a K Q ((execOp a.eval o).run P w):=by
 unfold execOp;simp only[ho,resolve,invoke,builtin,Sem.run_bind,Sem.run_pure,Result.andThen_ok,List.map_toArray,List.map_cons,List.map_nil,hs,hx,hr];exact h
def endsL (l:List (Int×Int)):List Int:=l.flatMap fun r=>[r.1,r.2+1]
def nstep (above:Int) (acc:Option Int) (x:Int):Option Int:=if above<x∧(∀ b,acc=some b→x<b)then some x else acc
def nextL (above:Int) (l:List Int):Option Int:=l.foldl (nstep above) none
theorem nextL_snoc (above:Int) (l:List Int) (x:Int):nextL above (l++[x])=nstep above (nextL above l) x:=by unfold nextL;rw[List.foldl_append];rfl
def NextIs (above:Int) (l:List Int):Option Int→Prop
 | none=>∀ x∈l,x≤above
 | some t=>t∈l∧above<t∧∀ x∈l,above<x→t≤x
theorem nextL_is (above:Int) (l:List Int):NextIs above l (nextL above l):=by
 have key:∀ k,k≤l.length→NextIs above (l.take k) (nextL above (l.take k)):=by
  intro k
  induction k with
  | zero=>intro _;simp[nextL,NextIs]
  | succ k ih=>
   intro hk;have ih:=ih (by omega);rw[List.take_succ_eq_append_getElem (by omega),nextL_snoc];obtain⟨d,hd⟩:∃ d,d=l[k]:=⟨_,rfl⟩;obtain⟨acc,hacc⟩:∃ acc,acc=nextL above (l.take k):=⟨_,rfl⟩;rw[← hd,← hacc];rw[← hacc]at ih;unfold nstep
   by_cases h:above<d∧(∀ b,acc=some b→d<b)
   ·rw[if_pos h]
    refine⟨by simp,h.1,fun x hx hax=>?_⟩
    rcases List.mem_append.1 hx with hx | hx
    ·cases acc with
     | none=>have:=ih x hx;omega
     | some b=>have:=ih.2.2 x hx hax;have:=h.2 b rfl;omega
    ·rw[List.mem_singleton.1 hx];omega
   ·rw[if_neg h]
    cases acc with
    | none=>
     intro x hx
     rcases List.mem_append.1 hx with hx | hx
     ·exact ih x hx
     ·rw[List.mem_singleton.1 hx]
      have:¬above<d:=fun hlt=>h ⟨hlt,by simp⟩;omega
    | some b=>
     refine⟨List.mem_append_left _ ih.1,ih.2.1,fun x hx hax=>?_⟩
     rcases List.mem_append.1 hx with hx | hx
     ·exact ih.2.2 x hx hax
     ·rw[List.mem_singleton.1 hx]at hax ⊢
      have:¬d<b:=fun hlt=>h ⟨hax,fun b' e=>by injection e with e;omega⟩;omega
 have:=key l.length (Nat.le_refl _)
 rwa [List.take_of_length_le (Nat.le_refl _)]at this
set_option maxRecDepth 100000 in
set_option maxHeartbeats 1000000 in
theorem next_any (l:List Int) (n:Nat) (A:Option Addr) (c:Nat) (w:World) (hl:l.length=n) (hn:n≤1000000) (hr:Rd w w.heap.size 1 A n c (intsC l)) (v:Int) :
  Calls Tryz.prog 189 #[.slice A n c,.int .i64 v] w fun e w'=>e = .returned (.tuple #[.int .i64 ((nextL v l).getD 0),.bool (nextL v l).isSome])∧w'=w:=by
 obtain⟨z,hz⟩:∃ z,z=nextL v l:=⟨_,rfl⟩;rw[← hz];obtain⟨zb,hzb⟩:∃ x,x=z.getD 0:=⟨_,rfl⟩;obtain⟨zo,hzo⟩:∃ x,x=z.isSome:=⟨_,rfl⟩;rw[← hzb,← hzo];have HZB:=Lib.hid hzb;have HZO:=Lib.hid hzo;have HZ:=Lib.hid hz;have HR:=Lib.hid hr;have HL:=Lib.hid hl;clear hr hl hz hzb hzo;go_enter Tryz.func189,Tryz.ntmps189;go_wp2
 go_loop [6,7,11] (fun b s i=>∃ (k:Nat) (best:Int) (ok:Bool),k≤n∧b = .int .i64 best∧s = .bool ok∧i = .int .i64 k∧Hid (best=(nextL v (l.take k)).getD 0∧ok=(nextL v (l.take k)).isSome)) (fun _ _ i=>n-(intOf i).toNat)
 case atStart=>exact⟨0,0,false,by omega,rfl,rfl,rfl,Lib.hid (by rw[List.take_zero];exact⟨rfl,rfl⟩)⟩
 case round=>
  obtain⟨k,best,ok,hk,rfl,rfl,rfl,HF⟩:=hrel
  by_cases hlt:k<n
  ·have hkl:k<l.length:=by rw[HL.out];exact hlt
   obtain⟨b,o,rfl,hbl,hc⟩:=rd_int HR.out HL.out hlt;have q0:=hc k hkl
   have htk:nextL v (l.take (k+1))=nstep v (nextL v (l.take k)) l[k]:=by rw[List.take_succ_eq_append_getElem hkl,nextL_snoc]
   obtain⟨x,hx⟩:∃ x,x=l[k]:=⟨_,rfl⟩;obtain⟨acc,hacc⟩:∃ acc,acc=nextL v (l.take k):=⟨_,rfl⟩;rw[← hx]at q0 htk;rw[← hacc]at htk HF
   have hyes:nstep v acc x=some x→Hid (x=(nextL v (l.take (k+1))).getD 0∧true=(nextL v (l.take (k+1))).isSome):=fun e=>by
    unfold Hid;rw[htk,e];exact⟨rfl,rfl⟩
   have hno:nstep v acc x=acc→Hid (best=(nextL v (l.take (k+1))).getD 0∧ok=(nextL v (l.take (k+1))).isSome):=fun e=>by
    unfold Hid;rw[htk,e];exact HF.out
   clear hc hx htk hacc
   by_cases h1:v<x
   ·have f1:decide (v<x)=true:=by simpa using h1
    cases acc with
    | none=>
     have hok:ok=false:=HF.out.2;subst hok;have HY:=hyes (by unfold nstep;rw[if_pos ⟨h1,by simp⟩]);clear hyes hno;go_wp2
     go_round
     case rel=>exact⟨k+1,x,true,by omega,rfl,rfl,by go_num,HY.out⟩
     case measure=>simp[intOf];omega
    | some b0=>
     have hok:ok=true:=HF.out.2;have hb0:best=b0:=HF.out.1;subst hok;subst hb0
     by_cases h2:x<best
     ·have f2:decide (x<best)=true:=by simpa using h2
      have HY:=hyes (by unfold nstep;rw[if_pos ⟨h1,fun b' e=>by injection e with e;omega⟩]);clear hyes hno;go_wp2
      go_round
      case rel=>exact⟨k+1,x,true,by omega,rfl,rfl,by go_num,HY.out⟩
      case measure=>simp[intOf];omega
     ·have f2:decide (x<best)=false:=by simpa using h2
      have HY:=hno (by unfold nstep;rw[if_neg (fun h=>h2 (h.2 best rfl))]);clear hyes hno;go_wp2
      go_round
      case rel=>exact⟨k+1,best,true,by omega,rfl,rfl,by go_num,HY.out⟩
      case measure=>simp[intOf];omega
   ·have f1:decide (v<x)=false:=by simpa using h1
    have HY:=hno (by unfold nstep;rw[if_neg (fun h=>h1 h.1)]);clear hyes hno;go_wp2
    go_round
    case rel=>exact⟨k+1,best,ok,by omega,rfl,rfl,by go_num,HY.out⟩
    case measure=>simp[intOf];omega
  ·have HE:Hid (best=z.getD 0∧ok=z.isSome):=by
    have:=HF.out;rw[List.take_of_length_le (by rw[HL.out];omega)]at this;unfold Hid;rw[HZ.out];exact this
   have hE:best=zb∧ok=zo:=by rw[HZB.out,HZO.out];exact HE.out
   clear HE HZB HZO HF;obtain⟨rfl,rfl⟩:=hE;go_wp2;go_ret2;exact⟨rfl,rfl⟩
end Sp
end Go.Proofs.YtgeafpaognhokaaGreat
namespace Go.Proofs.YtgeafpaognhokaaGreat
open Go.ChangeShapes Go.WideShapes Go.ChangeAt Go.RowKit
namespace Sp
set_option maxHeartbeats 400000 in
theorem within_any (x y v:Int) (p:Nat) (w:World) (hv:w.cell? ⟨p,0,none⟩=some (.int .i64 v)) :
  Calls Tryz.prog 197 #[.agg #[.int .i64 x,.int .i64 y],.pointer (some ⟨p,0,none⟩)] w fun e w'=>e = .returned (.bool (decide (x≤v∧v≤y)))∧Below w.heap.size w w':=by
 have hp:p<w.heap.size:=World.block_lt_of_cell? w _ hv;have HB:=Lib.hid ((Below.refl w.heap.size w).alloc (Nat.le_refl _) (.cells #[.int .i64 x,.int .i64 y] 214));have hv2:(w.alloc (.cells #[.int .i64 x,.int .i64 y] 214)).cell? ⟨p,0,none⟩=some (.int .i64 v):=(HB.out.cell (p:=⟨p,0,none⟩) hp).trans hv
 by_cases h1:x≤v
 ·have f1:decide (x≤v)=true:=by simpa using h1
  by_cases h2:v≤y
  ·have f2:decide (v≤y)=true:=by simpa using h2
   go_enter Tryz.func197,Tryz.ntmps197;go_wp2;go_ret;exact⟨ret_bool (by simp[h1,h2]),HB.out⟩
  ·have f2:decide (v≤y)=false:=by simpa using h2
   go_enter Tryz.func197,Tryz.ntmps197;go_wp2;go_ret;exact⟨ret_bool (by simp),HB.out⟩
 ·have f1:decide (x≤v)=false:=by simpa using h1
  go_enter Tryz.func197,Tryz.ntmps197;go_wp2;go_ret;exact⟨ret_bool (by simp),HB.out⟩
def FoundIs (l:List (Int×Int)) (v:Int) (w:World) (e:Ending) (w':World):Prop:=∃ z:Int,e = .returned (.int .i64 z)∧decide (0≤z)=hasB l v∧Below w.heap.size w w'
set_option maxRecDepth 100000 in
set_option maxHeartbeats 1000000 in
theorem find_any (l:List (Int×Int)) (n:Nat) (A:Option Addr) (c:Nat) (v:Int) (p:Nat) (w:World) (hl:l.length=n) (hn:n≤1000000) (hr:Rd w w.heap.size 2 A n c (runsC l)) (hv:w.cell? ⟨p,0,none⟩=some (.int .i64 v)) :
  Calls Tryz.prog 218 #[.slice A n c,.func (.func 197) #[] #[.pointer (some ⟨p,0,none⟩)]] w (FoundIs l v w):=by
 have hp:p<w.heap.size:=World.block_lt_of_cell? w _ hv;have HR:=Lib.hid hr;have HL:=Lib.hid hl;have HV:=Lib.hid hv;clear hr hl hv;go_enter Tryz.func218,Tryz.ntmps218;go_wp2
 go_loopw [8] (fun i wr=>∃ (k:Nat),k≤n∧i = .int .i64 k∧Hid (hasB (l.take k) v=false)∧Hid (Below w.heap.size w wr)) (fun i _=>n-(intOf i).toNat)
 case atStart=>exact⟨0,by omega,rfl,Lib.hid (by rw[List.take_zero];rfl),Below.refl _ _⟩
 case round=>
  obtain⟨k,hk,rfl,HF,HB⟩:=hrel
  by_cases hlt:k<n
  ·have hkl:k<l.length:=by rw[HL.out];exact hlt
   obtain⟨b,o,rfl,hbl,hc⟩:=rd_run HR.out HL.out hlt;obtain⟨q0,q1⟩:=hc k hkl;have htk:l.take (k+1)=l.take k++[l[k]]:=List.take_succ_eq_append_getElem hkl;obtain⟨r,hr⟩:∃ r,r=l[k]:=⟨_,rfl⟩;rw[← hr]at q0 q1 htk;obtain⟨x,y⟩:=r;have q0:=(HB.out.cell (p:=⟨b,o+k*2,none⟩) hbl).trans q0;have q1:=(HB.out.cell (p:=⟨b,o+k*2+1,none⟩) hbl).trans q1;have HC:=Lib.hid (within_any x y v p wr ((HB.out.cell (p:=⟨p,0,none⟩) hp).trans HV.out))
   by_cases h:x≤v∧v≤y
   ·rw[decide_eq_true h]at HC
    have HE:Hid (true=hasB l v):=(has_true.2 ⟨(x,y),by rw[hr];exact List.getElem_mem hkl,h.1,h.2⟩).symm;clear hc hr htk;go_wp2_with (go_at_call 197;refine HC.out.mono ?_;rintro e w1 ⟨rfl,hb1⟩);go_ret;exact⟨k,rfl,by rw[← HE.out];exact decide_eq_true (by omega),HB.out.trans (hb1.mono HB.out.size)⟩
   ·rw[decide_eq_false h]at HC
    have HF2:Hid (hasB (l.take (k+1)) v=false):=by
     unfold Hid;rw[htk,has_append,HF.out];simp[hasB];omega
    clear hc hr htk;go_wp2_with (go_at_call 197;refine HC.out.mono ?_;rintro e w1 ⟨rfl,hb1⟩;have HB2:=Lib.hid (HB.out.trans (hb1.mono HB.out.size));clear hb1);go_roundw
    case rel=>exact⟨k+1,by omega,by go_num,HF2.out,HB2.out⟩
    case measure=>simp[intOf];omega
  ·have HE:Hid (false=hasB l v):=by
    unfold Hid;have:=HF.out;rw[List.take_of_length_le (by rw[HL.out];omega)]at this;exact this.symm
   go_wp2;go_ret;exact⟨-1,rfl,by rw[← HE.out];rfl,HB.out⟩
theorem contains_any (l:List (Int×Int)) (n:Nat) (A:Option Addr) (c:Nat) (v:Int) (p:Nat) (w:World) (hl:l.length=n) (hn:n≤1000000) (hr:Rd w w.heap.size 2 A n c (runsC l)) (hv:w.cell? ⟨p,0,none⟩=some (.int .i64 v)) :
  Calls Tryz.prog 196 #[.slice A n c,.func (.func 197) #[] #[.pointer (some ⟨p,0,none⟩)]] w fun e w'=>e = .returned (.bool (hasB l v))∧Below w.heap.size w w':=by
 have HC:=Lib.hid (find_any l n A c v p w hl hn hr hv);clear hr hl hv;go_enter Tryz.func196,Tryz.ntmps196;go_wp2_with (go_at_call 218;refine HC.out.mono ?_;rintro e w1 ⟨z,rfl,hz,hb1⟩);go_ret;exact⟨ret_bool rfl,hb1⟩
set_option maxHeartbeats 400000 in
theorem has_any (l:List (Int×Int)) (n:Nat) (A:Option Addr) (c:Nat) (v:Int) (w:World) (hl:l.length=n) (hn:n≤1000000) (hr:Rd w w.heap.size 2 A n c (runsC l)) :
  Calls Tryz.prog 169 #[.slice A n c,.int .i64 v] w fun e w'=>e = .returned (.bool (rightB l&&hasB l v))∧Below w.heap.size w w':=by
 obtain⟨p,hp⟩:∃ p,p=w.heap.size:=⟨_,rfl⟩;obtain⟨W,hW⟩:∃ W,W=w.alloc (.cells #[.int .i64 v] 2):=⟨_,rfl⟩
 have HK:Hid (Kept [(⟨p,0,none⟩,.int .i64 v)] w W):=by
  rw[hW,hp];exact ((Kept.nil w).alloc _).cons_of (by go_simp)
 have HR:Hid (Rd W W.heap.size 2 A n c (runsC l)):=by
  rw[hW];exact (hr.alloc (Nat.le_refl _) _).more (by simp)
 have HRT:=Lib.hid (right_any l n A c W hl hn HR.out);have HL:=Lib.hid hl;have HP:=Lib.hid hp;have HW:=Lib.hid hW;clear hr hl hp hW
 cases hb:rightB l with
 | false=>
  rw[hb]at HRT;clear hb;go_enter Tryz.func169,Tryz.ntmps169;go_wp2_with fail;rw[← HP.out,← HW.out];refine (calls_kept HRT.out HK).mono ?_;rintro e w1 ⟨rfl,HK1⟩;go_wp2;go_ret;exact⟨rfl,HK1.out.below⟩
 | true=>
  rw[hb]at HRT;clear hb;go_enter Tryz.func169,Tryz.ntmps169;go_wp2_with fail;rw[← HP.out,← HW.out];refine HRT.out.mono ?_;rintro e w1 ⟨rfl,hb1⟩;have HK1:=Lib.hid (HK.out.later hb1);have HR1:=Lib.hid (HR.out.later hb1);clear hb1;have HC:=Lib.hid (contains_any l n A c v p w1 HL.out hn HR1.out HK1.out.c0);go_wp2_with (go_at_call 196;refine (calls_kept HC.out HK1).mono ?_;rintro e w2 ⟨rfl,HK2⟩);go_ret;exact⟨ret_bool (Bool.true_and _).symm,HK2.out.below⟩
end Sp
end Go.Proofs.YtgeafpaognhokaaGreat
namespace Go.Proofs.YtgeafpaognhokaaGreat
open Go.RowKit
namespace Sp
theorem run_apps {w:World} {base n m c c':Nat} {A A':Option Addr} {xs ys:List Int} (ho:Own w base 2 1 A n c (intsC xs)) (hr:Rd w w.heap.size 1 A' m c' (intsC ys)) (hn:n+m≤1000000) (hb:base≤w.heap.size) :
  ∃ A2 c2 w2,(Builtin.append_ #[175,175] 175 #[.slice A n c,.slice A' m c']).run Tryz.prog w = .ok (.slice A2 (n+m) c2) w2∧Own w2 base 2 1 A2 (n+m) c2 (intsC (xs++ys))∧Below base w w2:=by
 obtain⟨i0,hi0,hz0,hz1,hz2⟩:=info_of infoI;obtain⟨v',w',h1,h2,h3,h4⟩:=run_app (P:=Tryz.prog) w base 175 175 2 i0 _ 1 8 Tryz.underlying175 hi0 hz0 hz1 hz2 rfl (by omega) ho.row hr hn (by omega) hb;rw[← intsC_append]at h2;obtain⟨A2,c2,rfl,h5⟩:=Own.of_row h2 (intsC_one _);exact⟨A2,c2,w',h1,h5,(Below.refl base w).grown h3 hb (fun k hk=>(ho.row.lt k hk).1)⟩
theorem nil_or_snoc (l:List (Int×Int)):l=[]∨∃ d r,l=d++[r]:=by
 by_cases h:l=[]
 ·exact .inl h
 ·exact .inr ⟨_,_,(List.dropLast_concat_getLast h).symm⟩
theorem ends_mem {l:List (Int×Int)} {r:Int×Int} (h:r∈l):r.1∈endsL l∧r.2+1∈endsL l:=⟨List.mem_flatMap.2 ⟨r,h,by simp⟩,List.mem_flatMap.2 ⟨r,h,by simp⟩⟩
theorem has_between {l:List (Int×Int)} {u n:Int} (hu:u≤n) (h:∀ x∈endsL l,u<x→n<x):hasB l n=hasB l u:=by
 have key:∀ r∈l,(r.1≤n∧n≤r.2)↔(r.1≤u∧u≤r.2):=fun r hr=>by
  obtain⟨m1,m2⟩:=ends_mem hr;have h1:=h _ m1;have h2:=h _ m2;omega
 cases hx:hasB l u with
 | true=>
  obtain⟨r,hr,h2⟩:=has_true.1 hx;exact has_true.2 ⟨r,hr,(key r hr).2 h2⟩
 | false=>exact has_false.2 fun r hr h2=>has_false.1 hx r hr ((key r hr).1 h2)
theorem cnt_step:∀ {L:List Int} {t u:Int},t∈L→t<u→L.countP (fun x=>decide (x<t))+1≤L.countP (fun x=>decide (x<u))
 | [],_,_,h,_=>by simp at h
 | x::L,t,u,h,hu=>by
  have mono:L.countP (fun x=>decide (x<t))≤L.countP (fun x=>decide (x<u)):=List.countP_mono_left (fun y _ hy=>by simp at hy ⊢;omega);rw[List.countP_cons,List.countP_cons]
  by_cases hx:x=t
  ·subst hx
   have e1:decide (x<x)=false:=by simp
   have e2:decide (x<u)=true:=by simpa using hu
   simp only[e1,e2,if_true,Bool.false_eq_true,if_false];omega
  ·have h':t∈L:=by
    rcases List.mem_cons.1 h with h | h
    ·exact absurd h.symm hx
    ·exact h
   have ih:=cnt_step h' hu
   by_cases h1:x<t
   ·have e1:decide (x<t)=true:=by simpa using h1
    have e2:decide (x<u)=true:=by simp;omega
    simp only[e1,e2,if_true];omega
   ·have e1:decide (x<t)=false:=by simpa using h1
    simp only[e1,Bool.false_eq_true,if_false]
    split <;> omega
theorem ends_bounds {l:List (Int×Int)} (h:RightF 1 l) {x:Int} (hx:x∈endsL l):1≤x∧x≤1099511627777:=by
 obtain⟨r,hr,hx⟩:=List.mem_flatMap.1 hx;have:=h.mem r hr
 simp at hx
 omega
structure ByInv (f:Bool→Bool→Bool) (a b out:List (Int×Int)) (t:Int) (ok:Bool):Prop where
 right:RightF 1 out
 on:ok=true→t∈endsL a++endsL b∧1≤t∧t≤1099511627777∧(∀ r∈out,r.2<t)∧(∀ n,n<t→hasB out n=f (hasB a n) (hasB b n))∧out.length≤(endsL a++endsL b).countP (fun x=>decide (x<t))
 off:ok=false→∀ n,hasB out n=f (hasB a n) (hasB b n)
theorem between_both {a b:List (Int×Int)} {u n:Int} (hu:u≤n) (h:∀ x∈endsL a++endsL b,u<x→n<x):hasB a n=hasB a u∧hasB b n=hasB b u:=
 ⟨has_between hu fun x hx=>h x (List.mem_append_left _ hx),has_between hu fun x hx=>h x (List.mem_append_right _ hx)⟩
theorem ByInv.zero {f:Bool→Bool→Bool} (hf:f false false=false) {a b:List (Int×Int)} (ha:RightF 1 a) (hb:RightF 1 b):ByInv f a b [] ((nextL 0 (endsL a++endsL b)).getD 0) (nextL 0 (endsL a++endsL b)).isSome:=by
 have hN:=nextL_is 0 (endsL a++endsL b);have h0:∀ n,n≤0→hasB a n=false∧hasB b n=false:=fun n hn=>⟨has_lt ha (by omega),has_lt hb (by omega)⟩
 cases hx:nextL 0 (endsL a++endsL b)with
 | none=>
  rw[hx]at hN;refine⟨trivial,fun h=>(by cases h),fun _ n=>?_⟩
  rcases (by omega:n≤0∨0<n)with hn | hn
  ·rw[(h0 n hn).1,(h0 n hn).2,hf];rfl
  ·obtain⟨e1,e2⟩:=between_both (a:=a) (b:=b) (u:=0) (n:=n) (by omega) (fun x hx h=>by have:=hN x hx;omega)
   rw[e1,e2,(h0 0 (by omega)).1,(h0 0 (by omega)).2,hf];rfl
 | some t=>
  rw[hx]at hN;obtain⟨h1,h2,h3⟩:=hN
  have hb':1≤t∧t≤1099511627777:=by
   rcases List.mem_append.1 h1 with h | h
   ·exact ends_bounds ha h
   ·exact ends_bounds hb h
  refine⟨trivial,fun _=>⟨h1,hb'.1,hb'.2,by simp,fun n hn=>?_,Nat.zero_le _⟩,fun h=>by cases h⟩;show hasB [] n=_
  rcases (by omega:n≤0∨0<n)with hn0 | hn0
  ·rw[(h0 n hn0).1,(h0 n hn0).2,hf];rfl
  ·obtain⟨e1,e2⟩:=between_both (a:=a) (b:=b) (u:=0) (n:=n) (by omega) (fun x hx h=>by have:=h3 x hx h;have hn:n<t:=hn;omega)
   rw[e1,e2,(h0 0 (by omega)).1,(h0 0 (by omega)).2,hf];rfl
section
variable {f:Bool→Bool→Bool} {a b out:List (Int×Int)} {t:Int}
theorem ByInv.last (hf:f false false=false) (ha:RightF 1 a) (hb:RightF 1 b) (h:ByInv f a b out t true) (hN:nextL t (endsL a++endsL b)=none):f (hasB a t) (hasB b t)=false∧∀ u,ByInv f a b out u false:=by
 have hN':=nextL_is t (endsL a++endsL b);rw[hN]at hN';obtain⟨h1,h2,h3,h4,h5,h6⟩:=h.on rfl;have hbt:∀ n,t≤n→hasB a n=hasB a t∧hasB b n=hasB b t:=fun n hn=>between_both hn (fun x hx h=>by have:=hN' x hx;omega)
 have hz:f (hasB a t) (hasB b t)=false:=by
  obtain⟨e1,e2⟩:=hbt 1099511627778 (by omega);rw[← e1,← e2,has_gt ha (by omega),has_gt hb (by omega),hf]
 refine⟨hz,fun u=>⟨h.right,fun h=>(by cases h),fun _ n=>?_⟩⟩
 rcases (by omega:n<t∨t≤n)with hn | hn
 ·exact h5 n hn
 ·obtain⟨e1,e2⟩:=hbt n hn
  rw[e1,e2,hz]
  exact has_false.2 fun r hr=>by have:=h4 r hr;omega
end
structure OfInv (ns:List Int) (out:List (Int×Int)) (t:Int) (ok:Bool):Prop where
 right:RightF 1 out
 on:ok=true→t∈ns∧(∀ r∈out,r.2<t)∧(∀ n,hasB out n=true↔(n∈ns∧n<t))∧out.length≤ns.countP (fun x=>decide (x<t))
 off:ok=false→∀ n,hasB out n=true↔n∈ns
theorem OfInv.zero {ns:List Int} (hb:∀ x∈ns,1≤x∧x≤1099511627776):OfInv ns [] ((nextL 0 ns).getD 0) (nextL 0 ns).isSome:=by
 have hN:=nextL_is 0 ns
 cases hx:nextL 0 ns with
 | none=>
  rw[hx]at hN;refine⟨trivial,fun h=>(by cases h),fun _ n=>⟨fun h=>(by cases h),fun h=>?_⟩⟩;have:=hN n h;have:=hb n h;omega
 | some t=>
  rw[hx]at hN;obtain⟨h1,h2,h3⟩:=hN;refine⟨trivial,fun _=>⟨h1,by simp,fun n=>⟨fun h=>(by cases h),fun h=>?_⟩,Nat.zero_le _⟩,fun h=>by cases h⟩;have h':n<t:=h.2;have:=h3 n h.1 (by have:=hb n h.1;omega);omega
section
variable {ns:List Int} {out:List (Int×Int)} {t:Int}
theorem OfInv.one (_hb:∀ x∈ns,1≤x∧x≤1099511627776) (h:OfInv ns out t true) (out':List (Int×Int)) (hr:RightF 1 out') (he:∀ r∈out',r.2≤t) (hh:∀ n,hasB out' n=(hasB out n||decide (n=t))) (hl:out'.length≤out.length+1) :
  OfInv ns out' ((nextL t ns).getD 0) (nextL t ns).isSome:=by
 have hN:=nextL_is t ns;obtain⟨h1,h2,h3,h4⟩:=h.on rfl
 have key:∀ n,hasB out' n=true↔(n∈ns∧n≤t):=fun n=>by
  rw[hh,Bool.or_eq_true,h3 n,decide_eq_true_eq];constructor
  ·rintro (h | rfl)
   ·exact⟨h.1,by omega⟩
   ·exact⟨h1,Int.le_refl _⟩
  ·rintro⟨ha,hb⟩
   rcases (by omega:n<t∨n=t)with h | h
   ·exact .inl ⟨ha,h⟩
   ·exact .inr h
 cases hx:nextL t ns with
 | none=>
  rw[hx]at hN;refine⟨hr,fun h=>(by cases h),fun _ n=>(key n).trans ⟨fun h=>h.1,fun h=>⟨h,hN n h⟩⟩⟩
 | some u=>
  rw[hx]at hN;obtain⟨g1,g2,g3⟩:=hN;have hcnt:=cnt_step h1 g2;refine⟨hr,fun _=>⟨g1,fun r hr=>?_,fun n=>(key n).trans ⟨fun h=>⟨h.1,?_⟩,fun h=>⟨h.1,?_⟩⟩,?_⟩,fun h=>by cases h⟩
  ·have:=he r hr
   show r.2<u;omega
  ·show n<u
   omega
  ·have h':n<u:=h.2
   rcases (by omega:n≤t∨t<n)with h2 | h2
   ·exact h2
   ·have:=g3 n h.1 h2;omega
  ·show out'.length≤ns.countP (fun x=>decide (x<u))
   omega
theorem OfInv.push (hb:∀ x∈ns,1≤x∧x≤1099511627776) (h:OfInv ns out t true) (hg:∀ r∈out,r.2+2≤t):OfInv ns (out++[(t,t)]) ((nextL t ns).getD 0) (nextL t ns).isSome:=by
 obtain⟨h1,h2,h3,h4⟩:=h.on rfl;have hbt:=hb t h1;refine h.one hb _ (h.right.snoc hg hbt.1 (Int.le_refl _) hbt.2) (fun r hr=>?_) (fun n=>?_) (by simp)
 ·rcases List.mem_append.1 hr with hr | hr
  ·have:=h2 r hr;omega
  ·rw[List.mem_singleton.1 hr];exact Int.le_refl _
 ·rw[has_append,has_cons,has_nil,Bool.or_false]
  congr 2
  exact propext ⟨fun h=>by dsimp only at h;omega,fun h=>⟨by dsimp only;omega,by dsimp only;omega⟩⟩
theorem OfInv.grow {d:List (Int×Int)} {s:Int} (hb:∀ x∈ns,1≤x∧x≤1099511627776) (h:OfInv ns (d++[(s,t-1)]) t true):OfInv ns (d++[(s,t)]) ((nextL t ns).getD 0) (nextL t ns).isSome:=by
 obtain⟨h1,h2,h3,h4⟩:=h.on rfl;have hbt:=hb t h1;obtain⟨k1,k2,k3,k4,k5⟩:=h.right.of_snoc;dsimp only at k2 k3 k4 k5;refine h.one hb _ (k1.snoc k2 k3 (by show s≤t;omega) hbt.2) (fun r hr=>?_) (fun n=>?_) (by simp)
 ·rcases List.mem_append.1 hr with hr | hr
  ·have:=h2 r (List.mem_append_left _ hr);omega
  ·rw[List.mem_singleton.1 hr];exact Int.le_refl _
 ·rw[has_append,has_append,has_cons,has_cons,has_nil,Bool.or_false,Bool.or_false,Bool.or_assoc]
  congr 1
  rw[← Bool.decide_or]
  congr 1
  exact propext ⟨fun h=>by dsimp only at h ⊢;omega,fun h=>by dsimp only at h ⊢;omega⟩
end
end Sp
end Go.Proofs.YtgeafpaognhokaaGreat
namespace Go.Proofs.YtgeafpaognhokaaGreat
open Go.ChangeShapes Go.WideShapes Go.ChangeAt Go.RowKit
namespace Sp
def SetIs (ns:List Int) (l:List (Int×Int)):Prop:=RightF 1 l∧∀ n,hasB l n=true↔n∈ns
theorem SetIs.eq {ns:List Int} {a b:List (Int×Int)} (ha:SetIs ns a) (hb:SetIs ns b):a=b:=ext ha.1 hb.1 fun n=>by
 rw[Bool.eq_iff_iff,ha.2 n,hb.2 n]
set_option maxRecDepth 100000 in
set_option maxHeartbeats 4000000 in
theorem refof_any (ns:List Int) (n:Nat) (A:Option Addr) (c:Nat) (w:World) (hl:ns.length=n) (hn:n≤100000) (hr:Rd w w.heap.size 1 A n c (intsC ns)) (hb:∀ x∈ns,1≤x∧x≤1099511627776) :
  Calls Tryz.prog 158 #[.slice A n c] w fun e w'=>∃ l A' c',e = .returned (.slice A' l.length c')∧SetIs ns l∧Own w' w.heap.size 157 2 A' l.length c' (runsC l)∧Below w.heap.size w w':=by
 have HL:=Lib.hid hl;have HBD:=Lib.hid hb;have HN:=fun v W (h:Below w.heap.size w W)=>Lib.hid (next_any ns n A c W hl (by omega) ((hr.below h).more h.size) v);have HZ:=Lib.hid (OfInv.zero hb);clear hl hr hb;obtain⟨t0,ht0⟩:∃ t,t=(nextL 0 ns).getD 0:=⟨_,rfl⟩;obtain⟨k0,hk0⟩:∃ k,k=(nextL 0 ns).isSome:=⟨_,rfl⟩;have HN0:=HN 0 w (Below.refl _ _);rw[← ht0,← hk0]at HZ HN0;clear ht0 hk0;go_enter Tryz.func158,Tryz.ntmps158;go_wp2_with fail;refine HN0.out.mono ?_;rintro e w3 ⟨rfl,rfl⟩;clear HN0;go_wp2
 go_loopw [3,4,5] (fun lv tv kv wr=>∃ (q:Nat) (A':Option Addr) (c':Nat) (out:List (Int×Int)) (t:Int) (ok:Bool),lv = .slice A' q c'∧tv = .int .i64 t∧kv = .bool ok∧Hid (q=out.length)∧Hid (OfInv ns out t ok)∧Hid (Own wr w3.heap.size 157 2 A' q c' (runsC out))∧Hid (Below w3.heap.size w3 wr)) (fun _ tv kv _=>match kv with | .bool true=>(1099511627780-intOf tv).toNat | _=>0)
 case atStart=>exact⟨0,none,0,[],t0,k0,rfl,rfl,rfl,rfl,HZ.out,⟨World.ownsRow_nil _ _ _ _,by simp[runsC]⟩,Below.refl _ _⟩
 case round=>
  obtain⟨q,A',c',out,t,ok,rfl,rfl,rfl,HQ,HI,HO,HB⟩:=hrel
  cases ok with
  | false=>
   have HF:=Lib.hid (HI.out.off rfl);have HRT:=Lib.hid HI.out.right;have hq:=HQ.out;subst hq;go_wp2;go_ret;exact⟨out,_,_,rfl,⟨HRT.out,HF.out⟩,HO.out,HB.out⟩
  | true=>
   obtain⟨ht0,htl,_,htc⟩:=HI.out.on rfl;obtain⟨ht1,ht2⟩:=HBD.out t ht0
   have hlen:out.length≤100000:=by
    have:=List.countP_le_length (p:=fun x=>decide (x<t)) (l:=ns);rw[HL.out]at this;omega
   obtain⟨t',ht'⟩:∃ t',t'=(nextL t ns).getD 0:=⟨_,rfl⟩;obtain⟨k',hk'⟩:∃ k',k'=(nextL t ns).isSome:=⟨_,rfl⟩
   have HM:Hid (k'=true→t<t'∧t'≤1099511627776):=fun hk=>by
    have hN:=nextL_is t ns
    cases hx:nextL t ns with
    | none=>rw[hk',hx]at hk;cases hk
    | some u=>
     rw[hx]at hN ht';rw[ht'];exact⟨hN.2.1,(HBD.out u hN.1).2⟩
   have HNX:=fun W (h:Below w3.heap.size w3 W)=>HN t W h;rw[← ht',← hk']at HNX;have hgap:∀ r∈out,r.2<t:=htl;clear htc htl ht0
   rcases nil_or_snoc out with rfl | ⟨dd,r,rfl⟩
   ·have hq:q=0:=HQ.out
    subst hq;have HY:=Lib.hid (HI.out.push HBD.out (by simp));rw[← ht',← hk']at HY;obtain⟨A2,c2,w2',hrun2,ho2',hb2'⟩:=push_run Tryz.underlying122 infoP wr w3.heap.size wr.heap.size rfl HB.out.size _ ([]:List (Int×Int)) HO.out.row t t (by omega);have Hrun2:=Lib.hid hrun2;have HO2:=Lib.hid ho2';have HB2:=Lib.hid (HB.out.trans hb2');obtain⟨q2,hq2⟩:∃ q2,q2=(([]:List (Int×Int))++[(t,t)]).length:=⟨_,rfl⟩;rw[← hq2]at Hrun2 HO2;have HQ2:=Lib.hid hq2;clear hrun2 ho2' hb2' hq2 ht' hk' hgap;go_wp2_with (at_builtin;refine Lib.wpList_append_run _ rfl _ _ _ _ rfl _ _ rfl rfl _ _ Hrun2.out ?_);go_wp2_with fail;refine (HNX _ HB2.out).out.mono ?_;rintro e wr' ⟨rfl,rfl⟩;go_wp2;go_roundw
    case rel=>exact⟨q2,A2,c2,([]:List (Int×Int))++[(t,t)],t',k',rfl,rfl,rfl,HQ2.out,HY.out,HO2.out,HB2.out⟩
    case measure=>cases k' <;> simp[intOf] <;> (try have:=(HM.out rfl)) <;> omega
   ·obtain⟨s,e0⟩:=r
    by_cases he:e0=t-1
    ·subst he
     have HY:=Lib.hid (HI.out.grow HBD.out);rw[← ht',← hk']at HY;obtain⟨D,hD⟩:∃ D,D=dd.length:=⟨_,rfl⟩
     have hq:q=D+1:=by rw[hD];have:=HQ.out;simpa using this
     subst hq
     have hD2:D≤400000:=by rw[List.length_append,List.length_singleton]at hlen;omega
     obtain⟨g,rfl,hgb,hgl,hfz,hcell⟩:=Own.place HO.out (by omega)
     have hcl:wr.cell? ⟨g,D*2+1,none⟩=some (.int .i64 (t-1)):=by
      have:=(runsC_at (dd++[(s,(t-1))]) D (by simp[hD])).2;rw[show (dd++[(s,(t-1))])[D]'(by simp[hD])=(s,(t-1)) from by simp[hD]]at this;exact hcell _ _ this
     have hfz:=hfz (D*2+1)
     have HO2:Hid (Own (wr.setCell ⟨g,D*2+1,none⟩ (.int .i64 t)) w3.heap.size 157 2 (some ⟨g,0,none⟩) (D+1) c' (runsC (dd++[(s,t)]))):=by
      rw[hD];exact own_close (by rw[← hD];exact HO.out)
     have HB2:Hid (Below w3.heap.size w3 (wr.setCell ⟨g,D*2+1,none⟩ (.int .i64 t))):=HB.out.setCell hgb _
     have HQ2:Hid (D+1=(dd++[(s,t)]).length):=by unfold Hid;rw[hD];simp
     clear hcell hD ht' hk' hgap hlen;go_wp2_with fail;refine (HNX _ HB2.out).out.mono ?_;rintro e wr' ⟨rfl,rfl⟩;go_wp2;go_roundw
     case rel=>exact⟨D+1,_,c',dd++[(s,t)],t',k',rfl,rfl,rfl,HQ2.out,HY.out,HO2.out,HB2.out⟩
     case measure=>cases k' <;> simp[intOf] <;> (try have:=(HM.out rfl)) <;> omega
    ·have f5:(e0==t-1)=false:=by simpa using he
     have HY:=Lib.hid (HI.out.push HBD.out (fun r hr=>by
      obtain⟨_,j2,_,j4,_⟩:=HI.out.right.of_snoc;dsimp only at j2 j4;have k5:e0<t:=hgap (s,e0) (by simp)
      rcases List.mem_append.1 hr with hr | hr
      ·have:=j2 r hr;omega
      ·rw[List.mem_singleton.1 hr];show e0+2≤t;omega))
     rw[← ht',← hk']at HY;obtain⟨D,hD⟩:∃ D,D=dd.length:=⟨_,rfl⟩
     have hq:q=D+1:=by rw[hD];have:=HQ.out;simpa using this
     subst hq
     have hD2:D≤400000:=by rw[List.length_append,List.length_singleton]at hlen;omega
     obtain⟨g,rfl,hgb,hgl,hfz,hcell⟩:=Own.place HO.out (by omega)
     have hcl:wr.cell? ⟨g,D*2+1,none⟩=some (.int .i64 e0):=by
      have:=(runsC_at (dd++[(s,e0)]) D (by simp[hD])).2;rw[show (dd++[(s,e0)])[D]'(by simp[hD])=(s,e0) from by simp[hD]]at this;exact hcell _ _ this
     have eD:(dd++[(s,e0)]).length=D+1:=by simp[hD]
     have hown:wr.ownsRow w3.heap.size 157 2 (.slice (some ⟨g,0,none⟩) (D+1) c') (dd++[(s,e0)]).length (runsC (dd++[(s,e0)])):=by rw[eD];exact HO.out.row
     obtain⟨A2,c2,w2',hrun2,ho2',hb2'⟩:=push_run Tryz.underlying122 infoP wr w3.heap.size wr.heap.size rfl HB.out.size _ (dd++[(s,e0)]) hown t t (by omega);have Hrun2:=Lib.hid hrun2;have HO2:=Lib.hid ho2';have HB2:=Lib.hid (HB.out.trans hb2');obtain⟨q2,hq2⟩:∃ q2,q2=((dd++[(s,e0)])++[(t,t)]).length:=⟨_,rfl⟩;rw[← hq2]at Hrun2 HO2;have HQ2:=Lib.hid hq2;clear hrun2 ho2' hb2' hq2 ht' hk' hgap;clear hown eD hfz hcell hD he hlen;go_wp2_with (at_builtin;refine Lib.wpList_append_run _ rfl _ _ _ _ rfl _ _ rfl rfl _ _ Hrun2.out ?_);go_wp2_with fail;refine (HNX _ HB2.out).out.mono ?_;rintro e wr' ⟨rfl,rfl⟩;go_wp2;go_roundw
     case rel=>exact⟨q2,A2,c2,(dd++[(s,e0)])++[(t,t)],t',k',rfl,rfl,rfl,HQ2.out,HY.out,HO2.out,HB2.out⟩
     case measure=>cases k' <;> simp[intOf] <;> (try have:=(HM.out rfl)) <;> omega
end Sp
end Go.Proofs.YtgeafpaognhokaaGreat
namespace Go.Proofs.YtgeafpaognhokaaGreat
open Go.Shelf
namespace Sp
def sortI_ren:Go.Shelf.Ren:=⟨fun | 53=>195 | 64=>176 | 63=>217 | 78=>211 | 79=>212 | 70=>226 | 71=>227 | 72=>228 | 73=>229 | 74=>230 | 75=>231 | 59=>232 | 76=>233 | 77=>234 | 88=>236 | 89=>222 | 90=>223 | 91=>237 | 92=>238 | 68=>193 | 96=>239 | n=>n,fun | 22=>175 | 23=>2 | 3=>3 | 51=>163 | 0=>0 | 67=>232 | 69=>234 | 4=>4 | 61=>226 | 60=>225 | 44=>131 | 5=>5 | 9=>9 | 75=>243 | 79=>247 | 83=>255 | 84=>256 | n=>n,fun | n=>n⟩
theorem sortI:Go.Proofs.SlLaysN.n53 Tryz.prog sortI_ren:={
 mixed:=by kernel_rfl
 f53:=⟨Tryz.f195.name,by decide,Tryz.func195.trans (congrArg some (by kernel_rfl))⟩
 f59:=⟨Tryz.f232.name,by decide,Tryz.func232.trans (congrArg some (by kernel_rfl))⟩
 f63:=⟨Tryz.f217.name,by decide,Tryz.func217.trans (congrArg some (by kernel_rfl))⟩
 f64:=Tryz.func176.trans (congrArg some (by kernel_rfl))
 f68:=⟨Tryz.f193.name,by decide,Tryz.func193.trans (congrArg some (by kernel_rfl))⟩
 f70:=⟨Tryz.f226.name,by decide,Tryz.func226.trans (congrArg some (by kernel_rfl))⟩
 f71:=⟨Tryz.f227.name,by decide,Tryz.func227.trans (congrArg some (by kernel_rfl))⟩
 f72:=⟨Tryz.f228.name,by decide,Tryz.func228.trans (congrArg some (by kernel_rfl))⟩
 f73:=⟨Tryz.f229.name,by decide,Tryz.func229.trans (congrArg some (by kernel_rfl))⟩
 f74:=⟨Tryz.f230.name,by decide,Tryz.func230.trans (congrArg some (by kernel_rfl))⟩
 f75:=⟨Tryz.f231.name,by decide,Tryz.func231.trans (congrArg some (by kernel_rfl))⟩
 f76:=⟨Tryz.f233.name,by decide,Tryz.func233.trans (congrArg some (by kernel_rfl))⟩
 f77:=⟨Tryz.f234.name,by decide,Tryz.func234.trans (congrArg some (by kernel_rfl))⟩
 f78:=Tryz.func211.trans (congrArg some (by kernel_rfl))
 f79:=Tryz.func212.trans (congrArg some (by kernel_rfl))
 f88:=⟨Tryz.f236.name,by decide,Tryz.func236.trans (congrArg some (by kernel_rfl))⟩
 f89:=Tryz.func222.trans (congrArg some (by kernel_rfl))
 f90:=Tryz.func223.trans (congrArg some (by kernel_rfl))
 f91:=⟨Tryz.f237.name,by decide,Tryz.func237.trans (congrArg some (by kernel_rfl))⟩
 f92:=⟨Tryz.f238.name,by decide,Tryz.func238.trans (congrArg some (by kernel_rfl))⟩
 f96:=⟨Tryz.f239.name,by decide,Tryz.func239.trans (congrArg some (by kernel_rfl))⟩
 t0:=Tryz.underlying0
 a0:=Tryz.isAgg0
 z0:=Tryz.sizeOf0
 v0:=Tryz.zeroValue0
 t3:=Tryz.underlying3
 a3:=Tryz.isAgg3
 z3:=Tryz.sizeOf3
 v3:=Tryz.zeroValue3
 t4:=Tryz.underlying4
 a4:=Tryz.isAgg4
 z4:=Tryz.sizeOf4
 v4:=Tryz.zeroValue4
 t5:=Tryz.underlying5
 a5:=Tryz.isAgg5
 z5:=Tryz.sizeOf5
 v5:=Tryz.zeroValue5
 t9:=Tryz.underlying9
 a9:=Tryz.isAgg9
 z9:=Tryz.sizeOf9
 v9:=Tryz.zeroValue9
 t22:=Tryz.underlying175
 a22:=Tryz.isAgg175
 z22:=Tryz.sizeOf175
 v22:=Tryz.zeroValue175
 t23:=Tryz.underlying2
 a23:=Tryz.isAgg2
 z23:=Tryz.sizeOf2
 v23:=Tryz.zeroValue2
 t44:=Tryz.underlying131
 a44:=Tryz.isAgg131
 z44:=Tryz.sizeOf131
 v44:=Tryz.zeroValue131
 t51:=Tryz.underlying163
 a51:=Tryz.isAgg163
 z51:=Tryz.sizeOf163
 v51:=Tryz.zeroValue163
 t60:=Tryz.underlying225
 a60:=Tryz.isAgg225
 z60:=Tryz.sizeOf225
 v60:=Tryz.zeroValue225
 t61:=Tryz.underlying226
 a61:=Tryz.isAgg226
 z61:=Tryz.sizeOf226
 v61:=Tryz.zeroValue226
 t67:=Tryz.underlying232
 a67:=Tryz.isAgg232
 z67:=Tryz.sizeOf232
 v67:=Tryz.zeroValue232
 t69:=Tryz.underlying234
 a69:=Tryz.isAgg234
 z69:=Tryz.sizeOf234
 v69:=Tryz.zeroValue234
 t75:=Tryz.underlying243
 a75:=Tryz.isAgg243
 z75:=Tryz.sizeOf243
 v75:=Tryz.zeroValue243
 t79:=Tryz.underlying247
 a79:=Tryz.isAgg247
 z79:=Tryz.sizeOf247
 v79:=Tryz.zeroValue247
 t83:=Tryz.underlying255
 a83:=Tryz.isAgg255
 z83:=Tryz.sizeOf255
 v83:=Tryz.zeroValue255
 t84:=Tryz.underlying256
 a84:=Tryz.isAgg256
 z84:=Tryz.sizeOf256
 v84:=Tryz.zeroValue256 }
end Sp
end Go.Proofs.YtgeafpaognhokaaGreat
namespace Go.Proofs.YtgeafpaognhokaaGreat
open Go.ChangeShapes Go.WideShapes Go.ChangeAt Go.RowKit
namespace Sp
def srt (ns:List Int):List Int:=ns.mergeSort fun x y=>decide (x≤y)
theorem srt_len (ns:List Int):(srt ns).length=ns.length:=List.length_mergeSort _
theorem srt_mem {ns:List Int} {x:Int} : x∈srt ns↔x∈ns:=List.mem_mergeSort
theorem srt_le (ns:List Int) {i j:Nat} (hi:i<j) (hj:j<(srt ns).length):(srt ns)[i]≤(srt ns)[j]:=by
 have h:=List.pairwise_mergeSort (le:=fun x y:Int=>decide (x≤y)) (by intro a b c;simp;omega) (by intro a b;simp;omega) ns;exact of_decide_eq_true (List.pairwise_iff_getElem.1 h i j (Nat.lt_trans hi hj) hj hi)
theorem own_emptyI (w:World):Own (w.alloc (.cells #[] 2)) w.heap.size 2 1 (some ⟨w.heap.size,0,none⟩) 0 0 (intsC []):=
 ⟨⟨rfl,.inr ⟨w.heap.size,0,#[],rfl,Nat.le_refl _,heap_alloc_new _ _,Nat.le_refl _,by simp[maxLen],rfl,rfl⟩⟩,by simp[intsC]⟩
set_option maxHeartbeats 400000 in
theorem clone_any (ns:List Int) (n:Nat) (A:Option Addr) (c:Nat) (w:World) (hl:ns.length=n) (hn:n≤900000) (hr:Rd w w.heap.size 1 A n c (intsC ns)) :
  Calls Tryz.prog 194 #[.slice A n c] w fun e w'=>∃ A' c',e = .returned (.slice A' n c')∧Own w' w.heap.size 2 1 A' n c' (intsC ns)∧Below w.heap.size w w':=by
 have hnil:∀ (W:World) (a:Option Addr) (n c n' c':Nat),(binOp .eql 175 (.slice a n c) (.slice none n' c')).run Tryz.prog W = .ok (.bool a.isNone) W:=fun W a n c n' c'=>Lib.run_eql_slice_nil W _ _ a n c n' c' Tryz.underlying175
 cases A with
 | none=>
  have hn0:n=0:=by
   rcases Nat.eq_zero_or_pos n with h | h
   ·exact h
   ·obtain⟨b,o,e,_⟩:=hr.at_ h
    cases e
  subst hn0;have:ns=[]:=List.eq_nil_of_length_eq_zero hl;subst this;clear hr hl;go_enter Tryz.func194,Tryz.ntmps194;go_wp2;go_ret;exact⟨none,0,rfl,⟨World.ownsRow_nil _ _ _ _,by simp[intsC]⟩,Below.refl _ _⟩
 | some a=>
  obtain⟨A2,c2,w2,hrun,ho,hb⟩:=run_apps (own_emptyI w) ((hr.alloc (Nat.le_refl _) (.cells #[] 2)).more (by simp)) (by omega) (by simp);rw[List.nil_append,Nat.zero_add]at ho;rw[Nat.zero_add]at hrun;have Hrun:=Lib.hid hrun;have HO:=Lib.hid ho;have HB:=Lib.hid (((Below.refl w.heap.size w).alloc (Nat.le_refl _) (.cells #[] 2)).trans hb);clear hr hl hrun ho hb;go_enter Tryz.func194,Tryz.ntmps194;go_wp2_with (at_builtin;refine Lib.wpList_append_run _ rfl _ _ _ _ rfl _ _ rfl rfl _ _ Hrun.out ?_);go_ret;exact⟨A2,c2,rfl,HO.out,HB.out⟩
theorem sort_own (ns:List Int) (n:Nat) (A:Option Addr) (c base:Nat) (w:World) (hl:ns.length=n) (hn:n≤900000) (ho:Own w base 2 1 A n c (intsC ns)) (hb:base≤w.heap.size) :
  Calls Tryz.prog 195 #[.slice A n c] w fun e w'=>e = .returned (.tuple #[])∧Own w' base 2 1 A n c (intsC (srt ns))∧Below base w w':=by
 rcases Nat.eq_zero_or_pos n with h0 | h0
 ·subst h0
  have:ns=[]:=List.eq_nil_of_length_eq_zero hl;subst this;refine (Go.Proofs.AnyG.slices_Sort_int_none sortI A c w).mono ?_;rintro e w' ⟨rfl,rfl⟩;exact⟨rfl,by rw[show srt []=[] from List.mergeSort_nil];exact ho,Below.refl _ _⟩
 ·subst hl
  rcases ho.row.2 with ⟨_,h⟩ | ⟨g,cap,cur,hv,hg,hh,h1,h2,h3,h4⟩
  ·omega
  ·injection hv with e1 _ e3
   subst e1;subst e3;rw[Nat.mul_one]at h4;refine (Go.Proofs.AnyG.slices_Sort_int sortI g 0 c ns w (holds_of_blockI hh h4) (Array.getElem?_eq_some_iff.1 hh).1 (by omega)).mono ?_;rintro e w' ⟨rfl,k,os,rfl⟩;refine⟨rfl,⟨?_,intsC_one _⟩,(Below.refl base w).grown (grownBy_sortedI _) hb (fun k hk=>by injection hk with hk;omega)⟩;exact ownsRow_sortedI (List.length_mergeSort _) hg hh h1 h2 h3
structure OfP (ys:List Int) (k:Nat) (out:List (Int×Int)):Prop where
 right:RightF 1 out
 has:∀ n,hasB out n=true↔n∈ys.take k
 len:out.length≤k
 last:∀ (j:Nat) (h:j<ys.length),k=j+1→∃ d s,out=d++[(s,ys[j])]
theorem OfP.zero (ys:List Int):OfP ys 0 []:=⟨trivial,fun n=>by simp[hasB],Nat.zero_le _,fun j _ h=>by omega⟩
theorem OfP.first {ys:List Int} (h:0<ys.length) (hb:1≤ys[0]∧ys[0]≤1099511627776):OfP ys 1 [(ys[0],ys[0])]:=by
 refine⟨⟨hb.1,Int.le_refl _,hb.2,trivial⟩,fun n=>?_,by simp,fun j hj e=>?_⟩
 ·rw[List.take_one,List.head?_eq_getElem?,List.getElem?_eq_getElem h]
  simp[hasB];omega
 ·obtain rfl:j=0:=by omega
  exact⟨[],ys[0],rfl⟩
theorem OfP.push {ys _d:List Int} {out:List (Int×Int)} {j:Nat} (h:OfP ys (j+1) out) (hj:j+1<ys.length) (hle:ys[j]+1<ys[j+1]) (hb:ys[j+1]≤1099511627776):OfP ys (j+1+1) (out++[(ys[j+1],ys[j+1])]):=by
 obtain⟨d,s,hd⟩:=h.last j (by omega) rfl;have hr:=h.right;rw[hd]at hr;obtain⟨k1,k2,k3,k4,k5⟩:=hr.of_snoc;dsimp only at k2 k3 k4 k5;refine⟨h.right.snoc (fun q hq=>?_) (by show 1≤ys[j+1];omega) (Int.le_refl _) hb,fun n=>?_,by have:=h.len;simp;omega,fun i hi e=>?_⟩
 ·show q.2+2≤ys[j+1]
  rw[hd]at hq
  rcases List.mem_append.1 hq with hq | hq
  ·have:=k2 q hq;omega
  ·rw[List.mem_singleton.1 hq];show ys[j]+2≤_;omega
 ·rw[has_append,Bool.or_eq_true,h.has n,List.take_succ_eq_append_getElem hj,List.mem_append,has_cons,has_nil,Bool.or_false,List.mem_singleton,decide_eq_true_eq]
  dsimp only;constructor
  ·rintro (h | h)
   ·exact .inl h
   ·right;omega
  ·rintro (h | h)
   ·exact .inl h
   ·right;omega
 ·obtain rfl:i=j+1:=by omega
  exact⟨out,ys[j+1],rfl⟩
theorem OfP.grow {ys:List Int} {d:List (Int×Int)} {s:Int} {j:Nat} (hj:j+1<ys.length) (h:OfP ys (j+1) (d++[(s,ys[j])])) (hle:ys[j]≤ys[j+1]) (hle2:ys[j+1]≤ys[j]+1) (hb:ys[j+1]≤1099511627776):OfP ys (j+1+1) (d++[(s,ys[j+1])]):=by
 obtain⟨k1,k2,k3,k4,k5⟩:=h.right.of_snoc;dsimp only at k2 k3 k4 k5;refine⟨k1.snoc k2 k3 (by show s≤ys[j+1];omega) hb,fun n=>?_,by have:=h.len;simp at this ⊢;omega,fun i hi e=>?_⟩
 ·have h1:=h.has n
  rw[has_append,Bool.or_eq_true,has_cons,has_nil,Bool.or_false,decide_eq_true_eq]at h1;rw[has_append,Bool.or_eq_true,List.take_succ_eq_append_getElem hj,List.mem_append,← h1,has_cons,has_nil,Bool.or_false,List.mem_singleton,decide_eq_true_eq];dsimp only at h1 ⊢;constructor
  ·rintro (h | h)
   ·exact .inl (.inl h)
   ·rcases (by omega:n≤ys[j]∨n=ys[j+1])with h' | h'
    ·exact .inl (.inr ⟨h.1,h'⟩)
    ·exact .inr h'
  ·rintro ((h | h) | h)
   ·exact .inl h
   ·right;omega
   ·right;omega
 ·obtain rfl:i=j+1:=by omega
  exact⟨d,s,rfl⟩
def OfIs (ns:List Int) (w:World) (e:Ending) (w':World):Prop:=
 ((∀ x∈ns,1≤x∧x≤1099511627776)∧∃ l A c,e = .returned (.tuple #[.slice A l.length c,.int .i64 0])∧SetIs ns l∧l.length≤ns.length∧Own w' w.heap.size 214 2 A l.length c (runsC l)∧Below w.heap.size w w') ∨
 ((∃ x∈ns,x<1∨1099511627776<x)∧e = .returned (.tuple #[.slice none 0 0,.int .i64 1])∧Below w.heap.size w w')
set_option maxRecDepth 100000 in
set_option maxHeartbeats 4000000 in
theorem of_any (ns:List Int) (n:Nat) (A:Option Addr) (c:Nat) (w:World) (hl:ns.length=n) (hn:n≤100000) (hr:Rd w w.heap.size 1 A n c (intsC ns)) :
  Calls Tryz.prog 167 #[.slice A n c] w (OfIs ns w):=by
 have HC:=Lib.hid (clone_any ns n A c w hl (by omega) hr);have HL:=Lib.hid hl;clear hl hr;go_enter Tryz.func167,Tryz.ntmps167;go_wp2_with fail;refine HC.out.mono ?_;rintro e w1 ⟨A1,c1,rfl,ho1,hb1⟩;have HS:=Lib.hid (sort_own ns n A1 c1 w.heap.size w1 HL.out (by omega) ho1 hb1.size);have HB1:=Lib.hid hb1;clear ho1 hb1 HC;go_wp2_with fail;refine HS.out.mono ?_;rintro e w2 ⟨rfl,ho2,hb2⟩;have HB2:=Lib.hid (HB1.out.trans hb2);have HR:=Lib.hid ho2.rd;clear ho2 hb2 HS HB1;obtain⟨ys,hys⟩:∃ ys,ys=srt ns:=⟨_,rfl⟩
 have HLE:Hid (∀ (i j:Nat) (hi:i<j) (hj:j<ys.length),ys[i]≤ys[j]):=by
  subst hys;exact fun i j hi hj=>srt_le ns hi hj
 have HYL:Hid (ys.length=n):=by rw[hys];exact (srt_len ns).trans HL.out
 have HM:Hid (∀ x,x∈ys↔x∈ns):=by rw[hys];exact fun x=>srt_mem
 rw[← hys]at HR;clear hys;go_wp2
 go_loopw [5,14] (fun lv iv wr=>∃ (k q:Nat) (A':Option Addr) (c':Nat) (out:List (Int×Int)),k≤n∧lv = .slice A' q c'∧iv = .int .i64 k∧Hid (q=out.length)∧Hid (OfP ys k out)∧Hid (∀ x∈ys.take k,1≤x∧x≤1099511627776)∧Hid (Own wr w2.heap.size 214 2 A' q c' (runsC out))∧Hid (Below w2.heap.size w2 wr)) (fun _ iv _=>n-(intOf iv).toNat)
 case atStart=>exact⟨0,0,none,0,[],by omega,rfl,rfl,rfl,OfP.zero _,Lib.hid (by simp),⟨World.ownsRow_nil _ _ _ _,by simp[runsC]⟩,Below.refl _ _⟩
 case round=>
  obtain⟨k,q,A',c',out,hk,rfl,rfl,HQ,HI,HG,HO,HB⟩:=hrel
  by_cases hlt:k<n
  ·have hky:k<ys.length:=by rw[HYL.out];exact hlt
   obtain⟨b,o,rfl,hbl,hc⟩:=rd_int HR.out HYL.out hlt;have q0:=hc k hky;obtain⟨x,hx⟩:∃ x,x=ys[k]:=⟨_,rfl⟩;have HX:=Lib.hid hx;rw[← hx]at q0;have q0:=(HB.out.cell (p:=⟨b,o+k,none⟩) hbl).trans q0;have HBW:Hid (Below w.heap.size w wr):=HB2.out.trans (HB.out.mono HB2.out.size)
   by_cases h1:x<1
   ·have f1:decide (x<1)=true:=by simpa using h1
    have HE:Hid (∃ x∈ns,x<1∨1099511627776<x):=⟨x,(HM.out x).1 (by rw[hx];exact List.getElem_mem hky),.inl h1⟩;clear hc hx;go_wp2;go_ret2;exact .inr ⟨HE.out,rfl,HBW.out⟩
   ·have f1:decide (x<1)=false:=by simpa using h1
    by_cases h2:1099511627776<x
    ·have f2:decide (1099511627776<x)=true:=by simpa using h2
     have HE:Hid (∃ x∈ns,x<1∨1099511627776<x):=⟨x,(HM.out x).1 (by rw[hx];exact List.getElem_mem hky),.inr h2⟩;clear hc hx;go_wp2;go_ret2;exact .inr ⟨HE.out,rfl,HBW.out⟩
    ·have f2:decide (1099511627776<x)=false:=by simpa using h2
     have HG2:Hid (∀ x∈ys.take (k+1),1≤x∧x≤1099511627776):=fun y hy=>by
      rw[List.take_succ_eq_append_getElem hky]at hy
      rcases List.mem_append.1 hy with hy | hy
      ·exact HG.out y hy
      ·rw[List.mem_singleton.1 hy,← hx];omega
     have hlen:=HI.out.len
     rcases Nat.eq_zero_or_pos k with rfl | hk0
     ·have hout:out=[]:=List.eq_nil_of_length_eq_zero (by omega)
      subst hout;have hq:q=0:=HQ.out;subst hq
      have HY:Hid (OfP ys 1 ([]++[(x,x)])):=by
       unfold Hid;rw[HX.out];exact OfP.first hky (by rw[← hx];omega)
      simp only[Nat.add_zero]at q0;obtain⟨A2,c2,w3,hrun2,ho2',hb2'⟩:=push_run Tryz.underlying181 infoR wr w2.heap.size wr.heap.size rfl HB.out.size _ ([]:List (Int×Int)) HO.out.row x x (by omega);have Hrun2:=Lib.hid hrun2;have HO2:=Lib.hid ho2';have HB3:=Lib.hid (HB.out.trans hb2');obtain⟨q2,hq2⟩:∃ q2,q2=(([]:List (Int×Int))++[(x,x)]).length:=⟨_,rfl⟩;rw[← hq2]at Hrun2 HO2;have HQ2:=Lib.hid hq2;clear hrun2 ho2' hb2' hq2 hc hx hlen;go_wp2_with (at_builtin;refine Lib.wpList_append_run _ rfl _ _ _ _ rfl _ _ rfl rfl _ _ Hrun2.out ?_);go_roundw
      case rel=>exact⟨1,q2,A2,c2,([]:List (Int×Int))++[(x,x)],by omega,rfl,rfl,HQ2.out,HY.out,HG2.out,HO2.out,HB3.out⟩
      case measure=>simp[intOf];omega
     ·obtain⟨j,rfl⟩:∃ j,k=j+1:=⟨k-1,by omega⟩
      obtain⟨dd,s,hd⟩:=HI.out.last j (by omega) rfl;obtain⟨e0,he0⟩:∃ e,e=ys[j]:=⟨_,rfl⟩;have hord:=HLE.out j (j+1) (by omega) hky
      have hjy:j<ys.length:=by omega
      have he1:=HG.out e0 (by rw[he0,List.take_succ_eq_append_getElem hjy];exact List.mem_append_right _ List.mem_cons_self);rw[← he0]at hd hord;rw[← hx]at hord;subst hd;obtain⟨D,hD⟩:∃ D,D=dd.length:=⟨_,rfl⟩
      have hq:q=D+1:=by rw[hD];have:=HQ.out;simpa using this
      subst hq
      have hD2:D≤400000:=by rw[List.length_append,List.length_singleton]at hlen;omega
      obtain⟨g,rfl,hgb,hgl,hfz,hcell⟩:=Own.place HO.out (by omega);have hfz:=hfz (D*2+1)
      have hcl:wr.cell? ⟨g,D*2+1,none⟩=some (.int .i64 e0):=by
       have:=(runsC_at (dd++[(s,e0)]) D (by simp[hD])).2;rw[show (dd++[(s,e0)])[D]'(by simp[hD])=(s,e0) from by simp[hD]]at this;exact hcell _ _ this
      have eD:(dd++[(s,e0)]).length=D+1:=by simp[hD]
      by_cases he:e0+1<x
      ·have f5:decide (e0+1<x)=true:=by simpa using he
       have HY:Hid (OfP ys (j+1+1) ((dd++[(s,e0)])++[(x,x)])):=by
        unfold Hid;rw[HX.out];exact OfP.push (_d:=[]) HI.out hky (by rw[← hx,← he0];exact he) (by rw[← hx];omega)
       have hown:wr.ownsRow w2.heap.size 214 2 (.slice (some ⟨g,0,none⟩) (D+1) c') (dd++[(s,e0)]).length (runsC (dd++[(s,e0)])):=by rw[eD];exact HO.out.row
       obtain⟨A2,c2,w3,hrun2,ho2',hb2'⟩:=push_run Tryz.underlying181 infoR wr w2.heap.size wr.heap.size rfl HB.out.size _ (dd++[(s,e0)]) hown x x (by omega);have Hrun2:=Lib.hid hrun2;have HO2:=Lib.hid ho2';have HB3:=Lib.hid (HB.out.trans hb2');obtain⟨q2,hq2⟩:∃ q2,q2=((dd++[(s,e0)])++[(x,x)]).length:=⟨_,rfl⟩;rw[← hq2]at Hrun2 HO2;have HQ2:=Lib.hid hq2;clear hrun2 ho2' hb2' hq2 hcell hD eD hown hc hx he0 hlen he;go_wp2_with (at_builtin;refine Lib.wpList_append_run _ rfl _ _ _ _ rfl _ _ rfl rfl _ _ Hrun2.out ?_);go_roundw
       case rel=>exact⟨j+1+1,q2,A2,c2,(dd++[(s,e0)])++[(x,x)],by omega,rfl,by go_num,HQ2.out,HY.out,HG2.out,HO2.out,HB3.out⟩
       case measure=>simp[intOf];omega
      ·have f5:decide (e0+1<x)=false:=by simpa using he
       have HY:Hid (OfP ys (j+1+1) (dd++[(s,x)])):=by
        unfold Hid;rw[HX.out];refine OfP.grow hky (by rw[← he0];exact HI.out) (by rw[← hx,← he0];exact hord) (by rw[← hx,← he0];omega) (by rw[← hx];omega)
       have HO2:Hid (Own (wr.setCell ⟨g,D*2+1,none⟩ (.int .i64 x)) w2.heap.size 214 2 (some ⟨g,0,none⟩) (D+1) c' (runsC (dd++[(s,x)]))):=by
        rw[hD];exact own_close (by rw[← hD];exact HO.out)
       have HB3:Hid (Below w2.heap.size w2 (wr.setCell ⟨g,D*2+1,none⟩ (.int .i64 x))):=HB.out.setCell hgb _
       have HQ2:Hid (D+1=(dd++[(s,x)]).length):=by unfold Hid;rw[hD];simp
       clear hcell hD eD hc hx he0 hlen he;go_wp2;go_roundw
       case rel=>exact⟨j+1+1,D+1,_,c',dd++[(s,x)],by omega,rfl,by go_num,HQ2.out,HY.out,HG2.out,HO2.out,HB3.out⟩
       case measure=>simp[intOf];omega
  ·obtain rfl:k=n:=by omega
   have hI:=HI.out;have hG:=HG.out;have htk:ys.take k=ys:=List.take_of_length_le (by rw[HYL.out];omega);have HSET:Hid (SetIs ns out):=⟨hI.right,fun m=>by rw[hI.has m,htk];exact HM.out m⟩;have HGD:Hid (∀ x∈ns,1≤x∧x≤1099511627776):=fun x hx=>hG x (by rw[htk];exact (HM.out x).2 hx)
   have HLN:Hid (out.length≤ns.length):=by unfold Hid;rw[HL.out];exact hI.len
   have hq:=HQ.out;subst hq;clear hI hG htk;go_wp2;go_ret2;exact .inl ⟨HGD.out,out,_,_,rfl,HSET.out,HLN.out,HO.out.mono HB2.out.size,HB2.out.trans (HB.out.mono HB2.out.size)⟩
end Sp
end Go.Proofs.YtgeafpaognhokaaGreat
namespace Go.Proofs.YtgeafpaognhokaaGreat
open Go.ChangeShapes Go.WideShapes Go.ChangeAt Go.RowKit
namespace Tr
open Sp Rw
def cmpS (a b:ByteArray):Int:=Lib.compareBytes a.data.toList b.data.toList
theorem cmpL_lt:∀ a b:List UInt8,Lib.compareBytes a b<0↔Op.bytesLess a b=true
 | [],[]=>by simp[Lib.compareBytes,Op.bytesLess]
 | [],_::_=>by simp[Lib.compareBytes,Op.bytesLess]
 | _::_,[]=>by simp[Lib.compareBytes,Op.bytesLess]
 | x::a,y::b=>by
  have ih:=cmpL_lt a b;unfold Lib.compareBytes Op.bytesLess
  by_cases h:x<y
  ·simp[h]
  ·by_cases h2:y<x
   ·have h3:x≠y:=fun e=>by subst e;exact UInt8.lt_irrefl x h2
    simp[h,h2,h3]
   ·have h3:x=y:=UInt8.le_antisymm (UInt8.not_lt.1 h2) (UInt8.not_lt.1 h)
    subst h3;simp[h,ih]
theorem cmpL_eq:∀ a b:List UInt8,Lib.compareBytes a b=0↔a=b
 | [],[]=>by simp[Lib.compareBytes]
 | [],_::_=>by simp[Lib.compareBytes]
 | _::_,[]=>by simp[Lib.compareBytes]
 | x::a,y::b=>by
  have ih:=cmpL_eq a b;unfold Lib.compareBytes
  by_cases h:x<y
  ·have h3:x≠y:=fun e=>by subst e;exact UInt8.lt_irrefl x h
   simp[h,h3]
  ·by_cases h2:y<x
   ·have h3:x≠y:=fun e=>by subst e;exact UInt8.lt_irrefl x h2
    simp[h,h2,h3]
   ·have h3:x=y:=UInt8.le_antisymm (UInt8.not_lt.1 h2) (UInt8.not_lt.1 h)
    subst h3;simp[h,ih]
theorem cmpS_lt (a b:ByteArray):cmpS a b<0↔ltS a b:=by
 unfold cmpS ltS;rw[ByteArray.toList_eq,ByteArray.toList_eq];exact cmpL_lt _ _
theorem cmpS_eq (a b:ByteArray):cmpS a b=0↔a=b:=by
 unfold cmpS;rw[cmpL_eq];constructor
 ·intro h
  exact bytes_ext (by rw[ByteArray.toList_eq,ByteArray.toList_eq];exact h)
 ·rintro rfl;rfl
set_option maxHeartbeats 1000000 in
set_option maxRecDepth 100000 in
theorem compareString_any (a b:ByteArray) (w:World):Calls Tryz.prog 141 #[.string a,.string b] w fun e w'=>e = .returned (.int .i64 (cmpS a b))∧w'=w:=by
 go_enter Tryz.func141,Tryz.ntmps141;go_wp2;rw[run_callFunc_extern Tryz.func170 (by kernel_rfl) (by kernel_rfl) (by kernel_rfl) (e:=Extern.BytealgCompare.compare) (by kernel_rfl),Lib.run_compareString];simp only[Result.andThen];rw[Oper.upon_value];go_wp2;go_ret;exact⟨rfl,rfl⟩
theorem compare_str (a b:ByteArray) (w:World):Calls Tryz.prog 102 #[.string a,.string b] w fun e w'=>e = .returned (.int .i64 (cmpS a b))∧w'=w:=by
 go_enter Tryz.func102,Tryz.ntmps102;go_wp2_with (go_at_call 141;refine (compareString_any _ _ _).mono ?_;rintro e w' ⟨rfl,rfl⟩);go_ret;exact⟨rfl,rfl⟩
theorem nan_s (x:ByteArray) (w:World):Calls Tryz.prog 220 #[.string x] w fun e w'=>e = .returned (.bool false)∧w'=w:=by
 go_enter Tryz.func220,Tryz.ntmps220;go_wp2;go_ret;exact⟨by simp,rfl⟩
theorem nan_sl (x:ByteArray) (w:World):Calls Tryz.prog 201 #[.string x] w fun e w'=>e = .returned (.bool false)∧w'=w:=by
 go_enter Tryz.func201,Tryz.ntmps201;go_wp2;go_ret;exact⟨by simp,rfl⟩
theorem less_s (x y:ByteArray) (b:Bool) (w:World) (hb:Op.bytesLess x.toList y.toList=b):Calls Tryz.prog 200 #[.string x,.string y] w fun e w'=>e = .returned (.bool b)∧w'=w:=by
 go_enter Tryz.func200,Tryz.ntmps200;go_wp2_with (go_at_call 220;refine (nan_s _ _).mono ?_;rintro e w' ⟨rfl,rfl⟩);go_ret;exact⟨by first | rfl | simp[hb],rfl⟩
theorem getcmp_any (k key:ByteArray) (A B:Option Addr) (n m c d:Nat) (w:World):Calls Tryz.prog 101 #[.agg #[.string k,.slice A n c,.slice B m d],.string key] w fun e w'=>e = .returned (.int .i64 (cmpS k key))∧Below w.heap.size w w':=by
 go_enter Tryz.func101,Tryz.ntmps101;go_wp2_with (go_at_call 102;refine (compare_str _ _ _).mono ?_;rintro e w' ⟨rfl,rfl⟩);go_ret;exact⟨rfl,Dt.box_below _ _ _⟩
end Tr
end Go.Proofs.YtgeafpaognhokaaGreat
namespace Go.Proofs.YtgeafpaognhokaaGreat
open Go.ChangeShapes Go.WideShapes Go.ChangeAt Go.RowKit
namespace Cs
open Tr Cx Sp
abbrev entV (e:E):Value:=.agg #[.int .i64 e.a,.int .i64 e.n,.string e.s,.int .i64 e.v]
theorem cmpV_lt {x y:E} (h:ltV x y):(if Dt.cmp1 x.v y.v=0 then cmpS x.s y.s else Dt.cmp1 x.v y.v)<0:=by
 rcases h with h | ⟨h,h2⟩
 ·rw[Dt.cmp1_lt h];simp
 ·rw[h,Dt.cmp1_eq,if_pos rfl]
  exact (cmpS_lt _ _).2 h2
theorem cmpV_not {x y:E} (h:¬ltV x y):¬(if Dt.cmp1 x.v y.v=0 then cmpS x.s y.s else Dt.cmp1 x.v y.v)<0:=by
 intro h2
 apply h
 rcases Dt.cmp1_or x.v y.v with ⟨h3,h4⟩ | ⟨h3,h4⟩ | ⟨h3,h4⟩
 ·exact .inl h3
 ·rw[h4,if_pos rfl]at h2
  exact .inr ⟨h3,(cmpS_lt _ _).1 h2⟩
 ·rw[h4,if_neg (by omega)]at h2
  omega
theorem box3_below (w:World) (x y z:Array Value) (t u v:TypeId):Below w.heap.size w (((w.alloc (.cells x t)).alloc (.cells y u)).alloc (.cells z v)):=(((Below.refl _ _).alloc (Nat.le_refl _) _).alloc (by simp) _).alloc (by simp;omega) _
set_option maxRecDepth 100000 in
set_option maxHeartbeats 1000000 in
theorem greater_any (x y:E) (w:World):Calls Tryz.prog 182 #[entV x,entV y] w fun e w'=>e = .returned (entV (grE x y))∧Below w.heap.size w w':=by
 obtain⟨c,hc⟩:∃ c,c=Dt.cmp1 x.v y.v:=⟨_,rfl⟩;obtain⟨d,hd⟩:∃ d,d=cmpS x.s y.s:=⟨_,rfl⟩
 obtain⟨r,hr⟩:∃ r,r=(if c=0 then d else c):=⟨_,rfl⟩
 have HLT:Hid ((ltV x y∧decide (r<0)=true∧grE x y=y)∨(¬ltV x y∧decide (r<0)=false∧grE x y=x)):=by
  unfold Hid;rw[hr,hc,hd]
  rcases grE_or x y with ⟨h,e⟩ | ⟨h,e⟩
  ·exact .inl ⟨h,decide_eq_true (cmpV_lt h),e⟩
  ·exact .inr ⟨h,decide_eq_false (cmpV_not h),e⟩
 obtain⟨z,hz⟩:∃ z,grE x y=z:=⟨_,rfl⟩;rw[hz]at HLT ⊢;obtain⟨xa,xn,xs,xv⟩:=x;obtain⟨ya,yn,ys,yv⟩:=y;dsimp only at hc hd
 have H1:∀ W,Hid (Calls Tryz.prog 166 #[.int .i64 xv,.int .i64 yv] W fun e w'=>e = .returned (.int .i64 c)∧w'=W):=fun W=>by rw[hc];exact (Dt.cmp_int64 xv yv W).mono fun _ _ h=>⟨h.1,h.2.symm⟩
 have H2:∀ W,Hid (Calls Tryz.prog 102 #[.string xs,.string ys] W fun e w'=>e = .returned (.int .i64 d)∧w'=W):=fun W=>by rw[hd];exact compare_str xs ys W
 have HC:=Lib.hid hr;clear hc hd hr hz;dsimp only[entV];go_enter Tryz.func182,Tryz.ntmps182;go_wp2_with fail;have hb:=Lib.hid (box3_below w #[.int .i64 xa,.int .i64 xn,.string xs,.int .i64 xv] #[.int .i64 ya,.int .i64 yn,.string ys,.int .i64 yv] #[.int .i64 0,.int .i64 0,.string ⟨#[]⟩,.int .i64 0] 97 97 97);obtain⟨p,hp⟩:∃ p,p=w.heap.size:=⟨_,rfl⟩;obtain⟨W,hW⟩:∃ W,W=((w.alloc (.cells #[.int .i64 xa,.int .i64 xn,.string xs,.int .i64 xv] 97)).alloc (.cells #[.int .i64 ya,.int .i64 yn,.string ys,.int .i64 yv] 97)).alloc (.cells #[.int .i64 0,.int .i64 0,.string ⟨#[]⟩,.int .i64 0] 97):=⟨_,rfl⟩
 have K:Kept [(⟨p,0,none⟩,.int .i64 xa),(⟨p,1,none⟩,.int .i64 xn),(⟨p,2,none⟩,.string xs),(⟨p,3,none⟩,.int .i64 xv),(⟨p+1,0,none⟩,.int .i64 ya),(⟨p+1,1,none⟩,.int .i64 yn),(⟨p+1,2,none⟩,.string ys),(⟨p+1,3,none⟩,.int .i64 yv)] w W:=by
  have h0:=Kept.nil_of hb.out;rw[← hW]at h0
  refine (((((((h0.cons_of ?_).cons_of ?_).cons_of ?_).cons_of ?_).cons_of ?_).cons_of ?_).cons_of ?_).cons_of ?_ <;> (rw[hW,hp];go_simp)
 have HF:Hid (Free (p+2) W):=by
  refine⟨?_,fun j=>?_⟩
  ·rw[hW,hp];simp
  ·rw[hW,hp];go_simp
 have j0:W.cell? ⟨p+2,0,none⟩=some (.int .i64 0):=by rw[hW,hp];go_simp
 have j1:W.cell? ⟨p+2,1,none⟩=some (.int .i64 0):=by rw[hW,hp];go_simp
 have j2:W.cell? ⟨p+2,2,none⟩=some (.string ⟨#[]⟩):=by rw[hW,hp];go_simp
 have j3:W.cell? ⟨p+2,3,none⟩=some (.int .i64 0):=by rw[hW,hp];go_simp
 rw[← hW]at hb ⊢;rw[← hp];have k2:=K.c2;have k3:=K.c3;have k6:=K.c6;have k7:=K.c7;have KJ:=Lib.hid ((((K.cons_of j3).cons_of j2).cons_of j1).cons_of j0);have HP:=Lib.hid hp;clear hW hp K j0 j1 j2 j3;refine wp_region_still_tail 10 (by kernel_rfl) (by kernel_rfl) ?_;simp only[List.take_succ_cons,List.take_zero,List.drop_succ_cons,List.drop_zero]
 still_step
 still_step
 still_step
 still_step
 still_call (H1 _).out
 still_step
 still_step
 still_step
 still_step
 still_call (H2 _).out
 refine wpStill_nil ?_
 change wpList _ _ _ _ _ W.drew
 have KJ2:=Lib.hid ((KJ.out.drew).alloc (.cells #[.int .i64 c,.int .i64 d] 3));have HF2:=Lib.hid ((HF.out.drew).alloc (.cells #[.int .i64 c,.int .i64 d] 3));clear H1 H2 k2 k3 k6 k7 hb KJ HF
 generalize W.drew=W2 at *
 rcases HLT.out with ⟨_,hlt,rfl⟩ | ⟨_,hlt,rfl⟩
 ·have z0:=KJ2.out.c0
  have z1:=KJ2.out.c1;have z2:=KJ2.out.c2;have z3:=KJ2.out.c3;have m0:=HF2.out.2 0;have m1:=HF2.out.2 1;have m2:=HF2.out.2 2;have m3:=HF2.out.2 3;have y0:=KJ2.out.t8.c0;have y1:=KJ2.out.t8.c1;have y2:=KJ2.out.t8.c2;have y3:=KJ2.out.t8.c3;obtain⟨W9,hW9⟩:∃ W,W=((((W2.alloc (.cells #[.int .i64 c,.int .i64 d] 3)).setCell ⟨p+2,0,none⟩ (.int .i64 ya)).setCell ⟨p+2,1,none⟩ (.int .i64 yn)).setCell ⟨p+2,2,none⟩ (.string ys)).setCell ⟨p+2,3,none⟩ (.int .i64 yv):=⟨_,rfl⟩
  have hpw:w.heap.size≤p+2:=by have:=HP.out;omega
  have HB9:Hid (Below w.heap.size w W9):=by
   unfold Hid;rw[hW9];exact (((KJ2.out.below.setCell (p:=⟨p+2,0,none⟩) hpw _).setCell (p:=⟨p+2,1,none⟩) hpw _).setCell (p:=⟨p+2,2,none⟩) hpw _).setCell (p:=⟨p+2,3,none⟩) hpw _
  have l0:W9.cell? ⟨p+2,0,none⟩=some (.int .i64 ya):=by rw[hW9];go_simp
  have l1:W9.cell? ⟨p+2,1,none⟩=some (.int .i64 yn):=by rw[hW9];go_simp
  have l2:W9.cell? ⟨p+2,2,none⟩=some (.string ys):=by rw[hW9];go_simp
  have l3:W9.cell? ⟨p+2,3,none⟩=some (.int .i64 yv):=by rw[hW9];go_simp
  have HW9:=Lib.hid hW9;clear hW9;go_wp2_with (go_at_call 164;refine (Dt.or_two W2.heap.size c d _ (by go_simp) (by go_simp)).mono ?_;rw[← HC.out];rintro e w3 ⟨rfl,rfl⟩);rw[← HW9.out];refine bodyPost_ret (v:=.agg #[.int .i64 ya,.int .i64 yn,.string ys,.int .i64 yv]) (by simp[results,Tryz.results182,go_sem,l0,l1,l2,l3]) rfl ⟨rfl,HB9.out⟩
 ·have z0:=KJ2.out.c0
  have z1:=KJ2.out.c1;have z2:=KJ2.out.c2;have z3:=KJ2.out.c3;have m0:=HF2.out.2 0;have m1:=HF2.out.2 1;have m2:=HF2.out.2 2;have m3:=HF2.out.2 3;have y0:=KJ2.out.tail.tail.tail.tail.c0;have y1:=KJ2.out.tail.tail.tail.tail.c1;have y2:=KJ2.out.tail.tail.tail.tail.c2;have y3:=KJ2.out.tail.tail.tail.tail.c3;obtain⟨W9,hW9⟩:∃ W,W=((((W2.alloc (.cells #[.int .i64 c,.int .i64 d] 3)).setCell ⟨p+2,0,none⟩ (.int .i64 xa)).setCell ⟨p+2,1,none⟩ (.int .i64 xn)).setCell ⟨p+2,2,none⟩ (.string xs)).setCell ⟨p+2,3,none⟩ (.int .i64 xv):=⟨_,rfl⟩
  have hpw:w.heap.size≤p+2:=by have:=HP.out;omega
  have HB9:Hid (Below w.heap.size w W9):=by
   unfold Hid;rw[hW9];exact (((KJ2.out.below.setCell (p:=⟨p+2,0,none⟩) hpw _).setCell (p:=⟨p+2,1,none⟩) hpw _).setCell (p:=⟨p+2,2,none⟩) hpw _).setCell (p:=⟨p+2,3,none⟩) hpw _
  have l0:W9.cell? ⟨p+2,0,none⟩=some (.int .i64 xa):=by rw[hW9];go_simp
  have l1:W9.cell? ⟨p+2,1,none⟩=some (.int .i64 xn):=by rw[hW9];go_simp
  have l2:W9.cell? ⟨p+2,2,none⟩=some (.string xs):=by rw[hW9];go_simp
  have l3:W9.cell? ⟨p+2,3,none⟩=some (.int .i64 xv):=by rw[hW9];go_simp
  have HW9:=Lib.hid hW9;clear hW9;go_wp2_with (go_at_call 164;refine (Dt.or_two W2.heap.size c d _ (by go_simp) (by go_simp)).mono ?_;rw[← HC.out];rintro e w3 ⟨rfl,rfl⟩);rw[← HW9.out];refine bodyPost_ret (v:=.agg #[.int .i64 xa,.int .i64 xn,.string xs,.int .i64 xv]) (by simp[results,Tryz.results182,go_sem,l0,l1,l2,l3]) rfl ⟨rfl,HB9.out⟩
theorem byDot_any (x y:E) (w:World):Calls Tryz.prog 178 #[entV x,entV y] w fun e w'=>e = .returned (.int .i64 (Dt.cmpI x.a x.n y.a y.n))∧Below w.heap.size w w':=by
 obtain⟨xa,xn,xs,xv⟩:=x;obtain⟨ya,yn,ys,yv⟩:=y;dsimp only[entV];have hb:=Lib.hid (Dt.box2_below w #[.int .i64 xa,.int .i64 xn,.string xs,.int .i64 xv] #[.int .i64 ya,.int .i64 yn,.string ys,.int .i64 yv] 97 97);go_enter Tryz.func178,Tryz.ntmps178;go_wp2_with (go_at_call 134;refine (Dt.compare_any _ _ _ _ _).mono ?_;rintro e w' ⟨rfl,hb2⟩;have HB2:=Lib.hid hb2;clear hb2);go_ret;exact⟨rfl,hb.out.trans (HB2.out.mono hb.out.size)⟩
theorem byKey_any (x y:ByteArray) (A B:Option Addr) (n m c d:Nat) (A2 B2:Option Addr) (n2 m2 c2 d2:Nat) (w:World):Calls Tryz.prog 183 #[.agg #[.string x,.slice A n c,.slice B m d],.agg #[.string y,.slice A2 n2 c2,.slice B2 m2 d2]] w fun e w'=>e = .returned (.int .i64 (cmpS x y))∧Below w.heap.size w w':=by
 have hb:=Lib.hid (Dt.box2_below w #[.string x,.slice A n c,.slice B m d] #[.string y,.slice A2 n2 c2,.slice B2 m2 d2] 134 134);go_enter Tryz.func183,Tryz.ntmps183;go_wp2_with (go_at_call 102;refine (compare_str _ _ _).mono ?_;rintro e w' ⟨rfl,rfl⟩);go_ret;exact⟨rfl,hb.out⟩
end Cs
end Go.Proofs.YtgeafpaognhokaaGreat
namespace Go.Proofs.YtgeafpaognhokaaGreat
open Go.ChangeShapes Go.WideShapes Go.ChangeAt Go.RowKit
namespace Tr
open Rw Sp
structure RO (w:World) (ok:Nat→Prop) (sz:Nat) (A:Option Addr) (n c:Nat) (xs:List Value):Prop where
 len:xs.length=n*sz
 cap:n≤c
 one:∀ u∈xs,u.oneCell'=true
 at_:0<n→∃ b o,A=some ⟨b,o,none⟩∧ok b∧b<w.heap.size∧(∀ j,w.frozen? ⟨b,j,none⟩=false)∧∀ j u,xs[j]?=some u→w.cell? ⟨b,o+j,none⟩=some u
namespace RO
variable {w w':World} {ok ok':Nat→Prop} {sz n c:Nat} {A:Option Addr} {xs:List Value}
theorem nil (w:World) (ok:Nat→Prop) (sz:Nat) (A:Option Addr) (c:Nat):RO w ok sz A 0 c []:=⟨by simp,Nat.zero_le _,by simp,fun h=>absurd h (by omega)⟩
theorem rd (h:RO w ok sz A n c xs):Rd w w.heap.size sz A n c xs:=⟨h.len,h.cap,h.one,fun hn=>by obtain⟨b,o,e,_,hb,_,hc⟩:=h.at_ hn;exact⟨b,o,e,hb,hc⟩⟩
theorem mono (h:RO w ok sz A n c xs) (ho:∀ b,ok b→b<w.heap.size→ok' b):RO w ok' sz A n c xs:=
 ⟨h.len,h.cap,h.one,fun hn=>by obtain⟨b,o,e,h1,hb,h2,hc⟩:=h.at_ hn;exact⟨b,o,e,ho b h1 hb,hb,h2,hc⟩⟩
theorem keep (h:RO w ok sz A n c xs) (hs:w.heap.size≤w'.heap.size) (hk:∀ b,ok b→b<w.heap.size→w'.heap[b]?=w.heap[b]?):RO w' ok sz A n c xs:=
 ⟨h.len,h.cap,h.one,fun hn=>by
  obtain⟨b,o,e,h1,hb,h2,hc⟩:=h.at_ hn
  exact⟨b,o,e,h1,Nat.lt_of_lt_of_le hb hs,fun j=>(World.frozen?_of_block (a:=⟨b,j,none⟩) (hk b h1 hb)).trans (h2 j),fun j u hu=>(World.cell?_of_block (a:=⟨b,o+j,none⟩) (hk b h1 hb)).trans (hc j u hu)⟩⟩
theorem of_own {base e:Nat} (h:Own w base e sz A n c xs):RO w (fun b=>base≤b∧(Value.slice A n c).ownBlock=some b) sz A n c xs:=
 ⟨h.rd.len,h.rd.cap,h.one,fun hn=>by
  obtain⟨g,rfl,h1,h2,h3,h4⟩:=Sp.Own.place h hn
  exact⟨g,0,rfl,⟨h1,by simp[Value.ownBlock]⟩,h2,h3,fun j u hu=>by rw[Nat.zero_add];exact h4 j u hu⟩⟩
end RO
def RdO (w:World) (ok:Nat→Prop):T→SV→SV→Prop
 | .mk es ks,se,sk=>es.length=se.n∧RO w ok 4 se.A se.n se.c (entsC es)∧ks.length=sk.n∧∃ xs:List Value,RO w ok 3 sk.A sk.n sk.c xs ∧
   ∀ (i:Nat) (h:i<ks.length),∃ se' sk':SV,xs[i*3]?=some (.string (ks[i]).1)∧xs[i*3+1]?=some (.slice se'.A se'.n se'.c)∧xs[i*3+2]?=some (.slice sk'.A sk'.n sk'.c)∧RdO w ok (ks[i]).2 se' sk'
termination_by t=>SizeOf.sizeOf t
decreasing_by exact at_lt h es
theorem rdO_mk (w:World) (ok:Nat→Prop) (es:List E) (ks:List (ByteArray×T)) (se sk:SV):RdO w ok (.mk es ks) se sk↔(es.length=se.n∧RO w ok 4 se.A se.n se.c (entsC es)∧ks.length=sk.n∧∃ xs:List Value,RO w ok 3 sk.A sk.n sk.c xs ∧
   ∀ (i:Nat) (h:i<ks.length),∃ se' sk':SV,xs[i*3]?=some (.string (ks[i]).1)∧xs[i*3+1]?=some (.slice se'.A se'.n se'.c)∧xs[i*3+2]?=some (.slice sk'.A sk'.n sk'.c)∧RdO w ok (ks[i]).2 se' sk'):=by
 rw[RdO]
theorem RdO.rd {w:World} {ok:Nat→Prop} : ∀ (t:T) {se sk:SV},RdO w ok t se sk→RdT w w.heap.size t se sk:=by
 intro t
 induction t using T.ind with
 | h es ks ih=>
  intro se sk h;rw[rdO_mk]at h;rw[rdT_mk];obtain⟨h1,h2,h3,xs,h4,h5⟩:=h;refine⟨h1,h2.rd,h3,xs,h4.rd,fun i hi=>?_⟩;obtain⟨se',sk',e1,e2,e3,e4⟩:=h5 i hi;exact⟨se',sk',e1,e2,e3,ih _ (List.getElem_mem hi) e4⟩
theorem RdO.mono {w:World} {ok ok':Nat→Prop} (ho:∀ b,ok b→b<w.heap.size→ok' b):∀ (t:T) {se sk:SV},RdO w ok t se sk→RdO w ok' t se sk:=by
 intro t
 induction t using T.ind with
 | h es ks ih=>
  intro se sk h;rw[rdO_mk]at h ⊢;obtain⟨h1,h2,h3,xs,h4,h5⟩:=h;refine⟨h1,h2.mono ho,h3,xs,h4.mono ho,fun i hi=>?_⟩;obtain⟨se',sk',e1,e2,e3,e4⟩:=h5 i hi;exact⟨se',sk',e1,e2,e3,ih _ (List.getElem_mem hi) e4⟩
theorem RdO.keep {w w':World} {ok:Nat→Prop} (hs:w.heap.size≤w'.heap.size) (hk:∀ b,ok b→b<w.heap.size→w'.heap[b]?=w.heap[b]?):∀ (t:T) {se sk:SV},RdO w ok t se sk→RdO w' ok t se sk:=by
 intro t
 induction t using T.ind with
 | h es ks ih=>
  intro se sk h;rw[rdO_mk]at h ⊢;obtain⟨h1,h2,h3,xs,h4,h5⟩:=h;refine⟨h1,h2.keep hs hk,h3,xs,h4.keep hs hk,fun i hi=>?_⟩;obtain⟨se',sk',e1,e2,e3,e4⟩:=h5 i hi;exact⟨se',sk',e1,e2,e3,ih _ (List.getElem_mem hi) e4⟩
theorem RdO.later {w w':World} {ok:Nat→Prop} {t:T} {se sk:SV} (h:RdO w ok t se sk) (hb:Below w.heap.size w w'):RdO w' ok t se sk:=RdO.keep hb.size (fun b _ hlt=>hb.block b hlt) t h
theorem RdO.none (w:World) (ok:Nat→Prop) (A A':Option Addr) (c c':Nat):RdO w ok none_ ⟨A,0,c⟩ ⟨A',0,c'⟩:=by
 unfold none_;rw[rdO_mk];exact⟨rfl,RO.nil _ _ _ _ _,rfl,[],RO.nil _ _ _ _ _,fun i hi=>by simp at hi⟩
def kidC (k:ByteArray×SV×SV):List Value:=[.string k.1,.slice k.2.1.A k.2.1.n k.2.1.c,.slice k.2.2.A k.2.2.n k.2.2.c]
theorem kidC_len (k:ByteArray×SV×SV):(kidC k).length=3:=rfl
theorem kidC_one (k:ByteArray×SV×SV):∀ u∈kidC k,u.oneCell'=true:=by
 intro u hu;simp[kidC]at hu
 rcases hu with rfl | rfl | rfl <;> rfl
structure KidRow (w:World) (base e:Nat) (A:Option Addr) (n c:Nat) (ks:List (ByteArray×T)) (kr:List (ByteArray×SV×SV)):Prop where
 len:ks.length=n
 lenr:kr.length=n
 own:Own w base e 3 A n c (kr.flatMap kidC)
 kid:∀ (i:Nat) (h:i<ks.length) (h':i<kr.length),kr[i].1=ks[i].1∧RdO w (fun b=>base≤b∧(Value.slice A n c).ownBlock≠some b) ks[i].2 kr[i].2.1 kr[i].2.2
namespace KidRow
variable {w w':World} {base e n c:Nat} {A:Option Addr} {ks:List (ByteArray×T)} {kr:List (ByteArray×SV×SV)}
theorem nil (w:World) (base e:Nat):KidRow w base e none 0 0 [] []:=⟨rfl,rfl,⟨World.ownsRow_nil _ _ _ _,by simp⟩,fun i h=>by simp at h⟩
theorem later (h:KidRow w base e A n c ks kr) (hb:Below w.heap.size w w'):KidRow w' base e A n c ks kr:=
 ⟨h.len,h.lenr,own_later h.own hb,fun i hi hi'=>⟨(h.kid i hi hi').1,(h.kid i hi hi').2.later hb⟩⟩
theorem tree (h:KidRow w base e A n c ks kr) {ok:Nat→Prop} (hok:∀ b,base≤b→b<w.heap.size→ok b) {es:List E} {se:SV} (hes:es.length=se.n) (hse:RO w ok 4 se.A se.n se.c (entsC es)):RdO w ok (.mk es ks) se ⟨A,n,c⟩:=by
 rw[rdO_mk];refine⟨hes,hse,h.len,kr.flatMap kidC,(RO.of_own h.own).mono fun b hb hlt=>hok b hb.1 hlt,fun i hi=>?_⟩
 have hi':i<kr.length:=by have h1:=h.len;have h2:=h.lenr;omega
 obtain⟨e1,e2⟩:=h.kid i hi hi';have f0:=flat_at kidC_len kr i 0 hi' (by omega);have f1:=flat_at kidC_len kr i 1 hi' (by omega);have f2:=flat_at kidC_len kr i 2 hi' (by omega);refine⟨kr[i].2.1,kr[i].2.2,?_,f1,f2,RdO.mono (fun b hb hlt=>hok b hb.1 hlt) _ e2⟩;rw[← e1];exact f0
theorem push {t by_:Nat} {z:Value} (ht:Tryz.prog.underlying t=some (.slice e)) (hi:(Tryz.prog.info? e).map (fun i=>(i.zero,i.size,i.bytes))=some (some z,3,by_)) (hzs:z.cells.size=3) (hby:by_≤1000000)
  (h:KidRow w base e A n c ks kr) (p:Nat) (hp:w.heap.size=p) (hb:base≤w.heap.size) {k:ByteArray×SV×SV} {u:T} (hu:RdO w (fun b=>base≤b∧(Value.slice A n c).ownBlock≠some b) u k.2.1 k.2.2) (hn:n≤900000) (cs:Array Value) (hcs:cs=(kidC k).toArray) :
  ∃ A' c' w',(Builtin.append_ #[t,t] t #[.slice A n c,.slice (some ⟨p,0,none⟩) 1 1]).run Tryz.prog (w.alloc (.cells cs e)) = .ok (.slice A' (n+1) c') w' ∧
   KidRow w' base e A' (n+1) c' (ks++[(k.1,u)]) (kr++[k])∧Below base w w'∧∀ b,(Value.slice A n c).ownBlock≠some b→b<w.heap.size→w'.heap[b]?=w.heap[b]?:=by
 subst hp;subst hcs;obtain⟨i0,hi0,hz0,hz1,hz2⟩:=info_of hi;have hown:=h.own.row
 obtain⟨v',w',r1,r2,r3,r4⟩:=run_app (P:=Tryz.prog) (w.alloc (.cells (kidC k).toArray e)) base t t e i0 z 3 by_ ht hi0 hz0 hz1 hz2 hzs (by omega)
  (hown.alloc _) (B:=w.heap.size+1) (A:=some ⟨w.heap.size,0,none⟩) (m:=1) (c:=1) (news:=kidC k)
  ⟨rfl,by omega,kidC_one k,fun _=>⟨_,_,rfl,by omega,fun j u hu=>by
   rw[Nat.zero_add,cell_of_row _ _ j _ _ (0,0) (heap_alloc_new _ _)]
   simpa using hu⟩⟩ (by omega) hby (by simp;omega)
 obtain⟨A',c',rfl,ho⟩:=Own.of_row r2 (fun u hu=>by
  rcases List.mem_append.1 hu with hu | hu
  ·exact h.own.one u hu
  ·exact kidC_one k u hu)
 have hbel:Below base w w':=((Below.refl base w).alloc hb _).grown r3 (by simp;omega) (fun k hk=>(hown.lt k hk).1)
 have hsize:w.heap.size≤w'.heap.size:=by have:=r3.size;simp at this;omega
 have hnew:∀ b,(base≤b∧(Value.slice A n c).ownBlock≠some b)→b<w.heap.size→base≤b∧(Value.slice A' (n+1) c').ownBlock≠some b:=fun b hb hlt=>⟨hb.1,fun he=>by
  rcases r4 with r4 | r4
  ·exact hb.2 (r4.symm.trans he)
  ·have:some b=some (w.alloc (.cells (kidC k).toArray e)).heap.size:=he.symm.trans r4
   injection this with this
   simp at this
   omega⟩
 have hto:∀ {t:T} {se sk:SV},RdO w (fun b=>base≤b∧(Value.slice A n c).ownBlock≠some b) t se sk→RdO w' (fun b=>base≤b∧(Value.slice A' (n+1) c').ownBlock≠some b) t se sk:=fun {t se sk} ht=>
  RdO.keep hsize (fun b hb hlt=>(r3.block b (by simp;omega) (fun e=>hb.2.2 e.symm)).trans (heap_alloc_old w _ hlt)) t (RdO.mono (ok':=fun b=>(base≤b∧(Value.slice A' (n+1) c').ownBlock≠some b)∧(base≤b∧(Value.slice A n c).ownBlock≠some b)) (fun b hb hlt=>⟨hnew b hb hlt,hb⟩) t ht) |> RdO.mono (fun b hb _=>hb.1) t
 refine⟨A',c',w',r1,⟨by simp[h.len],by simp[h.lenr],?_,fun i hi hi'=>?_⟩,hbel,fun b hb hlt=>(r3.block b (by simp;omega) (fun e=>hb e.symm)).trans (heap_alloc_old w _ hlt)⟩
 ·have e1:(kr++[k]).flatMap kidC=kr.flatMap kidC++kidC k:=by simp
  rw[e1];exact ho
 ·by_cases hlt:i<n
  ·have h1:i<ks.length:=by rw[h.len];exact hlt
   have h2:i<kr.length:=by rw[h.lenr];exact hlt
   rw[List.getElem_append_left h1,List.getElem_append_left h2];exact⟨(h.kid i h1 h2).1,hto (h.kid i h1 h2).2⟩
  ·have e0:i=n:=by simp[h.len]at hi;omega
   have e1:(ks++[(k.1,u)])[i]=(k.1,u):=by rw[List.getElem_append_right (by rw[h.len];omega)];simp
   have e2:(kr++[k])[i]=k:=by rw[List.getElem_append_right (by rw[h.lenr];omega)];simp
   rw[e1,e2];exact⟨rfl,hto hu⟩
end KidRow
end Tr
end Go.Proofs.YtgeafpaognhokaaGreat
namespace Go.Proofs.YtgeafpaognhokaaGreat
open Go.Shelf
namespace Tr
def sortS_lay_ren:Go.Shelf.Ren:=⟨fun | 54=>149 | 64=>176 | 65=>175 | 78=>211 | 79=>212 | 80=>203 | 81=>204 | 82=>205 | 83=>206 | 84=>207 | 85=>208 | 61=>200 | 86=>209 | 87=>210 | 93=>221 | 89=>222 | 90=>223 | 94=>224 | 95=>225 | 69=>220 | 97=>235 | n=>n,fun | 25=>25 | 26=>9 | 3=>3 | 51=>163 | 0=>0 | 67=>232 | 69=>234 | 4=>4 | 61=>226 | 60=>225 | 44=>131 | 5=>5 | 9=>9 | 75=>243 | 79=>247 | 83=>255 | 84=>256 | n=>n,fun | n=>n⟩
theorem sortS_lay:Go.Proofs.SlLaysN.n54 Tryz.prog sortS_lay_ren:={
 mixed:=by kernel_rfl
 f54:=⟨Tryz.f149.name,by decide,Tryz.func149.trans (congrArg some (by kernel_rfl))⟩
 f61:=⟨Tryz.f200.name,by decide,Tryz.func200.trans (congrArg some (by kernel_rfl))⟩
 f64:=Tryz.func176.trans (congrArg some (by kernel_rfl))
 f65:=⟨Tryz.f175.name,by decide,Tryz.func175.trans (congrArg some (by kernel_rfl))⟩
 f69:=⟨Tryz.f220.name,by decide,Tryz.func220.trans (congrArg some (by kernel_rfl))⟩
 f78:=Tryz.func211.trans (congrArg some (by kernel_rfl))
 f79:=Tryz.func212.trans (congrArg some (by kernel_rfl))
 f80:=⟨Tryz.f203.name,by decide,Tryz.func203.trans (congrArg some (by kernel_rfl))⟩
 f81:=⟨Tryz.f204.name,by decide,Tryz.func204.trans (congrArg some (by kernel_rfl))⟩
 f82:=⟨Tryz.f205.name,by decide,Tryz.func205.trans (congrArg some (by kernel_rfl))⟩
 f83:=⟨Tryz.f206.name,by decide,Tryz.func206.trans (congrArg some (by kernel_rfl))⟩
 f84:=⟨Tryz.f207.name,by decide,Tryz.func207.trans (congrArg some (by kernel_rfl))⟩
 f85:=⟨Tryz.f208.name,by decide,Tryz.func208.trans (congrArg some (by kernel_rfl))⟩
 f86:=⟨Tryz.f209.name,by decide,Tryz.func209.trans (congrArg some (by kernel_rfl))⟩
 f87:=⟨Tryz.f210.name,by decide,Tryz.func210.trans (congrArg some (by kernel_rfl))⟩
 f89:=Tryz.func222.trans (congrArg some (by kernel_rfl))
 f90:=Tryz.func223.trans (congrArg some (by kernel_rfl))
 f93:=⟨Tryz.f221.name,by decide,Tryz.func221.trans (congrArg some (by kernel_rfl))⟩
 f94:=⟨Tryz.f224.name,by decide,Tryz.func224.trans (congrArg some (by kernel_rfl))⟩
 f95:=⟨Tryz.f225.name,by decide,Tryz.func225.trans (congrArg some (by kernel_rfl))⟩
 f97:=⟨Tryz.f235.name,by decide,Tryz.func235.trans (congrArg some (by kernel_rfl))⟩
 t0:=Tryz.underlying0
 a0:=Tryz.isAgg0
 z0:=Tryz.sizeOf0
 v0:=Tryz.zeroValue0
 t3:=Tryz.underlying3
 a3:=Tryz.isAgg3
 z3:=Tryz.sizeOf3
 v3:=Tryz.zeroValue3
 t4:=Tryz.underlying4
 a4:=Tryz.isAgg4
 z4:=Tryz.sizeOf4
 v4:=Tryz.zeroValue4
 t5:=Tryz.underlying5
 a5:=Tryz.isAgg5
 z5:=Tryz.sizeOf5
 v5:=Tryz.zeroValue5
 t9:=Tryz.underlying9
 a9:=Tryz.isAgg9
 z9:=Tryz.sizeOf9
 v9:=Tryz.zeroValue9
 t25:=Tryz.underlying25
 a25:=Tryz.isAgg25
 z25:=Tryz.sizeOf25
 v25:=Tryz.zeroValue25
 t26:=Tryz.underlying9
 a26:=Tryz.isAgg9
 z26:=Tryz.sizeOf9
 v26:=Tryz.zeroValue9
 t44:=Tryz.underlying131
 a44:=Tryz.isAgg131
 z44:=Tryz.sizeOf131
 v44:=Tryz.zeroValue131
 t51:=Tryz.underlying163
 a51:=Tryz.isAgg163
 z51:=Tryz.sizeOf163
 v51:=Tryz.zeroValue163
 t60:=Tryz.underlying225
 a60:=Tryz.isAgg225
 z60:=Tryz.sizeOf225
 v60:=Tryz.zeroValue225
 t61:=Tryz.underlying226
 a61:=Tryz.isAgg226
 z61:=Tryz.sizeOf226
 v61:=Tryz.zeroValue226
 t67:=Tryz.underlying232
 a67:=Tryz.isAgg232
 z67:=Tryz.sizeOf232
 v67:=Tryz.zeroValue232
 t69:=Tryz.underlying234
 a69:=Tryz.isAgg234
 z69:=Tryz.sizeOf234
 v69:=Tryz.zeroValue234
 t75:=Tryz.underlying243
 a75:=Tryz.isAgg243
 z75:=Tryz.sizeOf243
 v75:=Tryz.zeroValue243
 t79:=Tryz.underlying247
 a79:=Tryz.isAgg247
 z79:=Tryz.sizeOf247
 v79:=Tryz.zeroValue247
 t83:=Tryz.underlying255
 a83:=Tryz.isAgg255
 z83:=Tryz.sizeOf255
 v83:=Tryz.zeroValue255
 t84:=Tryz.underlying256
 a84:=Tryz.isAgg256
 z84:=Tryz.sizeOf256
 v84:=Tryz.zeroValue256 }
end Tr
end Go.Proofs.YtgeafpaognhokaaGreat
namespace Go.Proofs.YtgeafpaognhokaaGreat
open Go.ChangeShapes Go.WideShapes Go.ChangeAt Go.RowKit
namespace Tr
open Rw Sp
namespace KidRow
variable {w w':World} {base e n c:Nat} {A:Option Addr} {ks:List (ByteArray×T)} {kr:List (ByteArray×SV×SV)}
theorem push2 {t by_:Nat} {z:Value} (ht:Tryz.prog.underlying t=some (.slice e)) (hi:(Tryz.prog.info? e).map (fun i=>(i.zero,i.size,i.bytes))=some (some z,3,by_)) (hzs:z.cells.size=3) (hby:by_≤1000000)
  (h:KidRow w base e A n c ks kr) (p:Nat) (hp:w.heap.size=p) (hb:base≤w.heap.size) {k:ByteArray×SV×SV} {u:T} (hu:RdO w (fun b=>base≤b∧(Value.slice A n c).ownBlock≠some b) u k.2.1 k.2.2) (hn:n≤900000) (cs:Array Value) (hcs:cs=(kidC k).toArray) :
  ∃ A' c' w',(Builtin.append_ #[t,t] t #[.slice A n c,.slice (some ⟨p,0,none⟩) 1 1]).run Tryz.prog (w.alloc (.cells cs e)) = .ok (.slice A' (n+1) c') w' ∧
   KidRow w' base e A' (n+1) c' (ks++[(k.1,u)]) (kr++[k])∧Below base w w'∧∀ b,(Value.slice A n c).ownBlock≠some b→b<w.heap.size→(w'.heap[b]?=w.heap[b]?∧(Value.slice A' (n+1) c').ownBlock≠some b):=by
 subst hp;subst hcs;obtain⟨i0,hi0,hz0,hz1,hz2⟩:=info_of hi;have hown:=h.own.row
 obtain⟨v',w',r1,r2,r3,r4⟩:=run_app (P:=Tryz.prog) (w.alloc (.cells (kidC k).toArray e)) base t t e i0 z 3 by_ ht hi0 hz0 hz1 hz2 hzs (by omega)
  (hown.alloc _) (B:=w.heap.size+1) (A:=some ⟨w.heap.size,0,none⟩) (m:=1) (c:=1) (news:=kidC k)
  ⟨rfl,by omega,kidC_one k,fun _=>⟨_,_,rfl,by omega,fun j u hu=>by
   rw[Nat.zero_add,cell_of_row _ _ j _ _ (0,0) (heap_alloc_new _ _)]
   simpa using hu⟩⟩ (by omega) hby (by simp;omega)
 obtain⟨A',c',rfl,ho⟩:=Own.of_row r2 (fun u hu=>by
  rcases List.mem_append.1 hu with hu | hu
  ·exact h.own.one u hu
  ·exact kidC_one k u hu)
 have hbel:Below base w w':=((Below.refl base w).alloc hb _).grown r3 (by simp;omega) (fun k hk=>(hown.lt k hk).1)
 have hsize:w.heap.size≤w'.heap.size:=by have:=r3.size;simp at this;omega
 have hnew2:∀ b,(Value.slice A n c).ownBlock≠some b→b<w.heap.size→(Value.slice A' (n+1) c').ownBlock≠some b:=fun b hb hlt he=>by
  rcases r4 with r4 | r4
  ·exact hb (r4.symm.trans he)
  ·have:some b=some (w.alloc (.cells (kidC k).toArray e)).heap.size:=he.symm.trans r4
   injection this with this
   simp at this
   omega
 have hnew:∀ b,(base≤b∧(Value.slice A n c).ownBlock≠some b)→b<w.heap.size→base≤b∧(Value.slice A' (n+1) c').ownBlock≠some b:=fun b hb hlt=>⟨hb.1,fun he=>by
  rcases r4 with r4 | r4
  ·exact hb.2 (r4.symm.trans he)
  ·have:some b=some (w.alloc (.cells (kidC k).toArray e)).heap.size:=he.symm.trans r4
   injection this with this
   simp at this
   omega⟩
 have hto:∀ {t:T} {se sk:SV},RdO w (fun b=>base≤b∧(Value.slice A n c).ownBlock≠some b) t se sk→RdO w' (fun b=>base≤b∧(Value.slice A' (n+1) c').ownBlock≠some b) t se sk:=fun {t se sk} ht=>
  RdO.keep hsize (fun b hb hlt=>(r3.block b (by simp;omega) (fun e=>hb.2.2 e.symm)).trans (heap_alloc_old w _ hlt)) t (RdO.mono (ok':=fun b=>(base≤b∧(Value.slice A' (n+1) c').ownBlock≠some b)∧(base≤b∧(Value.slice A n c).ownBlock≠some b)) (fun b hb hlt=>⟨hnew b hb hlt,hb⟩) t ht) |> RdO.mono (fun b hb _=>hb.1) t
 refine⟨A',c',w',r1,⟨by simp[h.len],by simp[h.lenr],?_,fun i hi hi'=>?_⟩,hbel,fun b hb hlt=>⟨(r3.block b (by simp;omega) (fun e=>hb e.symm)).trans (heap_alloc_old w _ hlt),hnew2 b hb hlt⟩⟩
 ·have e1:(kr++[k]).flatMap kidC=kr.flatMap kidC++kidC k:=by simp
  rw[e1];exact ho
 ·by_cases hlt:i<n
  ·have h1:i<ks.length:=by rw[h.len];exact hlt
   have h2:i<kr.length:=by rw[h.lenr];exact hlt
   rw[List.getElem_append_left h1,List.getElem_append_left h2];exact⟨(h.kid i h1 h2).1,hto (h.kid i h1 h2).2⟩
  ·have e0:i=n:=by simp[h.len]at hi;omega
   have e1:(ks++[(k.1,u)])[i]=(k.1,u):=by rw[List.getElem_append_right (by rw[h.len];omega)];simp
   have e2:(kr++[k])[i]=k:=by rw[List.getElem_append_right (by rw[h.lenr];omega)];simp
   rw[e1,e2];exact⟨rfl,hto hu⟩
end KidRow
end Tr
end Go.Proofs.YtgeafpaognhokaaGreat
namespace Go.Proofs.YtgeafpaognhokaaGreat
open Go.ChangeShapes Go.WideShapes Go.ChangeAt Go.RowKit
namespace Tr
open Sp Rw
open Classical in
noncomputable def eqB {α:Type} (x y:α):Bool:=decide (x=y)
open Classical in
theorem eqB_yes {α:Type} {x y:α} (h:x=y):eqB x y=true:=decide_eq_true h
open Classical in
theorem eqB_no {α:Type} {x y:α} (h:¬x=y):eqB x y=false:=decide_eq_false h
open Classical in
theorem eqB_iff {α:Type} {x y:α} : eqB x y=true↔x=y:=decide_eq_true_iff
theorem bytes_ne {a b:ByteArray} (h:¬a=b):(a.toList==b.toList)=false:=by
 rw[beq_eq_false_iff_ne];exact fun h2=>h (bytes_ext h2)
def SameTo {α:Type} (l m:List α) (k:Nat):Prop:=∀ (i:Nat) (h:i<l.length) (h':i<m.length),i<k→l[i]=m[i]
theorem SameTo.zero {α:Type} (l m:List α):SameTo l m 0:=fun _ _ _ h=>absurd h (Nat.not_lt_zero _)
theorem SameTo.succ {α:Type} {l m:List α} {k:Nat} (h:SameTo l m k) (h1:∀ (a:k<l.length) (b:k<m.length),l[k]=m[k]):SameTo l m (k+1):=fun i hi hi' hlt=>by
 by_cases he:i=k
 ·subst he;exact h1 hi hi'
 ·exact h i hi hi' (by omega)
theorem SameTo.all {α:Type} {l m:List α} {k:Nat} (h:SameTo l m k) (hl:l.length=k) (hm:m.length=k):l=m:=List.ext_getElem (by omega) fun i h1 h2=>h i h1 h2 (by omega)
theorem not_same {α:Type} {l m:List α} {k:Nat} (h:k<l.length) (h':k<m.length) (hne:¬l[k]=m[k]):¬l=m:=fun e=>hne (by subst e;rfl)
end Tr
end Go.Proofs.YtgeafpaognhokaaGreat
namespace Go.Proofs.YtgeafpaognhokaaGreat
open Go.ChangeShapes Go.WideShapes Go.ChangeAt Go.RowKit Go.Joins
namespace Dt
set_option maxRecDepth 100000
theorem wf_i64 {n:Int} (h:(Lit.int .i64 n).wf=true) : -9223372036854775808≤n∧n≤9223372036854775807:=by
 have e1:IntKind.i64.min = -9223372036854775808:=by decide
 have e2:IntKind.i64.max=9223372036854775807:=by decide
 simp[Lit.wf,e1,e2]at h;exact h
def B64 (n:Int):Prop:=-9223372036854775808≤n∧n≤9223372036854775807
theorem dot_of_trod {H:Type} {enc:TypeId×Value→H} {W:World} {b0:Nat} {v:Value} {d:DataW H} {p:List MemPlace}
  (hv:Value.okWide Tryz.prog W .any b0 37 v) (h:DataW.Trod enc Tryz.prog W 0 (fun _=>true) true 37 v d p) :
  ∃ a n:Int,v = .agg #[.int .i64 a,.int .i64 n]∧B64 a∧B64 n:=by
 obtain⟨v0,v1,y0,y1,n,rfl,_,_,h0,h1⟩:=open_agg2 Tryz.underlying37 (by kernel_rfl) (by kernel_rfl) hv h;obtain⟨a,e0,_,w0⟩:=DataW.trod_int Tryz.underlying3 h0;obtain⟨b,e1,_,w1⟩:=DataW.trod_int Tryz.underlying2 h1;simp only[List.cons.injEq,and_true]at e0 e1;subst e0;subst e1;exact⟨a,b,rfl,wf_i64 w0,wf_i64 w1⟩
end Dt
end Go.Proofs.YtgeafpaognhokaaGreat
namespace Go.Proofs.YtgeafpaognhokaaGreat
namespace Rnd
theorem upon_round {l n:Nat} {P:Program} {o:Oper} {a:Act} {K K':Act→World→Prop} {Q:Exit→Act→World→Prop} (hK:∀ a w,K a w→K' a w) {r:Result Next} (h:Oper.upon P o a K Q r):Oper.uponIn (Fence.wide.inRound l) n P o a K' Q r:=by
 cases r with
 | ok x w'=>
  cases x <;> simp only[Oper.upon,Oper.uponIn]at h ⊢
  case value v=>exact hK _ _ h
  case skip=>exact hK _ _ h
  case defer d=>exact hK _ _ h
  case enter f args=>
   have h3:CallsIn (Fence.wide.inRound l) (n-1) P f args w' _:=CallsIn.inRound l (callsIn_wide.2 h);refine⟨fun h2=>(by cases h2),CallsIn.mono h3 fun e w'' he=>?_⟩
   cases e <;> first | exact hK _ _ he | exact he
  case row row args=>
   refine⟨fun h2=>(by cases h2),fun c cs _=>?_⟩;obtain⟨v,w2,h1,h2⟩:=h c cs;exact⟨v,w2,hK _ _ h1,stepsIn_wide.2 h2⟩
 | halt x w'=>cases x <;> simp only[Oper.upon,Oper.uponIn]at h ⊢ <;> exact h
theorem op_round {l n:Nat} {P:Program} {ops:Array Oper} {Q:Exit→Act→World→Prop} (hno:¬LetsOut Q) (hd:∀ (i:Nat) (o:Oper),ops[i]?=some o→∀ c,o.op ≠ .defer c) {i:Nat} {K K':Act→World→Prop} {a:Act} {w:World} (hK:∀ a w,K a w→K' a w) (h:wpOp P ops Q i K a w):wpOpIn (Fence.wide.inRound l) n P ops Q i K' a w:=by
 unfold wpOp at h;unfold wpOpIn
 cases ho:ops[i]? with
 | none=>rw[ho]at h;exact hK _ _ h
 | some o=>
  rw[ho]at h;simp only at h ⊢
  by_cases hw:Region.wanted o (yielded ops a.tmps)=true
  ·rw[if_pos hw]at h ⊢
   rcases h with h | h
   ·refine⟨fun _ _=>trivial,?_⟩
    have e:Oper.semAt (Fence.wide.inRound l).round a.eval o=execOp a.eval o:=Oper.semAt_eq _ _ _ (hd i o ho);rw[e];exact upon_round hK h
   ·exact absurd h.2 hno
  ·rw[if_neg hw]at h ⊢
   exact⟨fun _ _=>trivial,hK _ _ h⟩
theorem any_round {l n:Nat} {P:Program} {md:Region.Mode} {ops:Array Oper} {Q:Exit→Act→World→Prop} (hno:¬LetsOut Q) (hd:∀ (i:Nat) (o:Oper),ops[i]?=some o→∀ c,o.op ≠ .defer c) :
  ∀ (fuel:Nat) (listed:Array Bool) (a:Act) (w:World),wpAny P md ops Q fuel listed a w→wpAnyIn (Fence.wide.inRound l) n P md ops Q fuel listed a w
 | 0,_,_,_,h=>h
 | fuel+1,_,_,_,h=>⟨h.1,fun i hi=>op_round hno hd (fun a' w' h'=>any_round hno hd fuel _ a' w' h') (h.2 i hi)⟩
def plainOps (ops:Array Oper):Bool:=ops.toList.all fun o=>match o.op with | .defer _=>false | _=>true
theorem plain_of {ops:Array Oper} (h:plainOps ops=true) (i:Nat) (o:Oper) (ho:ops[i]?=some o) (c):o.op ≠ .defer c:=fun e=>by
 have h2:=List.all_eq_true.1 h o (List.mem_of_getElem? (by rw[Array.getElem?_toList];exact ho));rw[e]at h2
 cases h2
theorem held_round {l n:Nat} {P:Program} {ops:Array Oper} {Q:Exit→Act→World→Prop} {S:World→Prop} {id:Nat} {a:Act} {w:World} (hm:P.follows .mixedOrders=true) (hd:plainOps ops=true) (hno:¬LetsOut Q) (hS:S w.drew)
  (h:S w.drew→wpAnyH P .any ops Q S ops.size (Array.replicate ops.size false) a w.drew):(Code.region id ops true).wpIn (Fence.wide.inRound l) n P Q a w:=
 wpIn_region_any hm (any_round hno (plain_of hd) _ _ _ _ (wpAny_of_held _ _ _ _ (h hS)))
def still (Q:Exit→Act→World→Prop):Exit→Act→World→Prop
 | .panic _,_,_=>False
 | .outgrown,_,_=>False
 | .normal,a,w=>Q .normal a w
 | .ret,a,w=>Q .ret a w
 | .exit i,a,w=>Q (.exit i) a w
 | .goto i,a,w=>Q (.goto i) a w
theorem wp_still {P:Program} {c:Code} {Q:Exit→Act→World→Prop} {a:Act} {w:World} (h:c.wp P (still Q) a w):c.wp P Q a w:=
 wp_mono h fun e a w he=>by cases e <;> first | exact he | exact he.elim
end Rnd
end Go.Proofs.YtgeafpaognhokaaGreat
