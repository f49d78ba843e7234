/- Texts of the lower layers, and of layer 9, put together. -/
import Derived.Test.YtgeafpaognhokaaGreatRows
import Derived.WalkKit
import Derived.WalkSpells
import Derived.WalkLawsBesides
import Derived.Deep.AppendLies
import Derived.Deep.Draws
import Derived.Deep.RegionHeld3
import Derived.Deep.QuietTactic
import Derived.BigQuiet
import Derived.Maps.AppendAt
import Derived.Lib.Hide
import Derived.Lib.AppendZeros
import Derived.Deep.RegionHeld
import Derived.ProofKit
import Derived.OpenShut
import Derived.Deep.Slices
import Derived.StillTailTactics
import Derived.IntWalk
import Derived.Lib.AppendStr
import Derived.Lib.SlBytesRow
import Derived.Laws.BitsAllLaws
import Derived.Deep.RegionLaw
import Derived.Deep.DeepCutAuto
import Derived.Shelf.SlGeneric
import Derived.Shelf.SortG.Plain
import Derived.Shelf.SortG.SortNone
import Derived.Ground.SlgnProg
import Derived.Sort.OwnSortedInts
import Derived.Lib.SliceRun
import Derived.Lib.Strings
import Derived.Lib.Slices
import Derived.Lib.Walk
import Derived.Lib.Bytealg
import Derived.Lib.SmallJoins
import Derived.ChangeSame
import Derived.ChangeArms
namespace Go.Proofs.YtgeafpaognhokaaGreat
section
open Go.RowKit
/-- a fact that no tactic looks into -/
def ai (p:Prop):Prop:=p
theorem ai.o {p:Prop} (h:ai p):p:=h
theorem ah {p:Prop} (h:p):ai p:=h
theorem FL {p:Prop} (h:p:=by omega):ai p:=h
theorem bN {B:Nat} {w:World}:Below B w w:=Below.refl _ _
theorem bG {n:Nat}:n≤n:=Nat.le_refl _
abbrev av (w v:World):Prop:=Below w.heap.size w v
abbrev aL:=@World.block_lt_of_cell?
abbrev aJ:=@decide_eq_true
abbrev aM:=@decide_eq_false
abbrev Nu:=@Nat.le_refl
abbrev aN:=@Nat.le_trans
abbrev cO:=@Nat.lt_of_lt_of_le
abbrev dZ:=@List.take_succ_eq_append_getElem
abbrev bU:=@World.cell?_of_block
abbrev bP:=@List.length_append
abbrev cZ:=@Below.heap_setCell
abbrev bT:=@List.getElem_mem
abbrev eO:=@List.take_of_length_le
abbrev eG:=@decide_eq_true_iff
abbrev eX:=@List.mem_singleton
abbrev fq:=@List.pairwise_cons
abbrev fA:=@List.mem_cons_self
abbrev gY:=@List.mem_cons_of_mem
abbrev dH:=@List.mem_map
abbrev jE:=@List.length_eq_zero_iff
abbrev fO:=@List.mem_append
abbrev eP:=@List.length_map
abbrev iy:=@World.ownsRow_nil
abbrev gP:=@beq_eq_false_iff_ne
abbrev iN:=@IntKind.wrap_i64
abbrev oW:=@World.cell?_setCell_other
abbrev jH:=@of_decide_eq_true
abbrev jI:=@Bool.eq_iff_iff
abbrev nu:=@ByteArray.toList_eq
abbrev l7:=@List.length_take
abbrev tV:=@List.pairwise_iff_getElem
abbrev m_:=@Nat.lt_succ_self
abbrev lY:=@List.length_cons
abbrev oh:=@List.append_assoc
abbrev kR:=@List.append_nil
abbrev jJ:=@List.mem_cons
abbrev v_:=@List.getElem?_eq_getElem
abbrev mD:=@List.map_append
abbrev qz:=@List.getElem_of_mem
abbrev ol:=@List.mem_flatMap
abbrev yX:=@Classical.byContradiction
abbrev om:=@List.sum_cons
abbrev DZ:=@List.eq_nil_of_length_eq_zero
abbrev yE:=@List.mem_append_left
abbrev BL:=@List.getElem_append_left
abbrev qR:=@List.mem_filter
abbrev tX:=@List.flatMap_cons
abbrev oZ:=@Nat.le_of_lt
abbrev yY:=@World.frozen?_setCell
abbrev BM:=@List.getElem_append_right
abbrev yF:=@of_decide_eq_false
abbrev Ea:=@decide_eq_false_iff_not
abbrev Eb:=@World.frozen?_of_block
abbrev Ec:=@List.mem_append_right
abbrev rU:=@Nat.lt_or_ge
abbrev yZ:=@decide_eq_true_eq
abbrev IC:=@Array.getElem?_eq_some_iff
abbrev IE:=@Int.tmod_eq_emod_of_nonneg
structure Rd (w:World) (B sz:Nat) (A:Option Addr) (n c:Nat) (xs:List Value):Prop where
 len:xs.length=n*sz
 cap:n≤c
 one:∀ u∈xs,u.oneCell'=true
 at_:0<n→∃ b o,A=some ⟨b,o,none⟩∧b<B∧∀ j u,xs[j]?=some u→w.cell? ⟨b,o+j,none⟩=some u

section
variable {w w':World} {B B' sz n c:Nat} {A:Option Addr} {xs:List Value}
theorem Rd.nil (c:Nat):Rd w B sz A 0 c []:=⟨by simp,Nat.zero_le _,by simp,fun h=>absurd h (by omega)⟩
theorem Rd.keep (h:Rd w B sz A n c xs) (f:∀ p:Addr,p.block<B→w'.cell? p=w.cell? p):Rd w' B sz A n c xs:=
 ⟨h.len,h.cap,h.one,fun g=>by
  obtain⟨b,o,e,a,d⟩:=h.at_ g
  exact⟨b,o,e,a,fun j u hu=>(f ⟨b,o+j,none⟩ a).trans (d j u hu)⟩⟩
theorem Rd.more (h:Rd w B sz A n c xs) (hB:B≤B'):Rd w B' sz A n c xs:=
 ⟨h.len,h.cap,h.one,fun d=>by
  obtain⟨b,o,e,hb,a⟩:=h.at_ d
  exact⟨b,o,e,by omega,a⟩⟩
theorem Rd.below (h:Rd w B sz A n c xs) (a:Below B w w'):Rd w' B sz A n c xs:=h.keep fun _ b=>a.cell b
theorem Rd.later (h:Rd w w.heap.size sz A n c xs) (a:Below w.heap.size w w'):Rd w' w'.heap.size sz A n c xs:=(h.below a).more a.size
theorem Rd.drewN (h:Rd w B sz A n c xs) (k:Nat):Rd (w.drewN k) B sz A n c xs:=h.keep fun _ _=>rfl
theorem Rd.drew (h:Rd w B sz A n c xs):Rd w.drew B sz A n c xs:=h.keep fun _ _=>rfl
theorem Rd.alloc (h:Rd w B sz A n c xs) (hB:B≤w.heap.size) (o:Obj):Rd (w.alloc o) B sz A n c xs:=h.keep fun p hp=>World.cell?_alloc_lt w o p (by omega)
theorem Rd.setCell (h:Rd w B sz A n c xs) {p:Addr} (hB:B≤p.block) (u:Value):Rd (w.setCell p u) B sz A n c xs:=
 h.keep fun q hq=>oW w p q u (fun e=>by subst e;omega)
theorem Rd.cut (h:Rd w B sz A n c xs) {i j:Nat} (hi:i≤j) (hj:j≤n) :
  Rd w B sz (if c=i then A else A.map (·.add (i*sz))) (j-i) (c-i) ((xs.drop (i*sz)).take ((j-i)*sz)):=by
 have hc:=h.cap
 have hln:(j-i)*sz≤xs.length-i*sz:=by rw[h.len,← Nat.sub_mul];exact Nat.mul_le_mul_right _ (by omega)
 refine⟨?_,by omega,fun u hu=>h.one u (List.mem_of_mem_drop (List.mem_of_mem_take hu)),fun hn=>?_⟩
 ·rw[l7,List.length_drop];omega
 obtain⟨b,o,rfl,e,a⟩:=h.at_ (by omega);rw[if_neg (by omega)];refine⟨b,o+i*sz,?_,e,fun k u hu=>?_⟩
 ·show some (Addr.add ⟨b,o,none⟩ (i*sz))=_
  unfold Addr.add
  split
  ·rename_i d;rw[d];rfl
  ·rfl
 ·rw[List.getElem?_take]at hu
  split at hu
  ·rw[List.getElem?_drop]at hu
   have:=a _ u hu
   rwa [← Nat.add_assoc]at this
  ·cases hu
theorem Rd.Nw (h:Rd w B sz A n c xs) {j:Nat} (f:j≤n):Rd w B sz A j c (xs.take (j*sz)):=by
 have hc:=h.cap
 have hln:j*sz≤xs.length:=by rw[h.len];exact Nat.mul_le_mul_right _ f
 refine⟨by rw[l7];omega,by omega,fun u hu=>h.one u (List.mem_of_mem_take hu),fun hn=>?_⟩;obtain⟨b,o,e,d,a⟩:=h.at_ (by omega);refine⟨b,o,e,d,fun k u hu=>?_⟩;rw[List.getElem?_take]at hu
 split at hu
 ·exact a _ u hu
 ·cases hu
theorem Rd.from_ (h:Rd w B sz A n c xs) {i:Nat} (hi:i≤n) :
  Rd w B sz (if c=i then A else A.map (·.add (i*sz))) (n-i) (c-i) (xs.drop (i*sz)):=by
 have a:=h.cut hi (Nu n)
 rwa [eO (by rw[List.length_drop,h.len,← Nat.sub_mul];exact bG)]at a
theorem Rd.b_ {base:Nat} {e:TypeId} {v:Value} (h:w.ownsRow base e sz v n xs) (d:∀ u∈xs,u.oneCell'=true):∃ A c,v = .slice A n c∧Rd w w.heap.size sz A n c xs:=by
 rcases h.2 with ⟨rfl,rfl⟩ | ⟨g,a,cur,rfl,_,k,b,_,_,_⟩
 ·exact⟨none,0,rfl,⟨h.1,bG,d,fun f=>absurd f (by omega)⟩⟩
 ·refine⟨_,a,rfl,⟨h.1,b,d,fun f=>⟨g,0,rfl,(IC.1 k).1,fun j u hu=>?_⟩⟩⟩
  have:=h.cells (g:=g) rfl j u hu;rw[Nat.zero_add];unfold Addr.add at this
  split at this
  ·rename_i i;rw[i];exact this
  ·simpa using this
end

structure Own (w:World) (base:Nat) (e:TypeId) (sz:Nat) (A:Option Addr) (n c:Nat) (xs:List Value):Prop where
 row:w.ownsRow base e sz (.slice A n c) n xs
 one:∀ u∈xs,u.oneCell'=true
theorem Own.rd {w:World} {base:Nat} {e:TypeId} {sz n c:Nat} {A:Option Addr} {xs:List Value} (h:Own w base e sz A n c xs):Rd w w.heap.size sz A n c xs:=by
 obtain⟨A',c',b,a⟩:=Rd.b_ h.row h.one;injection b with h1 h2 h3;subst h1;subst h3;exact a
theorem Own.aT {w:World} {base:Nat} {e:TypeId} {sz n c:Nat} {A:Option Addr} {xs:List Value} (h:Own w base e sz A n c xs) {a:Addr} (b:a.block<base) (u:Value):Own (w.setCell a u) base e sz A n c xs:=
 ⟨ownsRow_setCell_below h.row b u,h.one⟩
theorem Own.mono {w:World} {base a:Nat} {e:TypeId} {sz n c:Nat} {A:Option Addr} {xs:List Value} (h:Own w base e sz A n c xs) (hb:a≤base):Own w a e sz A n c xs:=by
 refine⟨⟨h.row.1,?_⟩,h.one⟩
 rcases h.row.2 with f | ⟨g,b,d,f,h2,i⟩
 ·exact .inl f
 ·exact .inr ⟨g,b,d,f,by omega,i⟩
theorem Own.gX {w:World} {base:Nat} {e:TypeId} {sz n:Nat} {v:Value} {xs:List Value} (h:w.ownsRow base e sz v n xs) (b:∀ u∈xs,u.oneCell'=true):∃ A c,v = .slice A n c∧Own w base e sz A n c xs:=by
 rcases h.2 with ⟨rfl,rfl⟩ | ⟨g,a,cur,rfl,_⟩
 ·exact⟨none,0,rfl,h,b⟩
 ·exact⟨_,a,rfl,h,b⟩
theorem iq {P:Program} (w:World) (base:Nat) (t F e:TypeId) (i:TypeInfo) (z:Value) (sz bytes:Nat) (y:P.underlying t=some (.slice e)) (hi:P.info? e=some i) (R:i.zero=some z)
  (k:i.size=sz) (r:i.bytes=bytes) (C:z.cells.size=sz) (x:0<sz)
  {v:Value} {n:Nat} {xs:List Value} (d:w.ownsRow base e sz v n xs)
  {B:Nat} {A:Option Addr} {m c:Nat} {news:List Value} (l:Rd w B sz A m c news)
  (p:n+m≤1000000) (f:bytes≤1000000) (h:base≤w.heap.size) :
  ∃ v' w',(Builtin.append_ #[t,t] F #[v,.slice A m c]).run P w = .ok v' w'∧w'.ownsRow base e sz v' (n+m) (xs++news)∧w.grownBy w' v.ownBlock ∧
   (v'.ownBlock=v.ownBlock∨v'.ownBlock=some w.heap.size):=by
 rcases Nat.eq_zero_or_pos m with rfl | O
 ·have Q:news=[]:=DZ (by simpa using l.len)
  subst Q;refine⟨v,w,?_,by simpa using d,⟨rfl,rfl,rfl,bG,fun _ _ _=>rfl⟩,.inl rfl⟩
  have D:∀ (A:Option Addr),(Builtin.firstCells i.size 0 (.slice A 0 c)).run P w = .ok #[] w:=by
   intro A
   cases A with
   | none=>simp[Builtin.firstCells]
   | some a=>exact run_firstCells_some w i.size 0 a 0 c [] (by simp) (by simp)
  rcases d.2 with ⟨rfl,rfl⟩ | ⟨g,cap,cur,rfl,_,_,s,_⟩
  ·simp[Builtin.append_,run_underlying y,sizeOf,typeInfo,hi,Builtin.lenOf,D]
  ·simp[Builtin.append_,run_underlying y,sizeOf,typeInfo,hi,Builtin.lenOf,D,s,storeCells]
 ·obtain⟨b,o,rfl,_,N⟩:=l.at_ O
  have q:(n+m)*bytes≤140737488355328:=aN (Nat.mul_le_mul p f) (by omega)
  obtain⟨v',w',H,J,L,_,M⟩:=run_append_own_at (P:=P) w base t F e i z sz bytes y hi R k r C x v n xs d ⟨b,o,none⟩ m c news l.len
   (fun j u hu=>by
    have:=N j u hu;unfold Addr.add
    split
    ·rename_i G;subst G;simpa using this
    ·exact this) l.one (by simp only[maxLen];omega) q h
  exact⟨v',w',H,J,L,M⟩

theorem dV {P:Program} (t e:TypeId) (sz:Nat) (d:P.underlying t=some (.slice e)) {i:TypeInfo} (hi:P.info? e=some i) (a:i.size=sz) (A:Option Addr) (n c k:Nat) (b:k≤n) (w:World) :
  (Instr.slice t (.slice A n c) (some (.int .i64 (k:Nat))) none none).run P w = .ok (.slice (if c=k then A else A.map (·.add (k*sz))) (n-k) (c-k)) w:=by
 subst a;simp[Instr.slice,Instr.sliceBounds,Instr.sliceBound,asIntOf,run_underlying d,sizeOf,typeInfo,hi,b]
theorem xW {P:Program} (t e:TypeId) (sz:Nat) (d:P.underlying t=some (.slice e)) {i:TypeInfo} (hi:P.info? e=some i) (_hsz:i.size=sz) (A:Option Addr) (n c k:Nat) (b:k≤c) (w:World) :
  (Instr.slice t (.slice A n c) none (some (.int .i64 (k:Nat))) none).run P w = .ok (.slice A k c) w:=by
 subst _hsz
 have a:(fun x:Addr=>x.add 0)=id:=by funext x;simp[Addr.add]
 simp[Instr.slice,Instr.sliceBounds,Instr.sliceBound,asIntOf,run_underlying d,sizeOf,typeInfo,hi,b,a]

structure Part where
 A:Option Addr
 n:Nat
 c:Nat
 xs:List Value
def Part.val (p:Part):Value:=.slice p.A p.n p.c
theorem aK {B:Nat} {a w:World} (h:Below B a w) (n:Nat):Below B a (w.drewN n):=⟨h.os,h.tape,h.output,h.size,h.block⟩
structure Rb (w:World) (lo sz:Nat) (A:Option Addr) (n c:Nat) (xs:List Value):Prop where
 len:xs.length=n*sz
 cap:n≤c
 one:∀ u∈xs,u.oneCell'=true
 at_:0<n→∃ b o,A=some ⟨b,o,none⟩∧lo≤b∧b<w.heap.size∧∀ j u,xs[j]?=some u→w.cell? ⟨b,o+j,none⟩=some u
section
variable {w w':World} {lo sz n c:Nat} {A:Option Addr} {xs:List Value}
theorem Rb.rd (h:Rb w lo sz A n c xs):Rd w w.heap.size sz A n c xs:=
 ⟨h.len,h.cap,h.one,fun f=>by obtain⟨b,o,e,_,a,d⟩:=h.at_ f;exact⟨b,o,e,a,d⟩⟩
theorem Rb.mono {a:Nat} (h:Rb w lo sz A n c xs) (hl:a≤lo):Rb w a sz A n c xs:=
 ⟨h.len,h.cap,h.one,fun g=>by obtain⟨b,o,e,h1,d,f⟩:=h.at_ g;exact⟨b,o,e,by omega,d,f⟩⟩
theorem Rb.gb {s:Nat} (h:Rb w lo sz A n c xs) (d:w.grownBy w' (some s)) (hs:s<lo):Rb w' lo sz A n c xs:=
 ⟨h.len,h.cap,h.one,fun i=>by
  obtain⟨b,o,e,f,a,g⟩:=h.at_ i
  exact⟨b,o,e,f,cO a d.size,fun j u hu=>(bU (d.block b a (fun e=>by injection e with e;omega))).trans (g j u hu)⟩⟩
theorem Rb.later (h:Rb w lo sz A n c xs) (d:Below w.heap.size w w'):Rb w' lo sz A n c xs:=
 ⟨h.len,h.cap,h.one,fun i=>by
  obtain⟨b,o,e,f,a,g⟩:=h.at_ i
  exact⟨b,o,e,f,cO a d.size,fun j u hu=>(d.cell (p:=⟨b,o+j,none⟩) a).trans (g j u hu)⟩⟩
theorem Own.rb {base:Nat} {e:TypeId} (h:Own w base e sz A n c xs):Rb w base sz A n c xs:=by
 have d:=h.rd;refine⟨d.len,d.cap,d.one,fun k=>?_⟩;obtain⟨b,o,f,i,j⟩:=d.at_ k;refine⟨b,o,f,?_,i,j⟩
 rcases h.row.2 with ⟨_,h0⟩ | ⟨g,_,_,a,hg,_⟩
 ·omega
 ·injection a with a;rw[f]at a;injection a with a;injection a with a;omega
end

class fE (v v':World) (p:Prop) (q:outParam Prop):Prop where
 go:p→Below v.heap.size v v'→q
instance {sz n c:Nat} {A:Option Addr} {xs:List Value} {v v':World} : fE v v' (Rd v v.heap.size sz A n c xs) (Rd v' v'.heap.size sz A n c xs):=⟨fun h hb=>h.later hb⟩
instance {w0:World} {v v':World} : fE v v' (Below w0.heap.size w0 v) (Below w0.heap.size w0 v'):=⟨fun h hb=>h.trans (hb.mono h.size)⟩
section
variable {v v':World} {p1 p2 p3 p4 p5 p6 p7 p8 q1 q2 q3 q4 q5 q6 q7 q8:Prop}
theorem gI [fE v v' p1 q1] [fE v v' p2 q2] (a:Below v.heap.size v v') (b:ai p1) (d:ai p2):ai q1∧ai q2:=⟨fE.go (v:=v) (v':=v') b.o a,fE.go (v:=v) (v':=v') d.o a⟩
theorem kX [fE v v' p1 q1] [fE v v' p2 q2] [fE v v' p3 q3] (a:Below v.heap.size v v') (b:ai p1) (d:ai p2) (e:ai p3):ai q1∧ai q2∧ai q3:=⟨fE.go (v:=v) (v':=v') b.o a,fE.go (v:=v) (v':=v') d.o a,fE.go (v:=v) (v':=v') e.o a⟩
theorem iR [fE v v' p1 q1] [fE v v' p2 q2] [fE v v' p3 q3] [fE v v' p4 q4] (a:Below v.heap.size v v') (b:ai p1) (d:ai p2) (e:ai p3) (f:ai p4):ai q1∧ai q2∧ai q3∧ai q4:=⟨fE.go (v:=v) (v':=v') b.o a,fE.go (v:=v) (v':=v') d.o a,fE.go (v:=v) (v':=v') e.o a,fE.go (v:=v) (v':=v') f.o a⟩
theorem jo [fE v v' p1 q1] [fE v v' p2 q2] [fE v v' p3 q3] [fE v v' p4 q4] [fE v v' p5 q5] (a:Below v.heap.size v v') (b:ai p1) (d:ai p2) (e:ai p3) (f:ai p4) (g:ai p5):ai q1∧ai q2∧ai q3∧ai q4∧ai q5:=⟨fE.go (v:=v) (v':=v') b.o a,fE.go (v:=v) (v':=v') d.o a,fE.go (v:=v) (v':=v') e.o a,fE.go (v:=v) (v':=v') f.o a,fE.go (v:=v) (v':=v') g.o a⟩
theorem pR [fE v v' p1 q1] [fE v v' p2 q2] [fE v v' p3 q3] [fE v v' p4 q4] [fE v v' p5 q5] [fE v v' p6 q6] (a:Below v.heap.size v v') (b:ai p1) (d:ai p2) (e:ai p3) (f:ai p4) (g:ai p5) (h:ai p6):ai q1∧ai q2∧ai q3∧ai q4∧ai q5∧ai q6:=⟨fE.go (v:=v) (v':=v') b.o a,fE.go (v:=v) (v':=v') d.o a,fE.go (v:=v) (v':=v') e.o a,fE.go (v:=v) (v':=v') f.o a,fE.go (v:=v) (v':=v') g.o a,fE.go (v:=v) (v':=v') h.o a⟩
theorem Ed [fE v v' p1 q1] [fE v v' p2 q2] [fE v v' p3 q3] [fE v v' p4 q4] [fE v v' p5 q5] [fE v v' p6 q6] [fE v v' p7 q7] (a:Below v.heap.size v v') (b:ai p1) (d:ai p2) (e:ai p3) (f:ai p4) (g:ai p5) (h:ai p6) (i:ai p7):ai q1∧ai q2∧ai q3∧ai q4∧ai q5∧ai q6∧ai q7:=⟨fE.go (v:=v) (v':=v') b.o a,fE.go (v:=v) (v':=v') d.o a,fE.go (v:=v) (v':=v') e.o a,fE.go (v:=v) (v':=v') f.o a,fE.go (v:=v) (v':=v') g.o a,fE.go (v:=v) (v':=v') h.o a,fE.go (v:=v) (v':=v') i.o a⟩
theorem lZ [fE v v' p1 q1] [fE v v' p2 q2] [fE v v' p3 q3] [fE v v' p4 q4] [fE v v' p5 q5] [fE v v' p6 q6] [fE v v' p7 q7] [fE v v' p8 q8] (a:Below v.heap.size v v') (b:ai p1) (d:ai p2) (e:ai p3) (f:ai p4) (g:ai p5) (h:ai p6) (i:ai p7) (j:ai p8):ai q1∧ai q2∧ai q3∧ai q4∧ai q5∧ai q6∧ai q7∧ai q8:=⟨fE.go (v:=v) (v':=v') b.o a,fE.go (v:=v) (v':=v') d.o a,fE.go (v:=v) (v':=v') e.o a,fE.go (v:=v) (v':=v') f.o a,fE.go (v:=v) (v':=v') g.o a,fE.go (v:=v) (v':=v') h.o a,fE.go (v:=v) (v':=v') i.o a,fE.go (v:=v) (v':=v') j.o a⟩
end
def Kept (l:List (Addr×Value)) (w0 w:World):Prop:=Below w0.heap.size w0 w∧∀ x∈l,x.1.block<w.heap.size∧w.cell? x.1=some x.2
namespace Kept
variable {l:List (Addr×Value)} {w0 w w':World} {p:Addr} {v:Value}
theorem below (h:Kept l w0 w):Below w0.heap.size w0 w:=h.1
theorem nil (w:World):Kept [] w w:=⟨bN,by simp⟩
theorem a_ (h:Below w0.heap.size w0 w):Kept [] w0 w:=⟨h,by simp⟩
theorem cons (h:Kept l w0 w) (e:p.block<w.heap.size) (f:w.cell? p=some v):Kept ((p,v)::l) w0 w:=
 ⟨h.1,fun x d=>by
  rcases jJ.1 d with rfl | d
  ·exact⟨e,f⟩
  ·exact h.2 x d⟩
theorem af (h:Kept l w0 w) (d:w.cell? p=some v):Kept ((p,v)::l) w0 w:=h.cons (by obtain⟨b,o,s⟩:=p;exact aL w _ d) d
theorem later (h:Kept l w0 w) (d:Below w.heap.size w w'):Kept l w0 w':=
 ⟨h.1.trans (d.mono h.1.size),fun x e=>⟨cO (h.2 x e).1 d.size,(d.cell (p:=x.1) (h.2 x e).1).trans (h.2 x e).2⟩⟩
theorem alloc (h:Kept l w0 w) (o:Obj):Kept l w0 (w.alloc o):=h.later ((bN).alloc (bG) _)
theorem drew (h:Kept l w0 w):Kept l w0 w.drew:=h.later ((aK (bN) 1))
theorem set (h:Kept l w0 w) {a:Addr} (f:w0.heap.size≤a.block) (i:∀ x∈l,x.1.block≠a.block) (u:Value):Kept l w0 (w.setCell a u):=
 ⟨h.1.setCell f _,fun x d=>⟨by simpa [World.setCell] using (h.2 x d).1,(oW w a x.1 u (fun e=>i x d (by rw[e]))).trans (h.2 x d).2⟩⟩
theorem tail {x:Addr×Value} (h:Kept (x::l) w0 w):Kept l w0 w:=⟨h.1,fun y d=>h.2 y (gY _ d)⟩
theorem head {x:Addr×Value} (h:Kept (x::l) w0 w):w.cell? x.1=some x.2:=(h.2 x (fA)).2
theorem c0 (h:Kept ((p,v)::l) w0 w):w.cell? p=some v:=h.head
theorem c1 {d:Addr×Value} (h:Kept (d::(p,v)::l) w0 w):w.cell? p=some v:=h.tail.head
theorem c2 {d e:Addr×Value} (h:Kept (d::e::(p,v)::l) w0 w):w.cell? p=some v:=h.tail.tail.head
theorem c3 {d e f:Addr×Value} (h:Kept (d::e::f::(p,v)::l) w0 w):w.cell? p=some v:=h.tail.tail.tail.head
theorem c4 {d e f i:Addr×Value} (h:Kept (d::e::f::i::(p,v)::l) w0 w):w.cell? p=some v:=h.tail.tail.tail.tail.head
theorem c5 {d e f i j:Addr×Value} (h:Kept (d::e::f::i::j::(p,v)::l) w0 w):w.cell? p=some v:=h.tail.tail.tail.tail.tail.head
theorem c6 {d e f i j k:Addr×Value} (h:Kept (d::e::f::i::j::k::(p,v)::l) w0 w):w.cell? p=some v:=h.tail.tail.tail.tail.tail.tail.head
theorem t8 {d e f i j k m n:Addr×Value} (h:Kept (d::e::f::i::j::k::m::n::l) w0 w):Kept l w0 w:=h.tail.tail.tail.tail.tail.tail.tail.tail
theorem c7 {d e f i j k m:Addr×Value} (h:Kept (d::e::f::i::j::k::m::(p,v)::l) w0 w):w.cell? p=some v:=h.tail.tail.tail.tail.tail.tail.tail.head
theorem tZ (h:Kept l w0 w) {g:Nat} (d:w0.heap.size≤g) (e:∀ x∈l,x.1.block≠g) (a b c:Value):Kept l w0 (((w.setCell ⟨g,0,none⟩ a).setCell ⟨g,1,none⟩ b).setCell ⟨g,2,none⟩ c):=((h.set (a:=⟨g,0,none⟩) d e a).set (a:=⟨g,1,none⟩) d e b).set (a:=⟨g,2,none⟩) d e c
end Kept
def eB:List (Addr×Value)→World→Prop
 | [],_=>True
 | (a,v)::l,w=>w.cell? a=some v∧eB l w
theorem Kept.cj {w0 w:World} : ∀ {l:List (Addr×Value)},Kept l w0 w→eB l w
 | [],_=>trivial
 | (_,_)::_,h=>⟨h.head,Kept.cj h.tail⟩
def aA (g:Nat) (w:World):Prop:=g<w.heap.size∧∀ j,w.frozen? ⟨g,j,none⟩=false
namespace aA
variable {g:Nat} {w w':World}
theorem later (h:aA g w) (d:Below w.heap.size w w'):aA g w':=⟨cO h.1 d.size,fun j=>(d.frozen (p:=⟨g,j,none⟩) h.1).trans (h.2 j)⟩
theorem alloc (h:aA g w) (o:Obj):aA g (w.alloc o):=h.later ((bN).alloc (bG) _)
theorem drew (h:aA g w):aA g w.drew:=h.later ((aK (bN) 1))
theorem set (h:aA g w) (a:Addr) (u:Value):aA g (w.setCell a u):=⟨by simpa [World.setCell] using h.1,fun j=>by rw[yY];exact h.2 j⟩
end aA
instance {l:List (Addr×Value)} {w0:World} {v v':World} : fE v v' (Kept l w0 v) (Kept l w0 v'):=⟨fun h hb=>h.later hb⟩
instance {g:Nat} {v v':World} : fE v v' (aA g v) (aA g v'):=⟨fun h hb=>h.later hb⟩
theorem mW (v:World):∃ v':World,v'=v.drew∧Below v.heap.size v v':=⟨_,rfl,aK (bN) 1⟩
theorem Er (w:World) (a:Value) (t:TypeId):∃ (g:Nat) (W:World),g=w.heap.size∧W=w.alloc (.cells #[a] t)∧Below w.heap.size w W∧W.cell? ⟨g,0,none⟩=some a:=
 ⟨_,_,rfl,rfl,(bN).alloc (bG) _,by go_simp⟩
theorem A_ (w:World) (a b:Value) (t:TypeId):∃ (g:Nat) (W:World),g=w.heap.size∧W=w.alloc (.cells #[a,b] t)∧Below w.heap.size w W∧W.cell? ⟨g,0,none⟩=some a∧W.cell? ⟨g,1,none⟩=some b:=
 ⟨_,_,rfl,rfl,(bN).alloc (bG) _,by go_simp,by go_simp⟩
theorem rW (w:World) (a b c:Value) (t:TypeId):∃ (g:Nat) (W:World),g=w.heap.size∧W=w.alloc (.cells #[a,b,c] t)∧Below w.heap.size w W∧W.cell? ⟨g,0,none⟩=some a∧W.cell? ⟨g,1,none⟩=some b∧W.cell? ⟨g,2,none⟩=some c:=
 ⟨_,_,rfl,rfl,(bN).alloc (bG) _,by go_simp,by go_simp,by go_simp⟩
theorem zi (w:World) (a b c d:Value) (t:TypeId):∃ (g:Nat) (W:World),g=w.heap.size∧W=w.alloc (.cells #[a,b,c,d] t)∧Below w.heap.size w W∧W.cell? ⟨g,0,none⟩=some a∧W.cell? ⟨g,1,none⟩=some b∧W.cell? ⟨g,2,none⟩=some c∧W.cell? ⟨g,3,none⟩=some d:=
 ⟨_,_,rfl,rfl,(bN).alloc (bG) _,by go_simp,by go_simp,by go_simp,by go_simp⟩
section
variable {w w' v W:World} {g r p o:Nat} {o':Obj} {u a b c a' b' c':Value}
theorem p_ {f:Array Value} {t:TypeId} (d:g=v.heap.size) (e:W=v.alloc (.cells f t)):ai (aA g W):=⟨by rw[e,d];simp,fun j=>by rw[e,d];go_simp⟩
theorem jy (d:g=v.heap.size) (h:Below w.heap.size w v):w.heap.size≤g:=by rw[d];exact h.size
theorem fU (hg:g=v.heap.size) (d:v.cell? ⟨p,o,none⟩=some u):p≠g:=by
 have h:=aL v _ d;dsimp only at h;omega
theorem jF (e:W=((v.setCell ⟨r,0,none⟩ a).setCell ⟨r,1,none⟩ b).setCell ⟨r,2,none⟩ c) (h:Below w.heap.size w v) (d:w.heap.size≤r):ai (Below w.heap.size w W):=by
 unfold ai;rw[e];exact ((h.setCell (p:=⟨r,0,none⟩) d _).setCell (p:=⟨r,1,none⟩) d _).setCell (p:=⟨r,2,none⟩) d _
theorem kH (d:W=((v.setCell ⟨r,0,none⟩ a).setCell ⟨r,1,none⟩ b).setCell ⟨r,2,none⟩ c) (z0:v.cell? ⟨r,0,none⟩=some a') (z1:v.cell? ⟨r,1,none⟩=some b') (z2:v.cell? ⟨r,2,none⟩=some c'):W.cell? ⟨r,0,none⟩=some a∧W.cell? ⟨r,1,none⟩=some b∧W.cell? ⟨r,2,none⟩=some c:=by
 subst d
 refine⟨?_,?_,?_⟩ <;> go_simp
end
theorem wP {P:Program} {f:FuncId} {args:Array Value} {l:List (Addr×Value)} {w0 w:World} {r:Value} (i:Calls P f args w fun e w'=>e = .returned r∧Below w.heap.size w w') (h:ai (Kept l w0 w)) :
  Calls P f args w fun e w'=>e = .returned r∧ai (Kept l w0 w'):=i.mono fun _ _ ⟨j,d⟩=>⟨j,h.later d⟩
end
section
structure Is {α:Type} (x y:α):Prop where
 out:x=y
theorem Is.rfl {α:Type} {x:α} : Is x x:=⟨Eq.refl x⟩
section
variable {P:Program} {md:Region.Mode} {ops:Array Oper} {Q:Exit→Act→World→Prop} {S:World→Prop} {fuel:Nat} {listed l2:Array Bool} {a a2:Act} {w:World}
theorem Tk (i d:Nat) {oi:Oper} {v:Value} (h:wpAnyH P md ops Q S fuel l2 a2 w) (hi:ops[i]?=some oi:=by rfl) (hd:oi.dst=some d:=by rfl) (hs:Region.noSelect ops=true:=by kernel_rfl) (hf:Region.free md ops listed i=true:=by kernel_rfl) (hr:(Region.ready md ops listed).contains i=true:=by kernel_rfl)
  (hw:Region.wanted oi (yielded ops a.tmps)=true:=by kernel_rfl)
  (hy:∀ wz,S wz→(execOp a.eval oi).run P wz = .ok (.value v) wz:=by (intro wz hSw;(try dsimp only at hSw);(try simp only[eB]at hSw);go_simp;try with_reducible rfl))
  (hQ:∀ c a w,Q (.panic c) (a.put oi.dst v) w→Q (.panic c) a w:=by exact fun _ _ _ h=>h) (hS:S w:=by assumption)
  (ha:Is (a.put (some d) v) a2:=by first | (simp only[Act.put,List.setIfInBounds_toArray,List.set_cons_zero,List.set_cons_succ];exact Is.rfl) | exact Is.rfl) (hl:Is (listed.setIfInBounds i true) l2:=by first | (simp only[List.setIfInBounds_toArray,List.set_cons_zero,List.set_cons_succ];exact Is.rfl) | exact Is.rfl):wpAnyH P md ops Q S (fuel+1) listed a w:=
 wpAnyH_take hi hs hf hr hQ (Or.inl ⟨hw,hy⟩) hS (by rw[hd,ha.out,hl.out];exact h)
theorem Tn (i d:Nat) {oi:Oper} (h:wpAnyH P md ops Q S fuel l2 a2 w) (hi:ops[i]?=some oi:=by rfl) (hd:oi.dst=some d:=by rfl) (hs:Region.noSelect ops=true:=by kernel_rfl) (hf:Region.free md ops listed i=true:=by kernel_rfl) (hr:(Region.ready md ops listed).contains i=true:=by kernel_rfl)
  (hw:Region.wanted oi (yielded ops a.tmps)=false:=by kernel_rfl)
  (hQ:∀ c a w,Q (.panic c) (a.put oi.dst undef) w→Q (.panic c) a w:=by exact fun _ _ _ h=>h) (hS:S w:=by assumption)
  (ha:Is (a.put (some d) undef) a2:=by first | (simp only[Act.put,List.setIfInBounds_toArray,List.set_cons_zero,List.set_cons_succ];exact Is.rfl) | exact Is.rfl) (hl:Is (listed.setIfInBounds i true) l2:=by first | (simp only[List.setIfInBounds_toArray,List.set_cons_zero,List.set_cons_succ];exact Is.rfl) | exact Is.rfl):wpAnyH P md ops Q S (fuel+1) listed a w:=
 wpAnyH_take hi hs hf hr hQ (Or.inr ⟨hw,rfl⟩) hS (by rw[hd,ha.out,hl.out];exact h)
theorem Tc (i:Nat) {oi:Oper} (h:∀ K':Act→World→Prop,Shut (∀ a w,S w→(S w→wpAnyH P md ops Q S fuel (listed.setIfInBounds i true) a w)→K' a w)→if Region.wanted oi (yielded ops a.tmps)=true then Oper.wp P oi a w K' Q else K' (a.put oi.dst undef) w)
  (hi:ops[i]?=some oi:=by rfl) (hr:Region.ready md ops listed=[i]:=by kernel_rfl):wpAnyH P md ops Q S (fuel+1) listed a w:=
 wpAnyH_ready hr (by simp) (AllReadyH.cons hi h AllReadyH.nil)
theorem Th {K':Act→World→Prop} (hK:Shut (∀ a w,S w→(S w→wpAnyH P md ops Q S fuel listed a w)→K' a w)) (hS:S w) (h:S w→wpAnyH P md ops Q S fuel l2 a2 w)
  (ha:Is a a2:=by first | (simp only[Act.put,List.setIfInBounds_toArray,List.set_cons_zero,List.set_cons_succ];exact Is.rfl) | exact Is.rfl) (hl:Is listed l2:=by first | (simp only[List.setIfInBounds_toArray,List.set_cons_zero,List.set_cons_succ];exact Is.rfl) | exact Is.rfl):K' a w:=
 hK.out _ _ hS fun hs=>by rw[ha.out,hl.out];exact h hs
theorem T2 (i1 d1 i2 d2:Nat) {o1 o2:Oper} {v1 v2:Value} {l0 l1 l2:Array Bool} {a0 a1 a2:Act} (h:wpAnyH P md ops Q S fuel l2 a2 w) (hi1:ops[i1]?=some o1:=by rfl) (hd1:o1.dst=some d1:=by rfl) (hs1:Region.noSelect ops=true:=by kernel_rfl) (hf1:Region.free md ops l0 i1=true:=by kernel_rfl) (hr1:(Region.ready md ops l0).contains i1=true:=by kernel_rfl) (hw1:Region.wanted o1 (yielded ops a0.tmps)=true:=by kernel_rfl) (hy1:∀ wz,S wz→(execOp a0.eval o1).run P wz=.ok (.value v1) wz:=by (intro wz hSw;(try dsimp only at hSw);(try simp only[eB]at hSw);go_simp;try with_reducible rfl)) (hQ1:∀ c a w,Q (.panic c) (a.put o1.dst v1) w→Q (.panic c) a w:=by exact fun _ _ _ h=>h) (hS1:S w:=by assumption) (ha1:Is (a0.put (some d1) v1) a1:=by first | (simp only[Act.put,List.setIfInBounds_toArray,List.set_cons_zero,List.set_cons_succ];exact Is.rfl) | exact Is.rfl) (hl1:Is (l0.setIfInBounds i1 true) l1:=by first | (simp only[List.setIfInBounds_toArray,List.set_cons_zero,List.set_cons_succ];exact Is.rfl) | exact Is.rfl) (hi2:ops[i2]?=some o2:=by rfl) (hd2:o2.dst=some d2:=by rfl) (hs2:Region.noSelect ops=true:=by kernel_rfl) (hf2:Region.free md ops l1 i2=true:=by kernel_rfl) (hr2:(Region.ready md ops l1).contains i2=true:=by kernel_rfl) (hw2:Region.wanted o2 (yielded ops a1.tmps)=true:=by kernel_rfl) (hy2:∀ wz,S wz→(execOp a1.eval o2).run P wz=.ok (.value v2) wz:=by (intro wz hSw;(try dsimp only at hSw);(try simp only[eB]at hSw);go_simp;try with_reducible rfl)) (hQ2:∀ c a w,Q (.panic c) (a.put o2.dst v2) w→Q (.panic c) a w:=by exact fun _ _ _ h=>h) (hS2:S w:=by assumption) (ha2:Is (a1.put (some d2) v2) a2:=by first | (simp only[Act.put,List.setIfInBounds_toArray,List.set_cons_zero,List.set_cons_succ];exact Is.rfl) | exact Is.rfl) (hl2:Is (l1.setIfInBounds i2 true) l2:=by first | (simp only[List.setIfInBounds_toArray,List.set_cons_zero,List.set_cons_succ];exact Is.rfl) | exact Is.rfl) :wpAnyH P md ops Q S (fuel+2) l0 a0 w:=Tk i1 d1 (Tk i2 d2 h hi2 hd2 hs2 hf2 hr2 hw2 hy2 hQ2 hS2 ha2 hl2) hi1 hd1 hs1 hf1 hr1 hw1 hy1 hQ1 hS1 ha1 hl1
theorem T3 (i1 d1 i2 d2 i3 d3:Nat) {o1 o2 o3:Oper} {v1 v2 v3:Value} {l0 l1 l2 l3:Array Bool} {a0 a1 a2 a3:Act} (h:wpAnyH P md ops Q S fuel l3 a3 w) (hi1:ops[i1]?=some o1:=by rfl) (hd1:o1.dst=some d1:=by rfl) (hs1:Region.noSelect ops=true:=by kernel_rfl) (hf1:Region.free md ops l0 i1=true:=by kernel_rfl) (hr1:(Region.ready md ops l0).contains i1=true:=by kernel_rfl) (hw1:Region.wanted o1 (yielded ops a0.tmps)=true:=by kernel_rfl) (hy1:∀ wz,S wz→(execOp a0.eval o1).run P wz=.ok (.value v1) wz:=by (intro wz hSw;(try dsimp only at hSw);(try simp only[eB]at hSw);go_simp;try with_reducible rfl)) (hQ1:∀ c a w,Q (.panic c) (a.put o1.dst v1) w→Q (.panic c) a w:=by exact fun _ _ _ h=>h) (hS1:S w:=by assumption) (ha1:Is (a0.put (some d1) v1) a1:=by first | (simp only[Act.put,List.setIfInBounds_toArray,List.set_cons_zero,List.set_cons_succ];exact Is.rfl) | exact Is.rfl) (hl1:Is (l0.setIfInBounds i1 true) l1:=by first | (simp only[List.setIfInBounds_toArray,List.set_cons_zero,List.set_cons_succ];exact Is.rfl) | exact Is.rfl) (hi2:ops[i2]?=some o2:=by rfl) (hd2:o2.dst=some d2:=by rfl) (hs2:Region.noSelect ops=true:=by kernel_rfl) (hf2:Region.free md ops l1 i2=true:=by kernel_rfl) (hr2:(Region.ready md ops l1).contains i2=true:=by kernel_rfl) (hw2:Region.wanted o2 (yielded ops a1.tmps)=true:=by kernel_rfl) (hy2:∀ wz,S wz→(execOp a1.eval o2).run P wz=.ok (.value v2) wz:=by (intro wz hSw;(try dsimp only at hSw);(try simp only[eB]at hSw);go_simp;try with_reducible rfl)) (hQ2:∀ c a w,Q (.panic c) (a.put o2.dst v2) w→Q (.panic c) a w:=by exact fun _ _ _ h=>h) (hS2:S w:=by assumption) (ha2:Is (a1.put (some d2) v2) a2:=by first | (simp only[Act.put,List.setIfInBounds_toArray,List.set_cons_zero,List.set_cons_succ];exact Is.rfl) | exact Is.rfl) (hl2:Is (l1.setIfInBounds i2 true) l2:=by first | (simp only[List.setIfInBounds_toArray,List.set_cons_zero,List.set_cons_succ];exact Is.rfl) | exact Is.rfl) (hi3:ops[i3]?=some o3:=by rfl) (hd3:o3.dst=some d3:=by rfl) (hs3:Region.noSelect ops=true:=by kernel_rfl) (hf3:Region.free md ops l2 i3=true:=by kernel_rfl) (hr3:(Region.ready md ops l2).contains i3=true:=by kernel_rfl) (hw3:Region.wanted o3 (yielded ops a2.tmps)=true:=by kernel_rfl) (hy3:∀ wz,S wz→(execOp a2.eval o3).run P wz=.ok (.value v3) wz:=by (intro wz hSw;(try dsimp only at hSw);(try simp only[eB]at hSw);go_simp;try with_reducible rfl)) (hQ3:∀ c a w,Q (.panic c) (a.put o3.dst v3) w→Q (.panic c) a w:=by exact fun _ _ _ h=>h) (hS3:S w:=by assumption) (ha3:Is (a2.put (some d3) v3) a3:=by first | (simp only[Act.put,List.setIfInBounds_toArray,List.set_cons_zero,List.set_cons_succ];exact Is.rfl) | exact Is.rfl) (hl3:Is (l2.setIfInBounds i3 true) l3:=by first | (simp only[List.setIfInBounds_toArray,List.set_cons_zero,List.set_cons_succ];exact Is.rfl) | exact Is.rfl) :wpAnyH P md ops Q S (fuel+3) l0 a0 w:=Tk i1 d1 (Tk i2 d2 (Tk i3 d3 h hi3 hd3 hs3 hf3 hr3 hw3 hy3 hQ3 hS3 ha3 hl3) hi2 hd2 hs2 hf2 hr2 hw2 hy2 hQ2 hS2 ha2 hl2) hi1 hd1 hs1 hf1 hr1 hw1 hy1 hQ1 hS1 ha1 hl1
theorem T4 (i1 d1 i2 d2 i3 d3 i4 d4:Nat) {o1 o2 o3 o4:Oper} {v1 v2 v3 v4:Value} {l0 l1 l2 l3 l4:Array Bool} {a0 a1 a2 a3 a4:Act} (h:wpAnyH P md ops Q S fuel l4 a4 w) (hi1:ops[i1]?=some o1:=by rfl) (hd1:o1.dst=some d1:=by rfl) (hs1:Region.noSelect ops=true:=by kernel_rfl) (hf1:Region.free md ops l0 i1=true:=by kernel_rfl) (hr1:(Region.ready md ops l0).contains i1=true:=by kernel_rfl) (hw1:Region.wanted o1 (yielded ops a0.tmps)=true:=by kernel_rfl) (hy1:∀ wz,S wz→(execOp a0.eval o1).run P wz=.ok (.value v1) wz:=by (intro wz hSw;(try dsimp only at hSw);(try simp only[eB]at hSw);go_simp;try with_reducible rfl)) (hQ1:∀ c a w,Q (.panic c) (a.put o1.dst v1) w→Q (.panic c) a w:=by exact fun _ _ _ h=>h) (hS1:S w:=by assumption) (ha1:Is (a0.put (some d1) v1) a1:=by first | (simp only[Act.put,List.setIfInBounds_toArray,List.set_cons_zero,List.set_cons_succ];exact Is.rfl) | exact Is.rfl) (hl1:Is (l0.setIfInBounds i1 true) l1:=by first | (simp only[List.setIfInBounds_toArray,List.set_cons_zero,List.set_cons_succ];exact Is.rfl) | exact Is.rfl) (hi2:ops[i2]?=some o2:=by rfl) (hd2:o2.dst=some d2:=by rfl) (hs2:Region.noSelect ops=true:=by kernel_rfl) (hf2:Region.free md ops l1 i2=true:=by kernel_rfl) (hr2:(Region.ready md ops l1).contains i2=true:=by kernel_rfl) (hw2:Region.wanted o2 (yielded ops a1.tmps)=true:=by kernel_rfl) (hy2:∀ wz,S wz→(execOp a1.eval o2).run P wz=.ok (.value v2) wz:=by (intro wz hSw;(try dsimp only at hSw);(try simp only[eB]at hSw);go_simp;try with_reducible rfl)) (hQ2:∀ c a w,Q (.panic c) (a.put o2.dst v2) w→Q (.panic c) a w:=by exact fun _ _ _ h=>h) (hS2:S w:=by assumption) (ha2:Is (a1.put (some d2) v2) a2:=by first | (simp only[Act.put,List.setIfInBounds_toArray,List.set_cons_zero,List.set_cons_succ];exact Is.rfl) | exact Is.rfl) (hl2:Is (l1.setIfInBounds i2 true) l2:=by first | (simp only[List.setIfInBounds_toArray,List.set_cons_zero,List.set_cons_succ];exact Is.rfl) | exact Is.rfl) (hi3:ops[i3]?=some o3:=by rfl) (hd3:o3.dst=some d3:=by rfl) (hs3:Region.noSelect ops=true:=by kernel_rfl) (hf3:Region.free md ops l2 i3=true:=by kernel_rfl) (hr3:(Region.ready md ops l2).contains i3=true:=by kernel_rfl) (hw3:Region.wanted o3 (yielded ops a2.tmps)=true:=by kernel_rfl) (hy3:∀ wz,S wz→(execOp a2.eval o3).run P wz=.ok (.value v3) wz:=by (intro wz hSw;(try dsimp only at hSw);(try simp only[eB]at hSw);go_simp;try with_reducible rfl)) (hQ3:∀ c a w,Q (.panic c) (a.put o3.dst v3) w→Q (.panic c) a w:=by exact fun _ _ _ h=>h) (hS3:S w:=by assumption) (ha3:Is (a2.put (some d3) v3) a3:=by first | (simp only[Act.put,List.setIfInBounds_toArray,List.set_cons_zero,List.set_cons_succ];exact Is.rfl) | exact Is.rfl) (hl3:Is (l2.setIfInBounds i3 true) l3:=by first | (simp only[List.setIfInBounds_toArray,List.set_cons_zero,List.set_cons_succ];exact Is.rfl) | exact Is.rfl) (hi4:ops[i4]?=some o4:=by rfl) (hd4:o4.dst=some d4:=by rfl) (hs4:Region.noSelect ops=true:=by kernel_rfl) (hf4:Region.free md ops l3 i4=true:=by kernel_rfl) (hr4:(Region.ready md ops l3).contains i4=true:=by kernel_rfl) (hw4:Region.wanted o4 (yielded ops a3.tmps)=true:=by kernel_rfl) (hy4:∀ wz,S wz→(execOp a3.eval o4).run P wz=.ok (.value v4) wz:=by (intro wz hSw;(try dsimp only at hSw);(try simp only[eB]at hSw);go_simp;try with_reducible rfl)) (hQ4:∀ c a w,Q (.panic c) (a.put o4.dst v4) w→Q (.panic c) a w:=by exact fun _ _ _ h=>h) (hS4:S w:=by assumption) (ha4:Is (a3.put (some d4) v4) a4:=by first | (simp only[Act.put,List.setIfInBounds_toArray,List.set_cons_zero,List.set_cons_succ];exact Is.rfl) | exact Is.rfl) (hl4:Is (l3.setIfInBounds i4 true) l4:=by first | (simp only[List.setIfInBounds_toArray,List.set_cons_zero,List.set_cons_succ];exact Is.rfl) | exact Is.rfl) :wpAnyH P md ops Q S (fuel+4) l0 a0 w:=Tk i1 d1 (Tk i2 d2 (Tk i3 d3 (Tk i4 d4 h hi4 hd4 hs4 hf4 hr4 hw4 hy4 hQ4 hS4 ha4 hl4) hi3 hd3 hs3 hf3 hr3 hw3 hy3 hQ3 hS3 ha3 hl3) hi2 hd2 hs2 hf2 hr2 hw2 hy2 hQ2 hS2 ha2 hl2) hi1 hd1 hs1 hf1 hr1 hw1 hy1 hQ1 hS1 ha1 hl1
theorem U2 (i1 d1 i2 d2:Nat) {o1 o2:Oper} {l0 l1 l2:Array Bool} {a0 a1 a2:Act} (h:wpAnyH P md ops Q S fuel l2 a2 w) (hi1:ops[i1]?=some o1:=by rfl) (hd1:o1.dst=some d1:=by rfl) (hs1:Region.noSelect ops=true:=by kernel_rfl) (hf1:Region.free md ops l0 i1=true:=by kernel_rfl) (hr1:(Region.ready md ops l0).contains i1=true:=by kernel_rfl) (hw1:Region.wanted o1 (yielded ops a0.tmps)=false:=by kernel_rfl) (hQ1:∀ c a w,Q (.panic c) (a.put o1.dst undef) w→Q (.panic c) a w:=by exact fun _ _ _ h=>h) (hS1:S w:=by assumption) (ha1:Is (a0.put (some d1) undef) a1:=by first | (simp only[Act.put,List.setIfInBounds_toArray,List.set_cons_zero,List.set_cons_succ];exact Is.rfl) | exact Is.rfl) (hl1:Is (l0.setIfInBounds i1 true) l1:=by first | (simp only[List.setIfInBounds_toArray,List.set_cons_zero,List.set_cons_succ];exact Is.rfl) | exact Is.rfl) (hi2:ops[i2]?=some o2:=by rfl) (hd2:o2.dst=some d2:=by rfl) (hs2:Region.noSelect ops=true:=by kernel_rfl) (hf2:Region.free md ops l1 i2=true:=by kernel_rfl) (hr2:(Region.ready md ops l1).contains i2=true:=by kernel_rfl) (hw2:Region.wanted o2 (yielded ops a1.tmps)=false:=by kernel_rfl) (hQ2:∀ c a w,Q (.panic c) (a.put o2.dst undef) w→Q (.panic c) a w:=by exact fun _ _ _ h=>h) (hS2:S w:=by assumption) (ha2:Is (a1.put (some d2) undef) a2:=by first | (simp only[Act.put,List.setIfInBounds_toArray,List.set_cons_zero,List.set_cons_succ];exact Is.rfl) | exact Is.rfl) (hl2:Is (l1.setIfInBounds i2 true) l2:=by first | (simp only[List.setIfInBounds_toArray,List.set_cons_zero,List.set_cons_succ];exact Is.rfl) | exact Is.rfl) :wpAnyH P md ops Q S (fuel+2) l0 a0 w:=Tn i1 d1 (Tn i2 d2 h hi2 hd2 hs2 hf2 hr2 hw2 hQ2 hS2 ha2 hl2) hi1 hd1 hs1 hf1 hr1 hw1 hQ1 hS1 ha1 hl1
theorem U3 (i1 d1 i2 d2 i3 d3:Nat) {o1 o2 o3:Oper} {l0 l1 l2 l3:Array Bool} {a0 a1 a2 a3:Act} (h:wpAnyH P md ops Q S fuel l3 a3 w) (hi1:ops[i1]?=some o1:=by rfl) (hd1:o1.dst=some d1:=by rfl) (hs1:Region.noSelect ops=true:=by kernel_rfl) (hf1:Region.free md ops l0 i1=true:=by kernel_rfl) (hr1:(Region.ready md ops l0).contains i1=true:=by kernel_rfl) (hw1:Region.wanted o1 (yielded ops a0.tmps)=false:=by kernel_rfl) (hQ1:∀ c a w,Q (.panic c) (a.put o1.dst undef) w→Q (.panic c) a w:=by exact fun _ _ _ h=>h) (hS1:S w:=by assumption) (ha1:Is (a0.put (some d1) undef) a1:=by first | (simp only[Act.put,List.setIfInBounds_toArray,List.set_cons_zero,List.set_cons_succ];exact Is.rfl) | exact Is.rfl) (hl1:Is (l0.setIfInBounds i1 true) l1:=by first | (simp only[List.setIfInBounds_toArray,List.set_cons_zero,List.set_cons_succ];exact Is.rfl) | exact Is.rfl) (hi2:ops[i2]?=some o2:=by rfl) (hd2:o2.dst=some d2:=by rfl) (hs2:Region.noSelect ops=true:=by kernel_rfl) (hf2:Region.free md ops l1 i2=true:=by kernel_rfl) (hr2:(Region.ready md ops l1).contains i2=true:=by kernel_rfl) (hw2:Region.wanted o2 (yielded ops a1.tmps)=false:=by kernel_rfl) (hQ2:∀ c a w,Q (.panic c) (a.put o2.dst undef) w→Q (.panic c) a w:=by exact fun _ _ _ h=>h) (hS2:S w:=by assumption) (ha2:Is (a1.put (some d2) undef) a2:=by first | (simp only[Act.put,List.setIfInBounds_toArray,List.set_cons_zero,List.set_cons_succ];exact Is.rfl) | exact Is.rfl) (hl2:Is (l1.setIfInBounds i2 true) l2:=by first | (simp only[List.setIfInBounds_toArray,List.set_cons_zero,List.set_cons_succ];exact Is.rfl) | exact Is.rfl) (hi3:ops[i3]?=some o3:=by rfl) (hd3:o3.dst=some d3:=by rfl) (hs3:Region.noSelect ops=true:=by kernel_rfl) (hf3:Region.free md ops l2 i3=true:=by kernel_rfl) (hr3:(Region.ready md ops l2).contains i3=true:=by kernel_rfl) (hw3:Region.wanted o3 (yielded ops a2.tmps)=false:=by kernel_rfl) (hQ3:∀ c a w,Q (.panic c) (a.put o3.dst undef) w→Q (.panic c) a w:=by exact fun _ _ _ h=>h) (hS3:S w:=by assumption) (ha3:Is (a2.put (some d3) undef) a3:=by first | (simp only[Act.put,List.setIfInBounds_toArray,List.set_cons_zero,List.set_cons_succ];exact Is.rfl) | exact Is.rfl) (hl3:Is (l2.setIfInBounds i3 true) l3:=by first | (simp only[List.setIfInBounds_toArray,List.set_cons_zero,List.set_cons_succ];exact Is.rfl) | exact Is.rfl) :wpAnyH P md ops Q S (fuel+3) l0 a0 w:=Tn i1 d1 (Tn i2 d2 (Tn i3 d3 h hi3 hd3 hs3 hf3 hr3 hw3 hQ3 hS3 ha3 hl3) hi2 hd2 hs2 hf2 hr2 hw2 hQ2 hS2 ha2 hl2) hi1 hd1 hs1 hf1 hr1 hw1 hQ1 hS1 ha1 hl1
theorem U4 (i1 d1 i2 d2 i3 d3 i4 d4:Nat) {o1 o2 o3 o4:Oper} {l0 l1 l2 l3 l4:Array Bool} {a0 a1 a2 a3 a4:Act} (h:wpAnyH P md ops Q S fuel l4 a4 w) (hi1:ops[i1]?=some o1:=by rfl) (hd1:o1.dst=some d1:=by rfl) (hs1:Region.noSelect ops=true:=by kernel_rfl) (hf1:Region.free md ops l0 i1=true:=by kernel_rfl) (hr1:(Region.ready md ops l0).contains i1=true:=by kernel_rfl) (hw1:Region.wanted o1 (yielded ops a0.tmps)=false:=by kernel_rfl) (hQ1:∀ c a w,Q (.panic c) (a.put o1.dst undef) w→Q (.panic c) a w:=by exact fun _ _ _ h=>h) (hS1:S w:=by assumption) (ha1:Is (a0.put (some d1) undef) a1:=by first | (simp only[Act.put,List.setIfInBounds_toArray,List.set_cons_zero,List.set_cons_succ];exact Is.rfl) | exact Is.rfl) (hl1:Is (l0.setIfInBounds i1 true) l1:=by first | (simp only[List.setIfInBounds_toArray,List.set_cons_zero,List.set_cons_succ];exact Is.rfl) | exact Is.rfl) (hi2:ops[i2]?=some o2:=by rfl) (hd2:o2.dst=some d2:=by rfl) (hs2:Region.noSelect ops=true:=by kernel_rfl) (hf2:Region.free md ops l1 i2=true:=by kernel_rfl) (hr2:(Region.ready md ops l1).contains i2=true:=by kernel_rfl) (hw2:Region.wanted o2 (yielded ops a1.tmps)=false:=by kernel_rfl) (hQ2:∀ c a w,Q (.panic c) (a.put o2.dst undef) w→Q (.panic c) a w:=by exact fun _ _ _ h=>h) (hS2:S w:=by assumption) (ha2:Is (a1.put (some d2) undef) a2:=by first | (simp only[Act.put,List.setIfInBounds_toArray,List.set_cons_zero,List.set_cons_succ];exact Is.rfl) | exact Is.rfl) (hl2:Is (l1.setIfInBounds i2 true) l2:=by first | (simp only[List.setIfInBounds_toArray,List.set_cons_zero,List.set_cons_succ];exact Is.rfl) | exact Is.rfl) (hi3:ops[i3]?=some o3:=by rfl) (hd3:o3.dst=some d3:=by rfl) (hs3:Region.noSelect ops=true:=by kernel_rfl) (hf3:Region.free md ops l2 i3=true:=by kernel_rfl) (hr3:(Region.ready md ops l2).contains i3=true:=by kernel_rfl) (hw3:Region.wanted o3 (yielded ops a2.tmps)=false:=by kernel_rfl) (hQ3:∀ c a w,Q (.panic c) (a.put o3.dst undef) w→Q (.panic c) a w:=by exact fun _ _ _ h=>h) (hS3:S w:=by assumption) (ha3:Is (a2.put (some d3) undef) a3:=by first | (simp only[Act.put,List.setIfInBounds_toArray,List.set_cons_zero,List.set_cons_succ];exact Is.rfl) | exact Is.rfl) (hl3:Is (l2.setIfInBounds i3 true) l3:=by first | (simp only[List.setIfInBounds_toArray,List.set_cons_zero,List.set_cons_succ];exact Is.rfl) | exact Is.rfl) (hi4:ops[i4]?=some o4:=by rfl) (hd4:o4.dst=some d4:=by rfl) (hs4:Region.noSelect ops=true:=by kernel_rfl) (hf4:Region.free md ops l3 i4=true:=by kernel_rfl) (hr4:(Region.ready md ops l3).contains i4=true:=by kernel_rfl) (hw4:Region.wanted o4 (yielded ops a3.tmps)=false:=by kernel_rfl) (hQ4:∀ c a w,Q (.panic c) (a.put o4.dst undef) w→Q (.panic c) a w:=by exact fun _ _ _ h=>h) (hS4:S w:=by assumption) (ha4:Is (a3.put (some d4) undef) a4:=by first | (simp only[Act.put,List.setIfInBounds_toArray,List.set_cons_zero,List.set_cons_succ];exact Is.rfl) | exact Is.rfl) (hl4:Is (l3.setIfInBounds i4 true) l4:=by first | (simp only[List.setIfInBounds_toArray,List.set_cons_zero,List.set_cons_succ];exact Is.rfl) | exact Is.rfl) :wpAnyH P md ops Q S (fuel+4) l0 a0 w:=Tn i1 d1 (Tn i2 d2 (Tn i3 d3 (Tn i4 d4 h hi4 hd4 hs4 hf4 hr4 hw4 hQ4 hS4 ha4 hl4) hi3 hd3 hs3 hf3 hr3 hw3 hQ3 hS3 ha3 hl3) hi2 hd2 hs2 hf2 hr2 hw2 hQ2 hS2 ha2 hl2) hi1 hd1 hs1 hf1 hr1 hw1 hQ1 hS1 ha1 hl1
theorem Sm {p q:Prop} (h:q) (e:q→p:=by intro h;(try simp only[Act.put,List.setIfInBounds_toArray,List.set_cons_zero,List.set_cons_succ]);exact h):p:=e h
theorem Td (h:Q .normal a w) (hr:Region.ready md ops listed=[]:=by kernel_rfl):wpAnyH P md ops Q S fuel listed a w:=wpAnyH_done hr h _
theorem Rg {id:Nat} (hS:S w.drew) (h:S w.drew→wpAnyH P .any ops Q S ops.size (Array.replicate ops.size false) a w.drew) (hm:P.follows .mixedOrders=true:=by kernel_rfl):(Code.region id ops true).wp P Q a w:=wp_region_held_drew hm hS h
theorem Rk {id:Nat} (h:S w.drew→wpAnyH P .any ops Q S ops.size (Array.replicate ops.size false) a w.drew) (hS:S w.drew:=by go_keep) (hm:P.follows .mixedOrders=true:=by kernel_rfl):(Code.region id ops true).wp P Q a w:=wp_region_held_drew hm hS h
end
end
section
open ChangeShapes WideShapes ChangeAt RowKit
theorem own:ownKnob Tryz.prog.godebug=none:=by kernel_rfl
theorem laidOut:laidOutB Tryz.prog=true:=by kernel_rfl

theorem trodAll_later {H:Type} {enc:TypeId×Value→H} {P:Program} (i:laidOutB P=true) {W e:World} (g:av W e) :
  ∀ {ts:List TypeId} {j:List Value} {f:List (DataW H)} {c:List MemPlace},ts.all (fun t=>P.readableRec t&&decide (t<P.types.size))=true →
   DataW.TrodAll enc P W 0 (fun _=>true) true ts j f c→(∀ x∈c,x.block<W.heap.size)→DataW.TrodAll enc P e 0 (fun b=>decide (b<W.heap.size)) true ts j f c
 | [],_,_,_,_,h,_=>by
  obtain⟨rfl,rfl,rfl⟩:=trodAll_nil h;exact trodAll_mk0
 | t::ts,_,_,_,ha,h,hlt=>by
  obtain⟨v,vs',d,ds',p,q,rfl,rfl,rfl,k,l⟩:=trodAll_cons h;simp only[List.all_cons,Bool.and_eq_true,yZ]at ha;exact trodAll_cons_mk (Below.trod i ha.1.1 ha.1.2 k g (fun x a=>hlt x (yE _ a))) (trodAll_later i g (by simpa using ha.2) l (fun x a=>hlt x (Ec _ a)))

theorem law_post {H:Type} {enc:TypeId×Value→H} {f:Func} {s:ChangeSpec} {W j:World} {args:Array Value} {e m:List (DataW H)} {before:List MemPlace}
  (l:DataW.Whole enc Tryz.prog f.params.toList s.vars false W args.toList e m before) (d:f.params.toList.all (fun t=>Tryz.prog.readableRec t&&decide (t < Tryz.prog.types.size))=true)
  (a:s.vars=[]) (i:f.resultTypes=#[4]) (b:s.fn H e = { results:=[.lit (.bool true)],args:=e }) (hb:av W j) :
  s.post enc Tryz.prog f false true false false W args (.bool true) j:=by
 have c:=l;obtain⟨p,q,n,k,rfl,hfz,hnd⟩:=l;rw[a]at k;obtain⟨rfl,rfl⟩:=trodVars_none k
 have g:∀ x∈p,x.block<W.heap.size:=fun x r=>by simpa using c.lt x (by simpa using r)
 refine⟨e,[],p++[],[],p,[],c,?_,?_,?_,?_,fun h=>by cases h⟩
 ·rw[kR,b,i]
  exact trodAll_mk1 (shut_bool Tryz.underlying4 true)
 ·rw[kR,b]
  exact trodAll_later laidOut hb d n g
 ·rw[a,kR,b]
  rfl
 ·exact hb.frame _

theorem rd_of_cells {w:World} {a:Addr} {sz n c:Nat} {xs:List Value} (g:xs.length=n*sz) (m:n≤c) (k:∀ u∈xs,u.oneCell'=true) (f:0<sz) (h:∀ j u,xs[j]?=some u→w.cell? (a.add j)=some u):Rd w w.heap.size sz (some a) n c xs:=by
 refine⟨g,m,k,fun s=>?_⟩
 have e:0<xs.length:=by rw[g];exact Nat.mul_pos s f
 have d:=h 0 _ (v_ e)
 have i:a.spot=none:=by
  cases p:a.spot with
  | none=>rfl
  | some q=>
   simp only[Addr.add,if_true]at d;unfold World.cell? at d
   split at d
   ·rw[p]at d;simp at d
   ·cases d
 obtain⟨b,o,sp⟩:=a;dsimp only at i;subst i
 have l:b<w.heap.size:=by
  simp only[Addr.add,if_true]at d;exact aL w _ d
 refine⟨b,o,rfl,l,fun j u hu=>?_⟩;have:=h j u hu;unfold Addr.add at this
 split at this
 ·rename_i r;subst r;exact this
 ·exact this
theorem add_add' (a:Addr) (i j:Nat):(a.add i).add j=a.add (i+j):=by
 unfold Addr.add
 by_cases hi:i=0 <;> by_cases b:j=0 <;> simp[hi,b,Nat.add_assoc]
theorem flatMap_len {α:Type} {f:α→List Value} {sz:Nat} (b:∀ a,(f a).length=sz):∀ l:List α,(l.flatMap f).length=l.length*sz
 | []=>by simp
 | c::l=>by rw[tX,bP,b,flatMap_len b l,lY,Nat.succ_mul,Nat.add_comm]
theorem rd_of_trod {H:Type} {enc:TypeId×Value→H} {P:Program} {W:World} {t e:TypeId} {sz:Nat} {α:Type} (f:α→List Value) (B:∀ a,(f a).length=sz) (N:∀ a,∀ u∈f a,u.oneCell'=true) (F:0<sz)
  (S:P.underlying t=some (.slice e)) (i:P.cellsOf e=sz) (v:∀ n L y,DataW.trod enc P W 0 (fun _=>true) true n e L=some y→∃ a,L=f a)
  {A:Option Addr} {len cap:Nat} {fuel:Nat} {x:DataW H×List MemPlace} (h:DataW.trod enc P W 0 (fun _=>true) true fuel t (Value.slice A len cap).cells.toList=some x) :
  ∃ l:List α,l.length=len∧Rd W W.heap.size sz A len cap (l.flatMap f)∧len≤maxLen:=by
 rcases Deep.open_slice S h with ⟨c,_⟩ | ⟨a,len',cap',m,n,D,Pl,c,_,M,R,r,_,z⟩
 ·simp only[Value.cells]at c
  injection c with c;injection c with e1 g e3;subst e1;subst g;subst e3;exact⟨[],rfl,Rd.nil _,by simp[maxLen]⟩
 ·simp only[Value.cells]at c
  injection c with c;injection c with e1 g e3;subst e1;subst g;subst e3
  have s:m=cap:=by simpa using r
  clear r;subst s
  have J:∀ q,q≤len→∃ l:List α,l.length=q∧∀ k u,(l.flatMap f)[k]?=some u→W.cell? (a.add k)=some u:=by
   intro q
   induction q with
   | zero=>intro _;exact⟨[],rfl,by simp⟩
   | succ q U=>
    intro hq;obtain⟨l,p,d⟩:=U (by omega);obtain⟨cs',O,G⟩:=z q (by omega);obtain⟨b,rfl⟩:=v _ _ _ G;obtain⟨_,hlen,w⟩:=World.cells?_some O;refine⟨l++[b],by simp[p],fun k u hu=>?_⟩
    have C:(l.flatMap f).length=q*sz:=by
     rw[flatMap_len B,p]
    rw[List.flatMap_append]at hu
    rcases rU k (q*sz)with h5 | h5
    ·rw[List.getElem?_append_left (by omega)]at hu
     exact d k u hu
    ·rw[List.getElem?_append_right (by omega),C]at hu
     simp only[tX,List.flatMap_nil,kR]at hu
     have Q:k-q*sz<sz:=by
      have:=(List.getElem?_eq_some_iff.1 hu).1;rw[B]at this;exact this
     have:=w (k-q*sz) (by rw[i];exact Q);rw[add_add',i]at this
     have g:q*sz+(k-q*sz)=k:=by omega
     rw[g,hu]at this;exact this
  obtain⟨l,j,d⟩:=J len (bG);refine⟨l,j,rd_of_cells ?_ M ?_ F d,aN M R⟩
  ·rw[flatMap_len B,j]
  ·intro u hu
   obtain⟨b,_,hu⟩:=ol.1 hu;exact N b u hu
end
section
open Go.RowKit
structure K8 {K:Type} (lt:K→K→Prop):Prop where
 irr:∀ a,¬lt a a
 tr:∀ a b c,lt a b→lt b c→lt a c
 tri:∀ a b,lt a b∨a=b∨lt b a
theorem K8.asym {K:Type} {lt:K→K→Prop} (h:K8 lt) {a b:K} (c:lt a b):¬lt b a:=fun d=>h.irr a (h.tr _ _ _ c d)
def cK (a b:ByteArray):Prop:=Op.bytesLess a.toList b.toList=true
theorem mV:∀ l,Op.bytesLess l l=false
 | []=>rfl
 | a::l=>by
  have:=mV l;simp[Op.bytesLess,this]
theorem kW:∀ a b c,Op.bytesLess a b=true→Op.bytesLess b c=true→Op.bytesLess a c=true
 | _,[],_=>by intro h;cases ‹List UInt8› <;> simp[Op.bytesLess]at h
 | [],_::_,[]=>by intro _ h;simp[Op.bytesLess]at h
 | [],_::_,_::_=>by intro _ _;rfl
 | _::_,_::_,[]=>by intro _ h;simp[Op.bytesLess]at h
 | x::a,y::b,z::c=>by
  intro e d;simp only[Op.bytesLess,Bool.or_eq_true,Bool.and_eq_true,yZ,beq_iff_eq]at e d ⊢
  rcases e with e | ⟨rfl,e⟩
  ·rcases d with d | ⟨rfl,d⟩
   ·exact .inl (UInt8.lt_trans e d)
   ·exact .inl e
  ·rcases d with d | ⟨rfl,d⟩
   ·exact .inl d
   ·exact .inr ⟨rfl,kW a b c e d⟩
theorem iX:∀ a b,Op.bytesLess a b=true∨a=b∨Op.bytesLess b a=true
 | [],[]=>.inr (.inl rfl)
 | [],_::_=>.inl rfl
 | _::_,[]=>.inr (.inr rfl)
 | x::a,y::b=>by
  simp only[Op.bytesLess,Bool.or_eq_true,Bool.and_eq_true,yZ,beq_iff_eq]
  rcases Nat.lt_trichotomy x.toNat y.toNat with h | h | h
  ·exact .inl (.inl (UInt8.lt_iff_toNat_lt.2 h))
  ·have d:x=y:=UInt8.toNat_inj.1 h
   subst d
   rcases iX a b with c | c | c
   ·exact .inl (.inr ⟨rfl,c⟩)
   ·subst c;exact .inr (.inl rfl)
   ·exact .inr (.inr (.inr ⟨rfl,c⟩))
  ·exact .inr (.inr (.inl (UInt8.lt_iff_toNat_lt.2 h)))
theorem L8:K8 (fun a b:Int=>a<b):=⟨by intros;omega,by intros;omega,by intros;omega⟩
theorem qB {a b:ByteArray} (h:a.toList=b.toList):a=b:=by
 rw[nu,nu]at h;exact WideShapes.bytes_inj h
theorem aQ:K8 cK:=by
 refine⟨fun a h=>?_,fun a b c d e=>kW _ _ _ d e,fun a b=>?_⟩
 ·unfold cK at h;rw[mV]at h;cases h
 ·rcases iX a.toList b.toList with h | h | h
  ·exact .inl h
  ·exact .inr (.inl (qB h))
  ·exact .inr (.inr h)

section
variable {K:Type} {lt:K→K→Prop} {a b:K}
end

section
variable {K V:Type} {lt:K→K→Prop}
def Up (lt:K→K→Prop) (l:List (K×V)):Prop:=∀ i j (hi:i<l.length) (hj:j<l.length),i<j→lt l[i].1 l[j].1
def Place (lt:K→K→Prop) (l:List (K×V)) (t:K) (i:Nat):Prop:=i≤l.length∧(∀ k (h:k<l.length),k<i→lt l[k].1 t)∧(∀ k (h:k<l.length),i≤k→¬lt l[k].1 t)
def FO (lt:K→K→Prop) (l:List (K×V)) (t:K) (i:Nat):Prop:=Place lt l t i∧∃ h:i<l.length,l[i].1=t
def IK (lt:K→K→Prop) (l:List (K×V)) (t:K) (i:Nat):Prop:=Place lt l t i∧∀ h:i<l.length,l[i].1≠t
def Inv (lt:K→K→Prop) (l:List (K×V)) (t:K) (i j:Nat):Prop:=(∀ k (h:k<l.length),k<i→lt l[k].1 t)∧(∀ k (h:k<l.length),j≤k→¬lt l[k].1 t)
variable (T:K8 lt) {l:List (K×V)}
include T
theorem Inv.up (hu:Up lt l) {t:K} {i j m:Nat} (h:Inv lt l t i j) (n:m<l.length) (d:lt l[m].1 t):Inv lt l t (m+1) j:=
 ⟨fun k e hkm=>by
  rcases rU k m with c | c
  ·exact T.tr _ _ _ (hu k m e n c) d
  ·obtain rfl:k=m:=by omega
   exact d,h.2⟩
theorem Inv.down (hu:Up lt l) {t:K} {i j m:Nat} (h:Inv lt l t i j) (p:m<l.length) (d:¬lt l[m].1 t):Inv lt l t i m:=
 ⟨h.1,fun k n hkm=>by
  rcases rU m k with c | c
  ·exact fun e=>d (T.tr _ _ _ (hu m k p n c) e)
  ·obtain rfl:k=m:=by omega
   exact d⟩
theorem IK.all (hu:Up lt l) {t:K} {i:Nat} (h:IK lt l t i):∀ p∈l,p.1≠t:=by
 obtain⟨⟨hi,r,s⟩,u⟩:=h;intro p v d;obtain⟨k,m,rfl⟩:=qz v
 rcases rU k i with e | hge
 ·have:=r k m e;rw[d]at this;exact T.irr _ this
 ·have c:i<l.length:=by omega
  have n:=s i c (bG);have q:=u c
  rcases rU i k with j | j
  ·have:=hu i k c m j;rw[d]at this;exact n this
  ·obtain rfl:i=k:=by omega
   exact q d
omit T in
theorem FO.mem {t:K} {i:Nat} (h:FO lt l t i):∃ p∈l,p.1=t:=by
 obtain⟨_,hi,c⟩:=h;exact⟨l[i],bT hi,c⟩
end

section
variable {K V:Type} {lt:K→K→Prop}
end

-- the cells of elements of two cells each
section
variable {α:Type} (f g:α→Value)
end
end
section
open ChangeShapes WideShapes ChangeAt RowKit
namespace Dt
def GR (a:Int):Bool:=decide (0≤a∧a<4)
def ak (a n:Int):Bool:=decide (0≤a∧a<4∧1≤n∧n≤1099511627776)
def mq (a b:Int):Int:=if a<b then -1 else if b<a then 1 else 0
def lH (a n b m:Int):Int:=if a<b∨(a=b∧n<m)then -1 else if a=b∧n=m then 0 else 1
def kI (a n b m:Int):Bool:=decide (a<b∨(a=b∧n<m))
theorem wu {a b:Int} (h:a<b):mq a b = -1:=by unfold mq;rw[if_pos h]
theorem AA {a b:Int} (h:b<a):mq a b=1:=by unfold mq;rw[if_neg (by omega),if_pos h]
theorem vZ (a:Int):mq a a=0:=by unfold mq;rw[if_neg (by omega),if_neg (by omega)]
theorem KL (a b:Int):(a<b∧mq a b = -1)∨(a=b∧mq a b=0)∨(b<a∧mq a b=1):=by
 rcases Int.lt_trichotomy a b with h | rfl | h
 ·exact .inl ⟨h,wu h⟩
 ·exact .inr (.inl ⟨rfl,vZ _⟩)
 ·exact .inr (.inr ⟨h,AA h⟩)
theorem aj {a b:Bool} (h:a=b):Ending.returned (.bool a) = .returned (.bool b):=by rw[h]
theorem BB {a b:Int} (h:a=b):Ending.returned (.int .i64 a) = .returned (.int .i64 b):=by rw[h]
theorem ow (a:Int) (w:World):Calls Tryz.prog 191 #[.int .i64 a] w fun e w'=>e = .returned (.bool (GR a))∧w=w':=by
 unfold GR
 by_cases c:0≤a
 ·by_cases f:a<4
  ·have b:decide (0≤a)=true:=by simpa using c
   have d:decide (a<4)=true:=by simpa using f
   go_enter Tryz.func191,Tryz.ntmps191;go_wp2;go_ret
   exact⟨aj (by simp <;> omega),rfl⟩
  ·have b:decide (0≤a)=true:=by simpa using c
   have d:decide (a<4)=false:=by simp;omega
   go_enter Tryz.func191,Tryz.ntmps191;go_wp2;go_ret
   exact⟨aj (by simp <;> omega),rfl⟩
 ·have b:decide (0≤a)=false:=by simp;omega
  go_enter Tryz.func191,Tryz.ntmps191;go_wp2;go_ret
  exact⟨aj (by simp <;> omega),rfl⟩

theorem ay (w:World) (x:Array Value) (t:TypeId):av w (w.alloc (.cells x t)):=(bN).alloc (bG) _
set_option maxHeartbeats 400000 in
theorem fD (a n:Int) (w:World):Calls Tryz.prog 163 #[.agg #[.int .i64 a,.int .i64 n]] w fun e w'=>e = .returned (.bool (ak a n))∧av w w':=by
 by_cases b:GR a=true
 ·by_cases f:1≤n
  ·by_cases h:n≤1099511627776
   ·have d:decide (1≤n)=true:=by simpa using f
    have g:decide (n≤1099511627776)=true:=by simpa using h
    go_enter Tryz.func163,Tryz.ntmps163;go_wp2_with (go_at_call 191;refine (ow _ _).mono ?_;rw[b];rintro e w' ⟨rfl,rfl⟩);go_ret;exact⟨aj (by unfold GR at b;unfold ak;simp at *;omega),ay _ _ _⟩
   ·have d:decide (1≤n)=true:=by simpa using f
    have g:decide (n≤1099511627776)=false:=by simp;omega
    go_enter Tryz.func163,Tryz.ntmps163;go_wp2_with (go_at_call 191;refine (ow _ _).mono ?_;rw[b];rintro e w' ⟨rfl,rfl⟩);go_ret;exact⟨aj (by unfold ak;simp;omega),ay _ _ _⟩
  ·have d:decide (1≤n)=false:=by simp;omega
   go_enter Tryz.func163,Tryz.ntmps163;go_wp2_with (go_at_call 191;refine (ow _ _).mono ?_;rw[b];rintro e w' ⟨rfl,rfl⟩);go_ret;exact⟨aj (by unfold ak;simp;omega),ay _ _ _⟩
 ·have c:GR a=false:=by simpa using b
  go_enter Tryz.func163,Tryz.ntmps163;go_wp2_with (go_at_call 191;refine (ow _ _).mono ?_;rw[c];rintro e w' ⟨rfl,rfl⟩);go_ret;exact⟨aj (by unfold GR at c;unfold ak;simp at *;omega),ay _ _ _⟩
set_option maxHeartbeats 400000 in
theorem gN (a n:Int) (w:World):Calls Tryz.prog 80 #[.agg #[.int .i64 a,.int .i64 n]] w fun e w'=>e = .returned (.bool (ak a n))∧av w w':=by
 by_cases g:0≤a
 ·have d:decide (0≤a)=true:=by simpa using g
  by_cases j:a<4
  ·have f:decide (a<4)=true:=by simpa using j
   by_cases h:1≤n
   ·have b:decide (1≤n)=true:=by simpa using h
    by_cases i:n≤1099511627776
    ·have c:decide (n≤1099511627776)=true:=by simpa using i
     go_enter Tryz.func80,Tryz.ntmps80;go_wp2;go_ret;exact⟨aj (by unfold ak;simp;omega),ay _ _ _⟩
    ·have c:decide (n≤1099511627776)=false:=by simp;omega
     go_enter Tryz.func80,Tryz.ntmps80;go_wp2;go_ret;exact⟨aj (by unfold ak;simp;omega),ay _ _ _⟩
   ·have b:decide (1≤n)=false:=by simp;omega
    go_enter Tryz.func80,Tryz.ntmps80;go_wp2;go_ret;exact⟨aj (by unfold ak;simp;omega),ay _ _ _⟩
  ·have f:decide (a<4)=false:=by simp;omega
   go_enter Tryz.func80,Tryz.ntmps80;go_wp2;go_ret;exact⟨aj (by unfold ak;simp;omega),ay _ _ _⟩
 ·have d:decide (0≤a)=false:=by simp;omega
  go_enter Tryz.func80,Tryz.ntmps80;go_wp2;go_ret;exact⟨aj (by unfold ak;simp;omega),ay _ _ _⟩
end Dt
end
section
namespace Tr
structure E where
 a:Int
 n:Int
 s:ByteArray
 v:Int
inductive T where
 | mk (es:List E) (ks:List (ByteArray×T)):T
def T.es:T→List E | .mk e _=>e
def T.ks:T→List (ByteArray×T) | .mk _ k=>k
def none_:T:=.mk [] []
theorem T.eta (t:T):T.mk t.es t.ks=t:=by cases t;rfl
theorem xq {es:List E} {ks:List (ByteArray×T)} {k:ByteArray×T} (h:k∈ks):SizeOf.sizeOf k.2<SizeOf.sizeOf (T.mk es ks):=by
 have a:=List.sizeOf_lt_of_mem h
 cases k
 simp at a ⊢
 omega
theorem T.ind {P:T→Prop} (h:∀ es ks,(∀ k∈ks,P k.2)→P (.mk es ks)):∀ t,P t
 | .mk es ks=>h es ks fun k _hk=>T.ind h k.2
termination_by t=>SizeOf.sizeOf t
decreasing_by exact xq _hk
def leaves:T→List (List ByteArray×E)
 | .mk es ks=>es.map (fun e=>([],e))++ks.attach.flatMap (fun k=>(leaves k.1.2).map fun x=>(k.1.1::x.1,x.2))
termination_by t=>SizeOf.sizeOf t
decreasing_by exact xq k.2
theorem BP {α β:Type} (l:List α) (f:α→List β):l.attach.flatMap (fun k=>f k.1)=l.flatMap f:=by
 conv=>rhs;rw[← List.attach_map_subtype_val l]
 rw[List.flatMap_map]
def below (ks:List (ByteArray×T)):List (List ByteArray×E):=ks.flatMap fun k=>(leaves k.2).map fun x=>(k.1::x.1,x.2)
theorem dL (es:List E) (ks:List (ByteArray×T)):leaves (.mk es ks)=es.map (fun e=>([],e))++below ks:=by
 rw[leaves];unfold below;rw[BP ks fun k=>(leaves k.2).map fun x=>(k.1::x.1,x.2)]
def nodes:T→Nat
 | .mk es ks=>es.length+ks.length+(ks.attach.map fun k=>nodes k.1.2).sum
termination_by t=>SizeOf.sizeOf t
decreasing_by exact xq k.2
theorem bJ (es:List E) (ks:List (ByteArray×T)):nodes (.mk es ks)=es.length+ks.length+(ks.map fun k=>nodes k.2).sum:=by
 rw[nodes]
 congr 2
 conv=>rhs;rw[← List.attach_map_subtype_val ks]
 rw[List.map_map];rfl
inductive LenT (m:Nat):T→Prop where
 | mk {es:List E} {ks:List (ByteArray×T)} : es.length≤m→ks.length≤m→(∀ k∈ks,LenT m k.2)→LenT m (.mk es ks)
theorem LenT.es {m:Nat} {es:List E} {ks:List (ByteArray×T)} (h:LenT m (.mk es ks)):es.length≤m:=by cases h;assumption
theorem LenT.ks {m:Nat} {es:List E} {ks:List (ByteArray×T)} (h:LenT m (.mk es ks)):ks.length≤m:=by cases h;assumption
theorem LenT.yH {m:Nat} {es:List E} {ks:List (ByteArray×T)} (h:LenT m (.mk es ks)) {k:ByteArray×T} (b:k∈ks):LenT m k.2:=by
 cases h with
 | mk _ _ a=>exact a k b
theorem pX {α:Type} {f:α→Nat} : ∀ {l:List α} {a:α},a∈l→f a≤(l.map f).sum
 | b::l,a,h=>by
  rw[List.map_cons,om]
  rcases jJ.1 h with rfl | h
  ·omega
  ·have:=pX (f:=f) h
   omega
theorem bE (es:List E) (ks:List (ByteArray×T)):es.length+ks.length≤nodes (.mk es ks):=by rw[bJ];omega
theorem dM {es:List E} {ks:List (ByteArray×T)} {k:ByteArray×T} (h:k∈ks):nodes k.2≤nodes (.mk es ks):=by
 have:=pX (f:=fun k:ByteArray×T=>nodes k.2) h;rw[bJ];omega
theorem rD (es:List E) (ks:List (ByteArray×T)):(leaves (.mk es ks)).length=es.length+(ks.map fun k=>(leaves k.2).length).sum:=by
 rw[dL,bP,eP]
 congr 1
 unfold below;rw[List.length_flatMap];simp
theorem y7 {α:Type} {f g:α→Nat} : ∀ {l:List α},(∀ a∈l,f a≤g a)→(l.map f).sum≤(l.map g).sum
 | [],_=>bG
 | b::l,h=>by
  rw[List.map_cons,om,List.map_cons,om];have:=h b fA;have:=y7 (f:=f) (g:=g) fun a c=>h a (gY _ c);omega
theorem dw (t:T):(leaves t).length≤nodes t:=by
 induction t using T.ind with
 | h es ks ih=>
  rw[rD,bJ];have:=y7 ih;omega
def mX (x y:E):Prop:=Dt.kI x.a x.n y.a y.n=true
theorem wF {x y:E} : mX x y↔(x.a<y.a∨(x.a=y.a∧x.n<y.n)):=by unfold mX Dt.kI;exact eG
theorem Bf {x y z:E} (h1:mX x y) (h2:mX y z):mX x z:=by rw[wF]at *;omega
theorem sP (x:E):¬mX x x:=by rw[wF];omega
def dR (e:E):Prop:=Dt.ak e.a e.n=true∧e.s.size≤30 ∧ -1099511627776≤e.v∧e.v≤1099511627776
def iV (k:ByteArray):Prop:=1≤k.size∧k.size≤30
def au:Nat→T→Prop
 | 0,_=>False
 | d+1,.mk es ks=>(∀ e∈es,dR e)∧es.Pairwise mX∧ks.Pairwise (fun x y=>cK x.1 y.1)∧∀ k∈ks,iV k.1∧¬(k.2.es=[]∧k.2.ks=[])∧au d k.2
theorem au.more:∀ {d:Nat} {t:T},au d t→au (d+1) t
 | _+1,.mk _ _,h=>⟨h.1,h.2.1,h.2.2.1,fun k a=>⟨(h.2.2.2 k a).1,(h.2.2.2 k a).2.1,au.more (h.2.2.2 k a).2.2⟩⟩
theorem au.none {d:Nat} : au (d+1) none_:=⟨by simp,by simp,by simp,by simp⟩
theorem vI:∀ {d:Nat} {t:T},au d t→¬(t.es=[]∧t.ks=[])→leaves t≠[]
 | d+1,.mk es ks,h,hn=>by
  rw[dL]
  cases es with
  | cons e es=>simp
  | nil=>
   cases ks with
   | nil=>exact absurd ⟨rfl,rfl⟩ hn
   | cons k ks=>
    obtain⟨_,b,c⟩:=h.2.2.2 k fA;have:=vI c b;intro a;simp[below]at a;exact this a.1
def under (l:List (List ByteArray×E)) (key:ByteArray):List (List ByteArray×E):=l.filterMap fun x=>match x.1 with
 | []=>none
 | k::p=>if k=key then some (p,x.2)else none
theorem oP (a b:List (List ByteArray×E)) (key:ByteArray):under (a++b) key=under a key++under b key:=by simp[under]
theorem I_ (es:List E) (key:ByteArray):under (es.map fun e=>([],e)) key=[]:=by
 induction es with
 | nil=>rfl
 | cons e es ih=>simp[under]
theorem I7 (k:ByteArray) (l:List (List ByteArray×E)) (key:ByteArray):under (l.map fun x=>(k::x.1,x.2)) key=if k=key then l else []:=by
 induction l with
 | nil=>simp[under]
 | cons x l a=>
  have e:under ((x::l).map fun x=>(k::x.1,x.2)) key=(if k=key then [x]else [])++under (l.map fun x=>(k::x.1,x.2)) key:=by
   unfold under
   by_cases h:k=key <;> simp[h]
  rw[e,a]
  by_cases h:k=key <;> simp[h]
def aR:List (ByteArray×T)→ByteArray→T
 | [],_=>none_
 | k::ks,key=>if k.1=key then k.2 else aR ks key
theorem ji:leaves none_=[]:=by unfold none_;rw[dL];rfl
theorem zK {ks:List (ByteArray×T)} {key:ByteArray} (h:∀ k∈ks,k.1≠key):aR ks key=none_:=by
 induction ks with
 | nil=>rfl
 | cons k ks b=>
  unfold aR;rw[if_neg (h k fA)];exact b fun k a=>h k (gY _ a)
theorem vQ:∀ {ks:List (ByteArray×T)} (key:ByteArray),ks.Pairwise (fun x y=>cK x.1 y.1)→under (below ks) key=leaves (aR ks key)
 | [],key,_=>by unfold below aR;rw[ji];rfl
 | k::ks,key,h=>by
  rw[fq]at h;have f:=vQ key h.2
  have e:below (k::ks)=((leaves k.2).map fun x=>(k.1::x.1,x.2))++below ks:=by unfold below;rw[tX]
  rw[e,oP,I7,f]
  by_cases a:k.1=key
  ·have c:aR ks key=none_:=zK fun x d b=>aQ.irr key (by have:=h.1 x d;rwa [a,b]at this)
   rw[if_pos a,c,ji,kR];unfold aR;rw[if_pos a]
  ·rw[if_neg a,List.nil_append]
   conv=>rhs;unfold aR
   rw[if_neg a]
theorem oQ {d:Nat} {t:T} (h:au d t) (key:ByteArray):under (leaves t) key=leaves (aR t.ks key):=by
 cases d with
 | zero=>exact h.elim
 | succ d=>
  cases t with
  | mk es ks=>
   rw[dL,oP,I_,List.nil_append,vQ key h.2.2.1];rfl
theorem jQ {ks:List (ByteArray×T)} {key:ByteArray} : (∃ k∈ks,k.1=key∧aR ks key=k.2)∨((∀ k∈ks,k.1≠key)∧aR ks key=none_):=by
 induction ks with
 | nil=>exact .inr ⟨by simp,rfl⟩
 | cons k ks e=>
  unfold aR
  by_cases h:k.1=key
  ·rw[if_pos h]
   exact .inl ⟨k,fA,h,rfl⟩
  ·rw[if_neg h]
   rcases e with ⟨x,a,b,d⟩ | ⟨a,b⟩
   ·exact .inl ⟨x,gY _ a,b,d⟩
   ·refine .inr ⟨fun x c=>?_,b⟩
    rcases jJ.1 c with rfl | c
    ·exact h
    ·exact a x c
theorem au.yH {d:Nat} {t:T} (h:au (d+1) t) (key:ByteArray):au (d+1) (aR t.ks key):=by
 cases t with
 | mk es ks=>
  rcases jQ (ks:=ks) (key:=key)with ⟨k,a,_,b⟩ | ⟨_,h2⟩
  ·show au (d+1) (aR ks key)
   rw[b];exact (h.2.2.2 k a).2.2.more
  ·show au (d+1) (aR ks key)
   rw[h2];exact au.none
def aI (t:T):List ByteArray→T
 | []=>t
 | k::p=>aI (aR t.ks k) p
def bF (t:T):List ByteArray→T
 | []=>t
 | k::p=>.mk [] [(k,bF t p)]
theorem vJ (t:T):∀ p:List ByteArray,leaves (bF t p)=(leaves t).map fun x=>(p++x.1,x.2)
 | []=>by unfold bF;simp
 | k::p=>by
  unfold bF;rw[dL];unfold below;rw[tX,vJ t p];simp
theorem Cn (t:T):∀ p:List ByteArray,aI (bF t p) p=t
 | []=>rfl
 | k::p=>by
  unfold aI bF;show aI (aR [(k,bF t p)] k) p=t;unfold aR;rw[if_pos rfl];exact Cn t p
theorem Aq {t:T} (h:¬(t.es=[]∧t.ks=[])):∀ p:List ByteArray,¬((bF t p).es=[]∧(bF t p).ks=[])
 | []=>h
 | k::p=>by unfold bF;intro a;cases a.2
theorem au.wrap {d:Nat} {t:T} (h:au d t) (b:¬(t.es=[]∧t.ks=[])):∀ {p:List ByteArray},(∀ k∈p,iV k)→au (d+p.length) (bF t p)
 | [],_=>h
 | k::p,hk=>by
  unfold bF;refine⟨by simp,by simp,by simp,fun x c=>?_⟩;rw[eX.1 c];exact⟨hk k fA,Aq b p,au.wrap h b fun k a=>hk k (gY _ a)⟩
def nL (f:ByteArray→Bool) (ks:List (ByteArray×T)):List (ByteArray×T):=ks.filter fun k=>f k.1
theorem au.keep {d:Nat} {es:List E} {ks:List (ByteArray×T)} (h:au (d+1) (.mk es ks)) (f:ByteArray→Bool):au (d+1) (.mk es (nL f ks)):=
 ⟨h.1,h.2.1,h.2.2.1.sublist List.filter_sublist,fun k a=>h.2.2.2 k (qR.1 a).1⟩
def pF {α:Type} (lt:α→α→Prop) (l:List α) (i:Nat) (x:α):Prop:=∀ (_:0<i) (hi:i-1<l.length),lt l[i-1] x
def bq {α:Type} (lt:α→α→Prop) (m:List α) (above:α→Prop):Option α→Prop
 | none=>∀ x∈m,¬above x
 | some b=>b∈m∧above b∧∀ x∈m,above x→¬lt x b
theorem BD {α:Type} {lt:α→α→Prop} {l:List α} (h:l.Pairwise lt) {i j:Nat} (a:i<j) (b:j<l.length):lt (l[i]'(by omega)) l[j]:=tV.1 h i j (by omega) b a
theorem xw {α:Type} {lt:α→α→Prop} (p:∀ a,¬lt a a) (y:∀ a b c,lt a b→lt b c→lt a c) {l m:List α} (u:∀ x,x∈m↔x∈l) (h:l.Pairwise lt) {i:Nat} (hi:i≤l.length) {r:Option α} (v:bq lt m (pF lt l i) r):r=l[i]?:=by
 have d:∀ (j:Nat) (n:j<l.length),pF lt l i l[j]↔i≤j:=fun j n=>by
  constructor
  ·intro w
   rcases rU j i with f | g
   ·have k:=w (by omega) (by omega)
    rcases rU j (i-1)with q | q
    ·exact absurd (y _ _ _ k (BD h q (by omega))) (p _)
    ·have e:i-1=j:=by omega
     have s:lt l[i-1] l[i-1]:=by
      have:l[j]=l[i-1]:=by congr 1;omega
      rw[this]at k;exact k
     exact absurd s (p _)
   ·exact g
  ·intro t h0 k
   exact BD h (by omega) n
 cases r with
 | none=>
  rw[List.getElem?_eq_none]
  rcases rU i l.length with f | g
  ·exact absurd ((d i f).2 (bG)) (v _ ((u _).2 (bT f)))
  ·exact g
 | some b=>
  obtain⟨k,q,s⟩:=v;obtain⟨j,n,rfl⟩:=qz ((u _).1 k);have t:=(d j n).1 q
  rcases rU i j with f | g
  ·exact absurd (BD h f n) (s _ ((u _).2 (bT (by omega))) ((d i (by omega)).2 (bG)))
  ·have e:j=i:=by omega
   subst e;rw[v_ n]
def fQ (l:List (List ByteArray×E)):List E:=l.filterMap fun x=>match x.1 with | []=>some x.2 | _::_=>none
def iD (l:List (List ByteArray×E)):List ByteArray:=l.filterMap fun x=>match x.1 with | []=>none | k::_=>some k
theorem Dx (ks:List (ByteArray×T)):fQ (below ks)=[]:=by
 unfold fQ below;rw[List.filterMap_eq_nil_iff];intro x a;obtain⟨k,_,a⟩:=ol.1 a;obtain⟨y,_,rfl⟩:=dH.1 a;rfl
theorem tH (es:List E) (ks:List (ByteArray×T)):fQ (leaves (.mk es ks))=es:=by
 rw[dL];unfold fQ;rw[List.filterMap_append];have a:=Dx ks;unfold fQ at a;rw[a,kR,List.filterMap_map];exact List.filterMap_some
theorem sG {d:Nat} {es:List E} {ks:List (ByteArray×T)} (h:au (d+1) (.mk es ks)) (k:ByteArray):k∈iD (leaves (.mk es ks))↔k∈ks.map (fun x=>x.1):=by
 unfold iD;rw[List.mem_filterMap];constructor
 ·rintro⟨x,a,b⟩
  rw[dL]at a
  rcases fO.1 a with a | a
  ·obtain⟨e,_,rfl⟩:=dH.1 a
   cases b
  ·obtain⟨y,c,a⟩:=ol.1 a
   obtain⟨z,_,rfl⟩:=dH.1 a;injection b with b;subst b;exact dH.2 ⟨y,c,rfl⟩
 ·intro j
  obtain⟨y,c,rfl⟩:=dH.1 j;obtain⟨_,f,g⟩:=h.2.2.2 y c;have i:=vI g f;obtain⟨z,l⟩:=List.exists_mem_of_ne_nil _ i;refine⟨(y.1::z.1,z.2),?_,rfl⟩;rw[dL];exact Ec _ (ol.2 ⟨y,c,dH.2 ⟨z,l,rfl⟩⟩)
end Tr
namespace Sp
def aB:Int→List (Int×Int)→Prop
 | _,[]=>True
 | m,r::l=>m≤r.1∧r.1≤r.2∧r.2≤1099511627776∧aB (r.2+2) l
instance decR:∀ (m:Int) (l:List (Int×Int)),Decidable (aB m l)
 | _,[]=>.isTrue trivial
 | m,r::l=>by
  unfold aB;have:=decR (r.2+2) l;exact inferInstance
def ak (l:List (Int×Int)):Bool:=decide (aB 1 l)
def hasB (l:List (Int×Int)) (n:Int):Bool:=l.any fun r=>decide (r.1≤n∧n≤r.2)
theorem di (r:Int×Int) (l:List (Int×Int)) (n:Int):hasB (r::l) n=(decide (r.1≤n∧n≤r.2)||hasB l n):=rfl
theorem fT (n:Int):hasB [] n=false:=rfl
theorem dB (a b:List (Int×Int)) (n:Int):hasB (a++b) n=(hasB a n||hasB b n):=by simp[hasB]
theorem lM {l:List (Int×Int)} {n:Int} : hasB l n=true↔∃ r∈l,r.1≤n∧n≤r.2:=by simp[hasB]
theorem jh {l:List (Int×Int)} {n:Int} : hasB l n=false↔∀ r∈l,¬(r.1≤n∧n≤r.2):=by
 simp[hasB]
theorem aB.mono {m a:Int} (hm:a≤m):∀ {l:List (Int×Int)},aB m l→aB a l
 | [],_=>trivial
 | r::l,h=>by obtain⟨h1,b,c,d⟩:=h;exact⟨by omega,b,c,d⟩
theorem aB.mem:∀ {l:List (Int×Int)} {m:Int},aB m l→∀ r∈l,m≤r.1∧r.1≤r.2∧r.2≤1099511627776
 | [],_,_,r,a=>by simp at a
 | q::l,m,h,r,a=>by
  obtain⟨b,c,d,e⟩:=h
  rcases jJ.1 a with rfl | a
  ·exact⟨b,c,d⟩
  ·have:=aB.mem e r a
   exact⟨by omega,this.2⟩
theorem pW {l:List (Int×Int)} {m n:Int} (h:aB m l) (hn:n<m):hasB l n=false:=
 jh.2 fun r a=>by have:=h.mem r a;omega
theorem Jy {l:List (Int×Int)} {m n:Int} (h:aB m l) (hn:1099511627776<n):hasB l n=false:=
 jh.2 fun r a=>by have:=h.mem r a;omega
theorem E9 {l:List (Int×Int)} {n:Int} (h:aB 1 l) (a:hasB l n=true):1≤n∧n≤1099511627776:=by
 obtain⟨r,b,h1,h2⟩:=lM.1 a;have:=h.mem r b;omega
theorem ext:∀ {a b:List (Int×Int)} {m t:Int},aB m a→aB t b→(∀ n,hasB a n=hasB b n)→a=b
 | [],[],_,_,_,_,_=>rfl
 | [],r::b,_,_,_,h,he=>by
  have:=he r.1;rw[fT,di]at this;obtain⟨_,p,_⟩:=h;simp[p]at this
 | r::a,[],_,_,h,_,he=>by
  have:=he r.1;rw[fT,di]at this;obtain⟨_,p,_⟩:=h;simp[p]at this
 | (x,y)::a,(u,v)::b,m,t,ha,hb,he=>by
  obtain⟨w,z,A,f⟩:=ha;obtain⟨B,C,D,g⟩:=hb;dsimp only at w z A f B C D g
  have c:∀ {l:List (Int×Int)} {x y n:Int},aB (y+2) l→n≤y+1→hasB ((x,y)::l) n=decide (x≤n∧n≤y):=by
   intro l x y n h F;rw[di,pW h (by omega),Bool.or_false]
  have q:x=u:=by
   have i:=he x;have j:=he u
   rcases Int.lt_trichotomy x u with h | h | h
   ·rw[c f (by omega),c g (by omega)]at i
    have d:decide (x≤x∧x≤y)=true:=by simp;omega
    have k:decide (u≤x∧x≤v)=false:=by simp;omega
    rw[d,k]at i
    cases i
   ·exact h
   ·rw[c f (by omega),c g (by omega)]at j
    have d:decide (x≤u∧u≤y)=false:=by simp;omega
    have k:decide (u≤u∧u≤v)=true:=by simp;omega
    rw[d,k]at j
    cases j
  subst q
  have s:y=v:=by
   have i:=he (y+1);have j:=he (v+1)
   rcases Int.lt_trichotomy y v with h | h | h
   ·rw[c f (by omega),c g (by omega)]at i
    have d:decide (x≤y+1∧y+1≤y)=false:=by simp;omega
    have k:decide (x≤y+1∧y+1≤v)=true:=by simp;omega
    rw[d,k]at i
    cases i
   ·exact h
   ·rw[c f (by omega),c g (by omega)]at j
    have d:decide (x≤v+1∧v+1≤v)=false:=by simp;omega
    have k:decide (x≤v+1∧v+1≤y)=true:=by simp;omega
    rw[d,k]at j
    cases j
  subst s
  have:a=b:=by
   refine ext f g fun n=>?_
   by_cases F:n≤y
   ·rw[pW f (by omega),pW g (by omega)]
   ·have e:=he n
    rw[di,di]at e
    have d:decide (x≤n∧n≤y)=false:=by simp;omega
    simpa [d] using e
  rw[this]
theorem aB.snoc:∀ {l:List (Int×Int)} {m:Int},aB m l→∀ {r:Int×Int},(∀ q∈l,q.2+2≤r.1)→m≤r.1→r.1≤r.2→r.2≤1099511627776→aB m (l++[r])
 | [],_,_,_,_,h1,h2,h3=>⟨h1,h2,h3,trivial⟩
 | q::l,_,h,r,hq,_,h2,h3=>by
  obtain⟨a,b,c,d⟩:=h;exact⟨a,b,c,aB.snoc d (fun p e=>hq p (gY _ e)) (hq q fA) h2 h3⟩
theorem aB.oL:∀ {l:List (Int×Int)} {m:Int} {r:Int×Int},aB m (l++[r])→aB m l∧(∀ q∈l,q.2+2≤r.1)∧m≤r.1∧r.1≤r.2∧r.2≤1099511627776
 | [],_,_,h=>⟨trivial,by simp,h.1,h.2.1,h.2.2.1⟩
 | q::l,_,r,h=>by
  obtain⟨b,c,d,e⟩:=h;obtain⟨f,g,i,j,k⟩:=aB.oL e;refine⟨⟨b,c,d,f⟩,fun p a=>?_,by omega,j,k⟩
  rcases jJ.1 a with rfl | a
  ·exact i
  ·exact g p a
def edge:List (Int×Int)→Nat→Int
 | [],_=>1099511627778
 | r::_,0=>r.1
 | r::_,1=>r.2+1
 | _::l,i+2=>edge l i
theorem nC:∀ {l:List (Int×Int)} {i:Nat},2*l.length≤i→edge l i=1099511627778
 | [],_,_=>rfl
 | r::l,0,h=>by simp at h
 | r::l,1,h=>by simp at h;omega
 | r::l,i+2,h=>nC (l:=l) (i:=i) (by simp at h;omega)
theorem z_:∀ {l:List (Int×Int)} {k:Nat} (h:k<l.length),edge l (2*k)=l[k].1
 | r::l,0,_=>rfl
 | r::l,k+1,h=>by
  rw[show 2*(k+1)=2*k+2 from by omega];show edge l (2*k)=_;rw[z_ (by simpa using h)];rfl
theorem Cg:∀ {l:List (Int×Int)} {k:Nat} (h:k<l.length),edge l (2*k+1)=l[k].2+1
 | r::l,0,_=>rfl
 | r::l,k+1,h=>by
  rw[show 2*(k+1)+1=2*k+1+2 from by omega];show edge l (2*k+1)=_;rw[Cg (by simpa using h)];rfl
theorem o_:∀ {l:List (Int×Int)} {m:Int} {i:Nat},aB m l→i<2*l.length→m≤edge l i∧edge l i≤1099511627777
 | [],_,_,_,h=>by simp at h
 | r::l,m,0,h,_=>by obtain⟨a,b,c,_⟩:=h;exact⟨a,by show r.1≤_;omega⟩
 | r::l,m,1,h,_=>by obtain⟨a,b,c,_⟩:=h;exact⟨by show m≤r.2+1;omega,by show r.2+1≤_;omega⟩
 | r::l,m,i+2,h,hi=>by
  obtain⟨a,b,c,d⟩:=h;have:=o_ (i:=i) d (by simp at hi;omega);exact⟨by show m≤edge l i;omega,this.2⟩
theorem su {l:List (Int×Int)} (h:aB 1 l) (i:Nat):1≤edge l i∧edge l i≤1099511627778:=by
 by_cases hi:i<2*l.length
 ·have:=o_ h hi;omega
 ·rw[nC (by omega)];omega
theorem AQ:∀ {l:List (Int×Int)} {m:Int} {i:Nat},aB m l→i<2*l.length→edge l i<edge l (i+1)
 | [],_,_,_,h=>by simp at h
 | r::l,m,0,h,_=>by obtain⟨b,c,d,_⟩:=h;show r.1<r.2+1;omega
 | r::l,m,1,h,_=>by
  obtain⟨b,c,d,a⟩:=h;show r.2+1<edge l 0
  cases l with
  | nil=>show _<(1099511627778:Int);omega
  | cons q l=>have:=a.1;show _<q.1;omega
 | r::l,m,i+2,h,hi=>by
  obtain⟨b,c,d,a⟩:=h;exact AQ (l:=l) (i:=i) a (by simp at hi;omega)
theorem r9:∀ {l:List (Int×Int)} {m:Int} {k:Nat} {n:Int},aB m l→k≤2*l.length→(k=0∨edge l (k-1)≤n)→(k=2*l.length∨n<edge l k)→hasB l n=decide (k % 2=1)
 | [],_,k,n,_,hk,_,_=>by
  have:k=0:=by simpa using hk
  subst this;rfl
 | r::l,m,0,n,h,_,_,a=>by
  have a:n<r.1:=by
   rcases a with a | a
   ·simp at a
   ·exact a
  obtain⟨d,f,g,c⟩:=h;rw[di,pW c (by omega)]
  simp;omega
 | r::l,m,1,n,h,_,b,a=>by
  obtain⟨d,f,g,c⟩:=h
  have b:r.1≤n:=by
   rcases b with b | b
   ·omega
   ·exact b
  have a:n<r.2+1:=by
   rcases a with a | a
   ·simp at a;omega
   ·exact a
  rw[di]
  simp;left;omega
 | r::l,m,k+2,n,h,hk,b,a=>by
  obtain⟨d,f,g,c⟩:=h
  have hl:r.2<n:=by
   rcases b with b | b
   ·omega
   ·cases k with
    | zero=>have:r.2+1≤n:=b;omega
    | succ k=>
     have b:edge l k≤n:=b;have:=o_ (i:=k) c (by simp at hk;omega);omega
  have j:=r9 (l:=l) (k:=k) (n:=n) c (by simp at hk;omega)
   (by
    rcases b with b | b
    ·omega
    ·cases k with
     | zero=>exact .inl rfl
     | succ k=>exact .inr b)
   (by
    rcases a with a | a
    ·left;simp at a;omega
    ·exact .inr a)
  rw[di,j]
  have e:decide (r.1≤n∧n≤r.2)=false:=by simp;omega
  rw[e,Bool.false_or]
  have:(k+2) % 2=k % 2:=by omega
  rw[this]
structure Put (f:Bool→Bool→Bool) (a b l:List (Int×Int)):Prop where
 right:aB 1 l
 has:∀ n,hasB l n=f (hasB a n) (hasB b n)
 len:l.length≤a.length+b.length
theorem Put.eq {f:Bool→Bool→Bool} {a b l d:List (Int×Int)} (h:Put f a b l) (c:Put f a b d):l=d:=ext h.right c.right fun n=>by rw[h.has,c.has]
structure Join (f:Bool→Bool→Bool) (a b:List (Int×Int)) (i j:Nat) (p:Int) (done:List (Int×Int)) (s:Int) (within:Bool):Prop where
 hi:i≤2*a.length
 hj:j≤2*b.length
 pi:i=0∨edge a (i-1)≤p
 pj:j=0∨edge b (j-1)≤p
 ni:p<edge a i
 nj:p<edge b j
 w:within=f (decide (i % 2=1)) (decide (j % 2=1))
 right:aB 1 done
 ends:∀ r∈done,r.2+1≤p
 open_:within=true→1≤s∧s≤p∧∀ r∈done,r.2+2≤s
 has:∀ n,n≤p→(hasB done n||(within&&decide (s≤n)))=f (hasB a n) (hasB b n)
 len:2*done.length+(if within then 1 else 0)≤i+j
theorem Join.zero {f:Bool→Bool→Bool} (e:f false false=false) {a b:List (Int×Int)} (c:aB 1 a) (d:aB 1 b) (s:Int):Join f a b 0 0 0 [] s false:=by
 refine⟨Nat.zero_le _,Nat.zero_le _,.inl rfl,.inl rfl,?_,?_,by simp[e],trivial,by simp,by simp,fun n hn=>?_,by simp⟩
 ·have:=su c 0;omega
 ·have:=su d 0;omega
 ·rw[pW c (by omega),pW d (by omega),e];simp[fT]
def jY (done:List (Int×Int)) (s:Int) (within:Bool):List (Int×Int):=if within then done++[(s,0)]else done
theorem Join.end {f:Bool→Bool→Bool} (e:f false false=false) {a b done:List (Int×Int)} {i j:Nat} {p s:Int} {within:Bool} (t:aB 1 a) (u:aB 1 b) (h:Join f a b i j p done s within) (hi:2*a.length≤i) (v:2*b.length≤j):within=false∧Put f a b done:=by
 have c:i=2*a.length:=Nat.le_antisymm h.hi hi;have d:j=2*b.length:=Nat.le_antisymm h.hj v
 have g:within=false:=by
  rw[h.w,c,d];simp[e]
 refine⟨g,h.right,fun n=>?_,?_⟩
 ·by_cases x:n≤p
  ·have:=h.has n x
   rw[g]at this
   simpa using this
  ·have l:=r9 (k:=i) (n:=n) t h.hi (by have:=h.pi;omega) (.inl c)
   have m:=r9 (k:=j) (n:=n) u h.hj (by have:=h.pj;omega) (.inl d)
   have q:hasB done n=false:=jh.2 fun r y=>by have:=h.ends r y;omega
   rw[l,m,q,c,d];simp[e]
 ·have:=h.len
  omega
theorem Join.more {f:Bool→Bool→Bool} {a b done:List (Int×Int)} {i j i' j':Nat} {p s at':Int} {within kept:Bool} (A:aB 1 a) (B:aB 1 b) (h:Join f a b i j p done s within)
  (X:i<2*a.length∨j<2*b.length) (U:at'=min (edge a i) (edge b j)) (l:i'=if edge a i=at' then i+1 else i) (m:j'=if edge b j=at' then j+1 else j) (Z:kept=f (decide (i' % 2=1)) (decide (j' % 2=1))) :
  1≤at'∧at'≤1099511627777∧i+j<i'+j'∧Join f a b i' j' at' (if !kept&&within then done++[(s,at'-1)]else done) (if kept && !within then at' else s) kept:=by
 have W:at'≤1099511627777:=by
  rw[U]
  rcases X with c | c
  ·have:=(o_ A c).2;omega
  ·have:=(o_ B c).2;omega
 have hp:p<at':=by have:=h.ni;have:=h.nj;omega
 have v:1≤at':=by have:=(su A i).1;have:=(su B j).1;omega
 have D:edge a i=at'→i<2*a.length:=fun e=>by
  rcases rU i (2*a.length)with c | c
  ·exact c
  ·rw[nC c]at e;omega
 have F:edge b j=at'→j<2*b.length:=fun e=>by
  rcases rU j (2*b.length)with c | c
  ·exact c
  ·rw[nC c]at e;omega
 have L:edge a i=at'∨edge b j=at':=by omega
 have d:i'≤2*a.length∧(i'=0∨edge a (i'-1)≤at')∧at'<edge a i':=by
  by_cases e:edge a i=at'
  ·rw[if_pos e]at l
   subst l;have:=AQ A (D e);exact⟨D e,.inr (by rw[Nat.add_sub_cancel];omega),by omega⟩
  ·rw[if_neg e]at l
   subst l;exact⟨h.hi,by have:=h.pi;omega,by omega⟩
 have g:j'≤2*b.length∧(j'=0∨edge b (j'-1)≤at')∧at'<edge b j':=by
  by_cases e:edge b j=at'
  ·rw[if_pos e]at m
   subst m;have:=AQ B (F e);exact⟨F e,.inr (by rw[Nat.add_sub_cancel];omega),by omega⟩
  ·rw[if_neg e]at m
   subst m;exact⟨h.hj,by have:=h.pj;omega,by omega⟩
 have H:∀ n,p<n→n<at'→f (hasB a n) (hasB b n)=within:=fun n c S=>by
  have O:=r9 (k:=i) (n:=n) A h.hi (by have:=h.pi;omega) (.inr (by omega));have Q:=r9 (k:=j) (n:=n) B h.hj (by have:=h.pj;omega) (.inr (by omega));rw[O,Q,h.w]
 have C:f (hasB a at') (hasB b at')=kept:=by
  have O:=r9 (k:=i') (n:=at') A d.1 d.2.1 (.inr d.2.2);have Q:=r9 (k:=j') (n:=at') B g.1 g.2.1 (.inr g.2.2);rw[O,Q,Z]
 have J:∀ n,p≤n→hasB done n=false:=fun n hn=>jh.2 fun r x=>by have:=h.ends r x;omega
 have G:=h.len
 have M:i+j<i'+j':=by
  rcases L with e | e
  ·rw[if_pos e]at l
   have:j≤j':=by rw[m];split <;> omega
   omega
  ·rw[if_pos e]at m
   have:i≤i':=by rw[l];split <;> omega
   omega
 refine⟨v,W,M,d.1,g.1,d.2.1,g.2.1,d.2.2,g.2.2,Z,?_,?_,?_,?_,?_⟩
 ·cases kept <;> cases t:within <;> simp only[Bool.not_true,Bool.not_false,Bool.and_true,Bool.and_false,if_true,Bool.false_eq_true,if_false] <;> try exact h.right
  obtain⟨y,N,z⟩:=h.open_ t;exact h.right.snoc (fun q hq=>z q hq) y (by show s≤at'-1;omega) (by show at'-1≤_;omega)
 ·intro r x
  have Y:r∈done∨r.2=at'-1:=by
   split at x
   ·rcases fO.1 x with c | c
    ·exact .inl c
    ·rw[eX.1 c];exact .inr rfl
   ·exact .inl x
  rcases Y with c | c
  ·have:=h.ends r c;omega
  ·omega
 ·intro V
  subst V
  cases t:within with
  | true=>
   obtain⟨y,N,z⟩:=h.open_ t;simp only[Bool.not_true,Bool.and_false,Bool.false_and,Bool.false_eq_true,if_false];exact⟨y,by omega,z⟩
  | false=>
   simp only[Bool.not_true,Bool.not_false,Bool.and_false,Bool.and_true,Bool.false_eq_true,if_false,if_true];exact⟨v,Int.le_refl _,fun r x=>by have:=h.ends r x;omega⟩
 ·intro n hn
  rcases (by omega:p<n∨n≤p)with c | c
  ·rcases (by omega:n<at'∨at'≤n)with S | S
   ·rw[H n c S]
    have u:=J n (by omega)
    cases kept <;> cases t:within
    ·simp[u]
    ·obtain⟨y,N,z⟩:=h.open_ t
     simp only[Bool.not_false,Bool.and_true,if_true,dB,di,fT,u,Bool.false_or,Bool.or_false,Bool.false_and,yZ];omega
    ·have:¬at'≤n:=by omega
     simp[u,this]
    ·obtain⟨y,N,z⟩:=h.open_ t
     have:s≤n:=by omega
     simp[u,this]
   ·have:n=at':=by omega
    subst this;rw[C];have u:=J n (by omega)
    cases kept <;> cases t:within
    ·simp[u]
    ·have R:decide (s≤n∧n≤n-1)=false:=by simp;omega
     simp only[Bool.not_false,Bool.and_true,if_true,dB,di,fT,u,Bool.or_false,Bool.false_and,R]
    ·simp[u]
    ·obtain⟨y,N,z⟩:=h.open_ t
     have:s≤n:=by omega
     simp[u,this]
  ·have e:=h.has n c
   rw[← e]
   cases kept <;> cases t:within
   ·simp
   ·have R:decide (s≤n∧n≤at'-1)=decide (s≤n):=by
     congr 1
     exact propext ⟨fun h=>h.1,fun h=>⟨h,by omega⟩⟩
    simp only[Bool.not_false,Bool.and_true,Bool.true_and,if_true,dB,di,fT,Bool.or_false,Bool.false_and,R]
   ·have:¬at'≤n:=by omega
    simp[this]
   ·simp
 ·cases kept <;> cases t:within <;> simp only[t,Bool.not_true,Bool.not_false,Bool.and_true,Bool.and_false,if_true,Bool.false_eq_true,if_false,bP,List.length_singleton]at G ⊢ <;> omega
end Sp
namespace Cx
open Sp
abbrev S3:=Int×Int×Int
def part (c:List S3) (d:Int):List (Int×Int):=(c.filter fun s=>decide (s.1=d)).map fun s=>s.2
def dF (d:Int) (l:List (Int×Int)):List S3:=l.map fun r=>(d,r)
theorem tu (d:Int):part [] d=[]:=rfl
theorem mK (a b:List S3) (d:Int):part (a++b) d=part a d++part b d:=by simp[part]
theorem eu (s:S3) (c:List S3) (d:Int):part (s::c) d=if s.1=d then s.2::part c d else part c d:=by
 unfold part
 by_cases h:s.1=d
 ·simp[h]
 ·simp[h]
theorem oM (d e:Int) (l:List (Int×Int)):part (dF d l) e=if d=e then l else []:=by
 induction l with
 | nil=>simp[dF,part]
 | cons r l a=>
  show part ((d,r)::dF d l) e=_;rw[eu,a]
  by_cases h:d=e <;> simp[h]
theorem jA {c:List S3} {d:Int} {r:Int×Int} : r∈part c d↔(d,r)∈c:=by
 unfold part;simp only[dH,qR,yZ];constructor
 ·rintro⟨s,⟨b,a⟩,rfl⟩
  subst a;exact b
 ·intro h
  exact⟨(d,r),⟨h,rfl⟩,rfl⟩
theorem iH (c:List S3) (d:Int):(part c d).length≤c.length:=by
 unfold part;rw[eP];exact List.length_filter_le _ _
def ny (d:Int):Prop:=0≤d∧d<4
def gZ:Int→List S3→Prop
 | _,[]=>True
 | m,s::c=>m≤s.1∧s.1<4∧gZ s.1 c
structure aH (c:List S3):Prop where
 rise:gZ 0 c
 part:∀ d,ny d→aB 1 (part c d)
theorem gZ.mem:∀ {c:List S3} {m:Int},gZ m c→∀ s∈c,m≤s.1∧s.1<4
 | [],_,_,s,h=>by simp at h
 | t::c,m,h,s,a=>by
  obtain⟨b,d,e⟩:=h
  rcases jJ.1 a with rfl | a
  ·exact⟨b,d⟩
  ·have:=gZ.mem e s a
   omega
theorem gZ.mono {m a:Int} (hm:a≤m):∀ {c:List S3},gZ m c→gZ a c
 | [],_=>trivial
 | _::_,h=>⟨by have:=h.1;omega,h.2.1,h.2.2⟩
theorem Fu {d:Int} (hd:ny d) (l:List (Int×Int)):gZ d (dF d l):=by
 induction l with
 | nil=>trivial
 | cons r l a=>exact⟨Int.le_refl _,hd.2,a⟩
def glue (p:Int→List (Int×Int)):List S3:=dF 0 (p 0)++(dF 1 (p 1)++(dF 2 (p 2)++dF 3 (p 3)))
theorem zl {d:Int} (h:ny d):d=0∨d=1∨d=2∨d=3:=by unfold ny at h;omega
theorem nU (p:Int→List (Int×Int)) {d:Int} (h:ny d):part (glue p) d=p d:=by
 unfold glue;rw[mK,mK,mK,oM,oM,oM,oM]
 rcases zl h with rfl | rfl | rfl | rfl <;> simp
theorem xV {d:Int} (hd:ny d) (l:List (Int×Int)) {b:List S3} (a:gZ (d+1) b):gZ d (dF d l++b):=by
 induction l with
 | nil=>exact a.mono (by omega)
 | cons r l c=>exact⟨Int.le_refl _,hd.2,c⟩
theorem uV (p:Int→List (Int×Int)):gZ 0 (glue p):=
 xV (by unfold ny;omega) _ (xV (by unfold ny;omega) _ (xV (by unfold ny;omega) _ (Fu (by unfold ny;omega) _)))
theorem xS {p:Int→List (Int×Int)} (h:∀ d,ny d→aB 1 (p d)):aH (glue p):=⟨uV p,fun d hd=>by rw[nU p hd];exact h d hd⟩
theorem lW:∀ {c:List S3} {d:Int},gZ d c→∃ b,c=dF d (part c d)++b∧gZ (d+1) b∧∀ e,d<e→part c e=part b e
 | [],_,_=>⟨[],rfl,trivial,fun _ _=>rfl⟩
 | s::c,d,h=>by
  obtain⟨h1,l,a⟩:=h
  by_cases f:s.1=d
  ·rw[f]at a
   obtain⟨b,i,j,k⟩:=lW a;refine⟨b,?_,j,fun e m=>?_⟩
   ·rw[eu,if_pos f]
    show s::c=(d,s.2)::(dF d (part c d)++b);rw[← i,← f]
   ·rw[eu,if_neg (by omega)]
    exact k e m
  ·have g:part (s::c) d=[]:=by
    rw[eu,if_neg f]
    apply List.eq_nil_iff_forall_not_mem.2
    intro r n;have:=a.mem _ (jA.1 n);have h4:s.1≤d:=this.1;omega
   refine⟨s::c,by rw[g];rfl,⟨by omega,l,a⟩,fun _ _=>rfl⟩
theorem Im {b:List S3} (h:gZ 4 b):b=[]:=by
 cases b with
 | nil=>rfl
 | cons s b=>have:=h.1;have:=h.2.1;omega
theorem zD {c:List S3} (h:gZ 0 c):c=glue (part c):=by
 obtain⟨g,k,r,a⟩:=lW h;obtain⟨i,b,s,f⟩:=lW r;obtain⟨j,d,t,m⟩:=lW s;obtain⟨b4,e,u,p4⟩:=lW t;have l:=Im u;have n:part g 1=part c 1:=(a 1 (by omega)).symm;have p:part i 2=part c 2:=((a 2 (by omega)).trans (f 2 (by omega))).symm;have q:part j 3=part c 3:=((a 3 (by omega)).trans ((f 3 (by omega)).trans (m 3 (by omega)))).symm;rw[show (0:Int)+1=1 from rfl]at b;rw[show (0:Int)+1+1=2 from rfl]at d;rw[show (0:Int)+1+1+1=3 from rfl,l,kR]at e;unfold glue;rw[← n,← p,← q,← e,← d,← b,← k]
theorem wW {a b:List S3} (c:gZ 0 a) (e:gZ 0 b) (h:∀ d,ny d→part a d=part b d):a=b:=by
 rw[zD c,zD e];unfold glue;rw[h 0 (by unfold ny;omega),h 1 (by unfold ny;omega),h 2 (by unfold ny;omega),h 3 (by unfold ny;omega)]
def aD (c:List S3) (d n:Int):Bool:=hasB (part c d) n
theorem KU {a b:List S3} (c:aH a) (e:aH b) (h:∀ d n,ny d→aD a d n=aD b d n):a=b:=
 wW c.rise e.rise fun d hd=>ext (c.part d hd) (e.part d hd) fun n=>h d n hd
structure iW (f:Bool→Bool→Bool) (a b l:List S3):Prop where
 right:aH l
 has:∀ d n,ny d→aD l d n=f (aD a d n) (aD b d n)
theorem iW.eq {f:Bool→Bool→Bool} {a b l e:List S3} (h:iW f a b l) (c:iW f a b e):l=e:=KU h.right c.right fun d n hd=>by rw[h.has d n hd,c.has d n hd]
theorem iW.of {f:Bool→Bool→Bool} {a b:List S3} {p:Int→List (Int×Int)} (h:∀ d,ny d→aB 1 (p d)∧∀ n,hasB (p d) n=f (aD a d n) (aD b d n)):iW f a b (glue p):=
 ⟨xS fun d hd=>(h d hd).1,fun d n hd=>by unfold aD;rw[nU p hd];exact (h d hd).2 n⟩
end Cx
namespace Cs
open Classical
section
variable {α κ:Type} (key:α→κ) (lt:κ→κ→Prop) (st:Option α→Option α→Option α)
noncomputable def fu:List α→List α→List α
 | [],[]=>[]
 | x::a,[]=>(st (some x) none).toList++fu a []
 | [],y::b=>(st none (some y)).toList++fu [] b
 | x::a,y::b=>
  if lt (key x) (key y)then (st (some x) none).toList++fu a (y::b)
  else if lt (key y) (key x)then (st none (some y)).toList++fu (x::a) b
  else (st (some x) (some y)).toList++fu a b
termination_by a b=>a.length+b.length
noncomputable def look (l:List α) (k:κ):Option α:=l.find? fun x=>decide (key x=k)
end
section
variable {α κ:Type} {key:α→κ} {lt:κ→κ→Prop} {st:Option α→Option α→Option α}
theorem look_nil (k:κ):look key [] k=none:=rfl
theorem dz {x:α} {k:κ} (h:key x=k) (l:List α):look key (x::l) k=some x:=by
 unfold look;rw[List.find?_cons_of_pos (by simpa using h)]
theorem gK {x:α} {k:κ} (h:¬key x=k) (l:List α):look key (x::l) k=look key l k:=by
 unfold look;rw[List.find?_cons_of_neg (by simpa using h)]
theorem iP {l:List α} {k:κ} (h:∀ x∈l,¬key x=k):look key l k=none:=by
 unfold look;rw[List.find?_eq_none];intro x a
 simpa using h x a
theorem nR {l:List α} {k:κ} {x:α} (h:look key l k=some x):x∈l∧key x=k:=by
 unfold look at h;exact⟨List.mem_of_find?_eq_some h,by simpa using List.find?_some h⟩
theorem iE (T:K8 lt):∀ {l:List α},l.Pairwise (fun x y=>lt (key x) (key y))→∀ {x:α} {k:κ},(look key l k=some x↔x∈l∧key x=k)
 | [],_,x,k=>by simp[look]
 | y::l,h,x,k=>by
  rw[fq]at h
  by_cases c:key y=k
  ·rw[dz c]
   constructor
   ·intro e
    injection e with e;subst e;exact⟨fA,c⟩
   ·rintro⟨a,b⟩
    rcases jJ.1 a with rfl | a
    ·rfl
    ·have:=h.1 x a
     rw[c,b]at this;exact absurd this (T.irr _)
  ·rw[gK c,iE T h.2]
   constructor
   ·rintro⟨a,b⟩
    exact⟨gY _ a,b⟩
   ·rintro⟨a,b⟩
    rcases jJ.1 a with rfl | a
    ·exact absurd b c
    ·exact⟨a,b⟩
theorem oJ:fu key lt st [] []=[]:=by rw[fu]
theorem xE (x:α) (a:List α):fu key lt st (x::a) []=(st (some x) none).toList++fu key lt st a []:=by rw[fu]
theorem uI (y:α) (b:List α):fu key lt st [] (y::b)=(st none (some y)).toList++fu key lt st [] b:=by rw[fu]
theorem EW {x y:α} (h:lt (key x) (key y)) (a b:List α):fu key lt st (x::a) (y::b)=(st (some x) none).toList++fu key lt st a (y::b):=by
 rw[fu,if_pos h]
theorem EU {x y:α} (h:¬lt (key x) (key y)) (c:lt (key y) (key x)) (a b:List α):fu key lt st (x::a) (y::b)=(st none (some y)).toList++fu key lt st (x::a) b:=by
 rw[fu,if_neg h,if_pos c]
theorem ET {x y:α} (h:¬lt (key x) (key y)) (c:¬lt (key y) (key x)) (a b:List α):fu key lt st (x::a) (y::b)=(st (some x) (some y)).toList++fu key lt st a b:=by
 rw[fu,if_neg h,if_neg c]
inductive Step (key:α→κ) (lt:κ→κ→Prop):List α→List α→Option α→Option α→List α→List α→Prop where
 | left (x:α) (a:List α):Step key lt (x::a) [] (some x) none a []
 | right (y:α) (b:List α):Step key lt [] (y::b) none (some y) [] b
 | lt {x y:α} (a b:List α):lt (key x) (key y)→Step key lt (x::a) (y::b) (some x) none a (y::b)
 | gt {x y:α} (a b:List α):¬lt (key x) (key y)→lt (key y) (key x)→Step key lt (x::a) (y::b) none (some y) (x::a) b
 | eq {x y:α} (a b:List α):¬lt (key x) (key y)→¬lt (key y) (key x)→Step key lt (x::a) (y::b) (some x) (some y) a b
theorem Iw (a b:List α) (h:¬(a=[]∧b=[])):∃ g i e f,Step key lt a b g i e f:=by
 rcases a with _ | ⟨x,a⟩
 ·rcases b with _ | ⟨y,b⟩
  ·exact absurd ⟨rfl,rfl⟩ h
  ·exact⟨_,_,_,_,.right y b⟩
 ·rcases b with _ | ⟨y,b⟩
  ·exact⟨_,_,_,_,.left x a⟩
  ·by_cases c:lt (key x) (key y)
   ·exact⟨_,_,_,_,.lt a b c⟩
   ·by_cases d:lt (key y) (key x)
    ·exact⟨_,_,_,_,.gt a b c d⟩
    ·exact⟨_,_,_,_,.eq a b c d⟩
theorem Step.fu {a b c d:List α} {e f:Option α} (h:Step key lt a b e f c d):fu key lt st a b=(st e f).toList++Cs.fu key lt st c d:=by
 cases h with
 | left=>exact xE _ _
 | right=>exact uI _ _
 | lt h1=>exact EW (by assumption) _ _
 | gt h1 h2=>exact EU (by assumption) (by assumption) _ _
 | eq h1 h2=>exact ET (by assumption) (by assumption) _ _
theorem Step.less {a b c d:List α} {e f:Option α} (h:Step key lt a b e f c d):c.length+d.length<a.length+b.length:=by
 cases h <;> simp <;> omega
theorem Bg (P:List α→List α→Prop) (i:P [] []) (j:∀ a b f g c d,Step key lt a b f g c d→P c d→P a b) (a b:List α):P a b:=by
 obtain⟨n,k⟩:∃ n,n=a.length+b.length:=⟨_,rfl⟩
 induction n using Nat.strongRecOn generalizing a b with
 | ind n ih=>
  by_cases h:a=[]∧b=[]
  ·rw[h.1,h.2];exact i
  ·obtain⟨f,g,c,d,e⟩:=Iw (key:=key) (lt:=lt) a b h
   exact j _ _ _ _ _ _ e (ih _ (by rw[k];exact e.less) c d rfl)
structure BO (key:α→κ) (st:Option α→Option α→Option α):Prop where
 zero:st none none=none
 left:∀ x z,st (some x) none=some z→key z=key x
 right:∀ y z,st none (some y)=some z→key z=key y
 both:∀ x y z,key x=key y→st (some x) (some y)=some z→key z=key x
def Up (key:α→κ) (lt:κ→κ→Prop) (l:List α):Prop:=l.Pairwise fun x y=>lt (key x) (key y)
theorem Step.up (T:K8 lt) {a b n p:List α} {r s:Option α} (h:Step key lt a b r s n p) (f:Up key lt a) (g:Up key lt b) :
  Up key lt n∧Up key lt p∧∃ k,(∀ x,r=some x→key x=k)∧(∀ y,s=some y→key y=k)∧(∀ x∈n,lt k (key x))∧(∀ y∈p,lt k (key y))∧(∀ j,look key a j=if j=k then r else look key n j)∧(∀ j,look key b j=if j=k then s else look key p j)∧¬(r=none∧s=none):=by
 have l:∀ {x:α} {a:List α},Up key lt (x::a)→∀ j,look key (x::a) j=if j=key x then some x else look key a j:=fun {x a} _ j=>by
  by_cases e:j=key x
  ·rw[if_pos e,dz e.symm]
  ·rw[if_neg e,gK (fun h=>e h.symm)]
 have q:∀ {a:List α} {k:κ},(∀ x∈a,lt k (key x))→∀ j,look key a j=if j=k then none else look key a j:=fun {a k} h j=>by
  by_cases e:j=k
  ·rw[if_pos e]
   exact iP fun x u t=>T.irr k (by have:=h x u;rwa [t,e]at this)
  ·rw[if_neg e]
 cases h with
 | left x=>
  have c:=fq.1 f;exact⟨c.2,g,key x,by simp,by simp,c.1,by simp,l f,q (by simp),by simp⟩
 | right y=>
  have c:=fq.1 g;exact⟨f,c.2,key y,by simp,by simp,by simp,c.1,q (by simp),l g,by simp⟩
 | @lt x y a b hlt=>
  have c:=fq.1 f;have i:=fq.1 g
  have m:∀ z∈y::b,lt (key x) (key z):=fun z d=>by
   rcases jJ.1 d with rfl | d
   ·exact hlt
   ·exact T.tr _ _ _ hlt (i.1 z d)
  exact⟨c.2,g,key x,by simp,by simp,c.1,m,l f,q m,by simp⟩
 | @gt x y a b hn1 hlt=>
  have c:=fq.1 f;have i:=fq.1 g
  have m:∀ z∈x::a,lt (key y) (key z):=fun z d=>by
   rcases jJ.1 d with rfl | d
   ·exact hlt
   ·exact T.tr _ _ _ hlt (c.1 z d)
  exact⟨f,i.2,key y,by simp,by simp,m,i.1,q m,l g,by simp⟩
 | @eq x y a b hn1 hn2=>
  have c:=fq.1 f;have i:=fq.1 g
  have e:key x=key y:=by
   rcases T.tri (key x) (key y)with h | h | h
   ·exact absurd h hn1
   ·exact h
   ·exact absurd h hn2
  refine⟨c.2,i.2,key x,by simp,fun z d=>?_,c.1,fun z d=>?_,l f,fun j=>?_,by simp⟩
  ·injection d with d
   rw[← d,e]
  ·rw[e];exact i.1 z d
  ·rw[e];exact l g j
theorem BO.at_ {c a:Option α} {z:α} (K:BO key st) {k:κ} (b:∀ x,c=some x→key x=k) (d:∀ y,a=some y→key y=k) (h:st c a=some z):key z=k:=by
 cases c with
 | none=>
  cases a with
  | none=>rw[K.zero]at h;cases h
  | some y=>rw[K.right y z h];exact d y rfl
 | some x=>
  cases a with
  | none=>rw[K.left x z h];exact b x rfl
  | some y=>rw[K.both x y z ((b x rfl).trans (d y rfl).symm) h];exact b x rfl
theorem JI {o:Option α} {l:List α} {k:κ} (h:∀ z,o=some z→key z=k) (c:∀ z∈l,¬key z=k) (j:κ):look key (o.toList++l) j=if j=k then o else look key l j:=by
 cases o with
 | none=>
  show look key l j=_
  by_cases e:j=k
  ·rw[if_pos e,iP fun z a b=>c z a (b.trans e)]
  ·rw[if_neg e]
 | some z=>
  show look key (z::l) j=_
  by_cases e:j=k
  ·rw[if_pos e,dz ((h z rfl).trans e.symm)]
  ·rw[if_neg e,gK fun a=>e (a.symm.trans (h z rfl))]
theorem wH (T:K8 lt) (K:BO key st) (a b:List α):Up key lt a→Up key lt b→Up key lt (fu key lt st a b)∧(∀ k,(∀ x∈a,lt k (key x))→(∀ y∈b,lt k (key y))→∀ z∈fu key lt st a b,lt k (key z))∧∀ k,look key (fu key lt st a b) k=st (look key a k) (look key b k):=by
 refine Bg (key:=key) (lt:=lt) (fun a b=>Up key lt a→Up key lt b→Up key lt (fu key lt st a b)∧(∀ k,(∀ x∈a,lt k (key x))→(∀ y∈b,lt k (key y))→∀ z∈fu key lt st a b,lt k (key z))∧∀ k,look key (fu key lt st a b) k=st (look key a k) (look key b k)) ?_ ?_ a b
 ·intro _ _
  rw[oJ];exact⟨List.Pairwise.nil,by simp,fun k=>by rw[look_nil];exact K.zero.symm⟩
 ·intro a b m n a' b' w N H J
  obtain⟨p,q,k,A,l,r,s,C,D,t⟩:=w.up T H J;obtain⟨B,L,M⟩:=N p q;have v:∀ z,st m n=some z→key z=k:=fun z h=>K.at_ A l h;have u:=L k r s;rw[w.fu];refine⟨?_,?_,fun j=>?_⟩
  ·cases i:st m n with
   | none=>exact B
   | some z=>
    refine fq.2 ⟨fun y l=>?_,B⟩;rw[v z i];exact u y l
  ·intro j F G z c
   have g:lt j k:=by
    cases d:m with
    | some x=>
     rw[← A x d]
     have:look key a k=some x:=by rw[C,if_pos rfl,d]
     exact F x (nR this).1
    | none=>
     cases f:n with
     | some y=>
      rw[← l y f]
      have:look key b k=some y:=by rw[D,if_pos rfl,f]
      exact G y (nR this).1
     | none=>exact absurd ⟨d,f⟩ t
   rcases fO.1 c with c | c
   ·cases i:st m n with
    | none=>rw[i]at c;cases c
    | some y=>
     rw[i]at c;rw[eX.1 c,v y i];exact g
   ·exact T.tr _ _ _ g (u z c)
  ·rw[JI v (fun z c e=>T.irr k (by have:=u z c;rwa [e]at this)) j,C,D]
   by_cases e:j=k
   ·rw[if_pos e,if_pos e,if_pos e]
   ·rw[if_neg e,if_neg e,if_neg e]
    exact M j
theorem CK (_K:st none none=none) (a b:List α):∀ z∈fu key lt st a b,∃ e f,st e f=some z∧(∀ x,e=some x→x∈a)∧(∀ y,f=some y→y∈b)∧¬(e=none∧f=none):=by
 refine Bg (key:=key) (lt:=lt) (fun a b=>∀ z∈fu key lt st a b,∃ e f,st e f=some z∧(∀ x,e=some x→x∈a)∧(∀ y,f=some y→y∈b)∧¬(e=none∧f=none)) ?_ ?_ a b
 ·intro z d
  rw[oJ]at d
  cases d
 ·intro a b e f i j h r z d
  rw[h.fu]at d
  have c:(∀ x∈i,x∈a)∧(∀ y∈j,y∈b)∧(∀ x,e=some x→x∈a)∧(∀ y,f=some y→y∈b)∧¬(e=none∧f=none):=by
   cases h <;> simp +contextual
  rcases fO.1 d with d | d
  ·cases g:st e f with
   | none=>rw[g]at d;cases d
   | some y=>
    rw[g]at d;rw[eX.1 d];exact⟨e,f,g,c.2.2.1,c.2.2.2.1,c.2.2.2.2⟩
  ·obtain⟨s,t,k,l,m,n⟩:=r z d
   exact⟨s,t,k,fun x p=>c.1 x (l x p),fun y q=>c.2.1 y (m y q),n⟩
theorem oK (c:α→Nat) (h:∀ x y z,st x y=some z→c z≤(x.map c).getD 0+(y.map c).getD 0) (a b:List α):((fu key lt st a b).map c).sum≤(a.map c).sum+(b.map c).sum:=by
 refine Bg (key:=key) (lt:=lt) (fun a b=>((fu key lt st a b).map c).sum≤(a.map c).sum+(b.map c).sum) ?_ ?_ a b
 ·rw[oJ];simp
 ·intro a b d e g i f ih
  rw[f.fu,mD,List.sum_append]
  have h1:((st d e).toList.map c).sum≤(d.map c).getD 0+(e.map c).getD 0:=by
   cases j:st d e with
   | none=>simp
   | some z=>simpa using h d e z j
  have h2:(d.map c).getD 0+(g.map c).sum=(a.map c).sum∧(e.map c).getD 0+(i.map c).sum=(b.map c).sum:=by
   cases f <;> simp
  omega
end
end Cs
namespace Cs
open Tr Cx Classical
def ic (x y:Int×Int):Prop:=x.1<y.1∨(x.1=y.1∧x.2<y.2)
theorem fV:K8 ic:=by
 refine⟨fun a h=>?_,fun a b c h1 h2=>?_,fun a b=>?_⟩
 ·unfold ic at h;omega
 ·unfold ic at *;omega
 ·unfold ic
  rcases a with ⟨a1,a2⟩
  rcases b with ⟨b1,b2⟩
  simp only[Prod.mk.injEq];omega
def aV (e:E):Int×Int:=(e.a,e.n)
theorem Gm {x y:E} : mX x y↔ic (aV x) (aV y):=wF
theorem KA {es:List E} (h:es.Pairwise mX):Up aV ic es:=h.imp fun h=>Gm.1 h
def zO (x y:E):Prop:=x.v<y.v∨(x.v=y.v∧cK x.s y.s)
theorem Gn (x:E):¬zO x x:=fun h=>by
 rcases h with h | h
 ·omega
 ·exact aQ.irr _ h.2
theorem EP {x y z:E} (a:zO x y) (b:zO y z):zO x z:=by
 unfold zO at *
 rcases a with a | a <;> rcases b with b | b
 ·exact .inl (by omega)
 ·exact .inl (by omega)
 ·exact .inl (by omega)
 ·exact .inr ⟨by omega,aQ.tr _ _ _ a.2 b.2⟩
theorem Gp (x y:E):zO x y∨(x.v=y.v∧x.s=y.s)∨zO y x:=by
 unfold zO
 rcases L8.tri x.v y.v with h | h | h
 ·exact .inl (.inl h)
 ·rcases aQ.tri x.s y.s with a | a | a
  ·exact .inl (.inr ⟨h,a⟩)
  ·exact .inr (.inl ⟨h,a⟩)
  ·exact .inr (.inr (.inr ⟨h.symm,a⟩))
 ·exact .inr (.inr (.inl h))
theorem Mv {x y z:E} (d:¬zO y x) (c:¬zO z y):¬zO z x:=fun b=>by
 rcases Gp x y with a | a | a
 ·exact c (EP b a)
 ·apply c
  unfold zO at b ⊢;rw[← a.1,← a.2];exact b
 ·exact d a
noncomputable def sF (x y:E):E:=if zO x y then y else x
theorem oH (x y:E):(zO x y∧sF x y=y)∨(¬zO x y∧sF x y=x):=by
 unfold sF
 by_cases h:zO x y
 ·exact .inl ⟨h,if_pos h⟩
 ·exact .inr ⟨h,if_neg h⟩
theorem Js (x:E):sF x x=x:=by unfold sF;rw[if_neg (Gn x)]
theorem E.ext {x y:E} (a:aV x=aV y) (h2:x.v=y.v) (h3:x.s=y.s):x=y:=by
 cases x;cases y
 simp only[aV,Prod.mk.injEq]at a
 simp_all
theorem Jr {x y:E} (h:aV x=aV y):sF x y=sF y x:=by
 rcases oH x y with ⟨d,b⟩ | ⟨d,b⟩ <;> rcases oH y x with ⟨e,c⟩ | ⟨e,c⟩
 ·exact absurd (EP d e) (Gn _)
 ·rw[b,c]
 ·rw[b,c]
 ·rw[b,c]
  rcases Gp x y with a | a | a
  ·exact absurd a d
  ·exact E.ext h a.1 a.2
  ·exact absurd a e
theorem Hl (x y z:E):sF (sF x y) z=sF x (sF y z):=by
 rcases oH x y with ⟨d,c⟩ | ⟨d,c⟩ <;> rcases oH y z with ⟨e,f⟩ | ⟨e,f⟩ <;> rw[c,f]
 ·rcases oH x z with ⟨b,a⟩ | ⟨b,a⟩
  ·rw[a]
  ·exact absurd (EP d e) b
 ·exact c.symm
 ·rw[c]
  rcases oH x z with ⟨b,a⟩ | ⟨b,a⟩
  ·exact absurd b (Mv e d)
  ·exact a
theorem Ga {x y:E} (h:aV x=aV y):aV (sF x y)=aV x:=by
 rcases oH x y with ⟨_,e⟩ | ⟨_,e⟩ <;> rw[e]
 exact h.symm
noncomputable def kM (ca cb:List S3):Option E→Option E→Option E
 | some x,some y=>some (sF x y)
 | some x,none=>if aD cb x.a x.n=true then none else some x
 | none,some y=>if aD ca y.a y.n=true then none else some y
 | none,none=>none
theorem qo (c b:List S3) (x:E):kM c b (some x) none=if aD b x.a x.n=true then none else some x:=rfl
theorem nY (b c:List S3) (y:E):kM b c none (some y)=if aD b y.a y.n=true then none else some y:=rfl
theorem DI (a b:List S3) (x y:E):kM a b (some x) (some y)=some (sF x y):=rfl
theorem J_ (a b:List S3):BO aV (kM a b):=by
 refine⟨rfl,fun x z h=>?_,fun y z h=>?_,fun x y z c h=>?_⟩
 ·rw[qo]at h
  split at h
  ·cases h
  ·injection h with h;rw[h]
 ·rw[nY]at h
  split at h
  ·cases h
  ·injection h with h;rw[h]
 ·rw[DI]at h
  injection h with h;rw[← h];exact Ga c
theorem Kn {c d:List S3} {b a:Option E} {z:E} (h:kM c d b a=some z):b=some z∨a=some z:=by
 cases b with
 | none=>
  cases a with
  | none=>cases h
  | some y=>
   rw[nY]at h
   split at h
   ·cases h
   ·exact .inr h
 | some x=>
  cases a with
  | none=>
   rw[qo]at h
   split at h
   ·cases h
   ·exact .inl h
  | some y=>
   rw[DI]at h;injection h with h
   rcases oH x y with ⟨_,e⟩ | ⟨_,e⟩ <;> rw[e]at h <;> rw[h]
   ·exact .inr rfl
   ·exact .inl rfl
abbrev Kd:=ByteArray×T
def dW (k:Kd):ByteArray:=k.1
def dG (t:T):Prop:=t.es=[]∧t.ks=[]
theorem dG.eq {t:T} (h:dG t):t=none_:=by rw[← T.eta t,h.1,h.2];rfl
theorem oC:dG none_:=⟨rfl,rfl⟩
def iM:Option Kd→T | some k=>k.2 | none=>none_
def nameOf:Option Kd→Option Kd→ByteArray
 | some x,_=>x.1
 | none,some y=>y.1
 | none,none=>⟨#[]⟩
noncomputable def ng (f:T→T→T) (x y:Option Kd):Option Kd:=if dG (f (iM x) (iM y))then none else some (nameOf x y,f (iM x) (iM y))
theorem qp {f:T→T→T} {x y:Option Kd} {z:Kd} (h:ng f x y=some z):¬dG (f (iM x) (iM y))∧z=(nameOf x y,f (iM x) (iM y)):=by
 unfold ng at h
 split at h
 ·cases h
 ·rename_i a
  injection h with h;exact⟨a,h.symm⟩
theorem Ba {f:T→T→T} (a:f none_ none_=none_):BO dW (ng f):=by
 refine⟨?_,fun x z h=>?_,fun y z h=>?_,fun x y z hk h=>?_⟩
 ·unfold ng iM
  rw[a,if_pos oC]
 ·rw[(qp h).2];rfl
 ·rw[(qp h).2];rfl
 ·rw[(qp h).2];rfl
noncomputable def bf:Nat→List S3→List S3→T→T→T
 | 0,_,_,_,_=>none_
 | d+1,ca,cb,a,b=>.mk (fu aV ic (kM ca cb) a.es b.es) (fu dW cK (ng (bf d ca cb)) a.ks b.ks)
theorem jP:∀ (d:Nat) (a b:List S3),bf d a b none_ none_=none_
 | 0,_,_=>rfl
 | d+1,a,b=>by
  unfold bf none_;show T.mk (fu aV ic (kM a b) [] []) (fu dW cK (ng (bf d a b)) [] [])=_;rw[oJ,oJ]
theorem Km {a b:List S3} (x y:Option E) (z:E) (_:kM a b x y=some z) (hn:¬(x=none∧y=none)):1≤(x.map fun _=>1).getD 0+(y.map fun _=>1).getD 0:=by
 cases x <;> cases y <;> simp_all
theorem mI:∀ (d:Nat) (c e:List S3) (a b:T),nodes (bf d c e a b)≤nodes a+nodes b
 | 0,c,e,a,b=>by
  show nodes none_≤_;unfold none_;rw[bJ];simp
 | d+1,c,e,.mk es ks,.mk es2 ks2=>by
  show nodes (T.mk (fu aV ic (kM c e) es es2) (fu dW cK (ng (bf d c e)) ks ks2))≤_;rw[bJ,bJ,bJ]
  have p:=oK (key:=aV) (lt:=ic) (st:=kM c e) (fun _=>1) (fun x y z h=>by
   refine Km x y z h fun m=>?_;rw[m.1,m.2]at h
   cases h) es es2
  have q:=oK (α:=ByteArray×T) (key:=dW) (lt:=cK) (st:=ng (bf d c e)) (fun k:ByteArray×T=>1+nodes k.2) (fun x y z h=>by
   obtain⟨i,rfl⟩:=qp h;have:=mI d c e (iM x) (iM y)
   have n:nodes none_=0:=by unfold none_;rw[bJ];rfl
   cases x with
   | none=>
    cases y with
    | none=>exact absurd (by unfold iM;rw[jP];exact oC) i
    | some y=>simp[iM,n]at this ⊢;omega
   | some x=>
    cases y with
    | none=>simp[iM,n]at this ⊢;omega
    | some y=>simp[iM]at this ⊢;omega) ks ks2
  have f:∀ l:List E,(l.map fun _=>1).sum=l.length:=fun l=>by
   induction l with
   | nil=>rfl
   | cons k l j=>simp only[List.map_cons,om,lY,j];omega
  have g:∀ l:List (ByteArray×T),(l.map fun k:ByteArray×T=>1+nodes k.2).sum=l.length+(l.map fun k:ByteArray×T=>nodes k.2).sum:=fun l=>by
   induction l with
   | nil=>rfl
   | cons k l j=>simp only[List.map_cons,om,lY,j];omega
  rw[f,f,f]at p;rw[g,g,g]at q;omega
noncomputable def aU (t:T) (p:List ByteArray) (q:Int×Int):Option E:=look aV (aI t p).es q
theorem fC {t:T} {p:List ByteArray} {q:Int×Int} {e:E} (h:aU t p q=some e):aV e=q:=(nR h).2
theorem FZ:∀ p:List ByteArray,aI none_ p=none_
 | []=>rfl
 | k::p=>by
  unfold aI;show aI (aR [] k) p=none_;exact FZ p
theorem iC (p:List ByteArray) (q:Int×Int):aU none_ p q=none:=by
 unfold aU;rw[FZ];rfl
def RT (d:Nat) (t:T):Prop:=au d t∨t=none_
theorem RT.succ {d:Nat} {t:T} (h:RT (d+1) t):au (d+1) t:=by
 rcases h with h | rfl
 ·exact h
 ·exact au.none
theorem RT.yH {d:Nat} {es:List E} {ks:List Kd} (h:au (d+1) (.mk es ks)) (k:ByteArray):RT d (aR ks k):=by
 rcases jQ (ks:=ks) (key:=k)with ⟨x,a,_,b⟩ | ⟨_,h2⟩
 ·rw[b];exact .inl (h.2.2.2 x a).2.2
 ·rw[h2];exact .inr rfl
theorem jf:∀ (ks:List Kd) (k:ByteArray),aR ks k=iM (look dW ks k)
 | [],k=>rfl
 | x::ks,k=>by
  unfold aR
  by_cases h:x.1=k
  ·rw[if_pos h,dz (key:=dW) h];rfl
  ·rw[if_neg h,gK (key:=dW) h];exact jf ks k
theorem JC {d:Nat} (b c:List S3) {ks a:List Kd} (e:ks.Pairwise fun x y=>cK x.1 y.1) (f:a.Pairwise fun x y=>cK x.1 y.1) (k:ByteArray):aR (fu dW cK (ng (bf d b c)) ks a) k=bf d b c (aR ks k) (aR a k):=by
 rw[jf,jf,jf,(wH (key:=dW) aQ (Ba (jP d b c)) ks a e f).2.2 k];unfold ng
 split
 ·rename_i h
  rw[h.eq];rfl
 ·rfl
theorem wU:∀ (d:Nat) (c f:List S3) (a b:T),RT d a→RT d b→∀ (p:List ByteArray) (q:Int×Int),aU (bf d c f a b) p q=kM c f (aU a p q) (aU b p q)
 | 0,c,f,a,b,ha,hb,p,q=>by
  have e:∀ t:T,RT 0 t→t=none_:=fun t h=>by
   rcases h with h | h
   ·exact h.elim
   ·exact h
  rw[e a ha,e b hb,iC];show aU none_ p q=_;rw[iC];rfl
 | d+1,c,f,.mk es ks,.mk es2 ks2,ha,hb,[],q=>by
  show look aV (fu aV ic (kM c f) es es2) q=kM c f (look aV es q) (look aV es2 q);exact (wH (key:=aV) fV (J_ c f) es es2 (KA ha.succ.2.1) (KA hb.succ.2.1)).2.2 q
 | d+1,c,f,.mk es ks,.mk es2 ks2,ha,hb,k::p,q=>by
  show aU (aR (fu dW cK (ng (bf d c f)) ks ks2) k) p q=kM c f (aU (aR ks k) p q) (aU (aR ks2 k) p q);rw[JC c f ha.succ.2.2.1 hb.succ.2.2.1];exact wU d c f _ _ (RT.yH ha.succ k) (RT.yH hb.succ k) p q
theorem rP:∀ (d:Nat) (c f:List S3) (a b:T),au d a→au d b→au d (bf d c f a b)
 | 0,_,_,_,_,ha,_=>ha.elim
 | d+1,c,f,.mk es ks,.mk es2 ks2,ha,hb=>by
  have B:=wH (key:=aV) fV (J_ c f) es es2 (KA ha.2.1) (KA hb.2.1);have C:=wH (key:=dW) aQ (Ba (jP d c f)) ks ks2 ha.2.2.1 hb.2.2.1;refine⟨fun e v=>?_,?_,?_,fun k w=>?_⟩
  ·obtain⟨p,q,n,j,m,_⟩:=CK (key:=aV) (lt:=ic) (st:=kM c f) rfl es es2 e v
   rcases Kn n with h | h
   ·exact ha.1 e (j e h)
   ·exact hb.1 e (m e h)
  ·exact B.1.imp fun h=>Gm.2 h
  ·exact C.1
  ·obtain⟨p,q,n,j,m,u⟩:=CK (key:=dW) (lt:=cK) (st:=ng (bf d c f)) (Ba (jP d c f)).zero ks ks2 k w
   obtain⟨g,rfl⟩:=qp n
   have r:∀ (o:Option Kd) (l:List Kd),(∀ x,o=some x→x∈l)→(∀ x∈l,au d x.2)→RT d (iM o):=fun o l A z=>by
    cases o with
    | none=>exact .inr rfl
    | some x=>exact .inl (z x (A x rfl))
   have i:=r p ks j fun x i=>(ha.2.2.2 x i).2.2;have s:=r q ks2 m fun x i=>(hb.2.2.2 x i).2.2;refine⟨?_,g,?_⟩
   ·cases p with
    | some x=>exact (ha.2.2.2 x (j x rfl)).1
    | none=>
     cases q with
     | some y=>exact (hb.2.2.2 y (m y rfl)).1
     | none=>exact absurd ⟨rfl,rfl⟩ u
   ·cases d with
    | zero=>
     have e:∀ t:T,RT 0 t→t=none_:=fun t h=>by
      rcases h with h | h
      ·exact h.elim
      ·exact h
     rw[e _ i,e _ s,jP]at g;exact absurd oC g
    | succ d=>exact rP (d+1) c f _ _ i.succ s.succ
theorem gq:∀ {d:Nat} {t:T},au d t→∀ (p:List ByteArray) (e:E),((p,e)∈leaves t↔aU t p (aV e)=some e)
 | 0,_,h,_,_=>h.elim
 | d+1,.mk es ks,h,[],e=>by
  have c:(([]:List ByteArray),e)∈leaves (.mk es ks)↔e∈es:=by
   have:=tH es ks;constructor
   ·intro a
    rw[← this];unfold fQ;rw[List.mem_filterMap];exact⟨_,a,rfl⟩
   ·intro a
    rw[dL];exact yE _ (dH.2 ⟨e,a,rfl⟩)
  rw[c];show _↔look aV es (aV e)=some e;rw[iE fV (KA h.2.1)];simp
 | d+1,.mk es ks,h,k::p,e=>by
  have c:(k::p,e)∈leaves (.mk es ks)↔(p,e)∈leaves (aR ks k):=by
   have:=oQ h k;show _↔(p,e)∈leaves (aR (T.mk es ks).ks k);rw[← this];unfold under;rw[List.mem_filterMap];constructor
   ·intro a
    exact⟨_,a,by simp⟩
   ·rintro⟨⟨q,e2⟩,a,b⟩
    cases q with
    | nil=>cases b
    | cons k2 q=>
     dsimp only at b
     split at b
     ·rename_i f
      injection b with b;injection b with hx1 hx2;rw[← hx1,← hx2,← f];exact a
     ·cases b
  rw[c];show _↔aU (aR ks k) p (aV e)=some e
  rcases RT.yH h k with i | g
  ·exact gq i p e
  ·rw[g,ji,iC]
   simp
theorem BK {α κ:Type} {key:α→κ} {lt:κ→κ→Prop} (T:K8 lt):∀ {l m:List α},Up key lt l→Up key lt m→(∀ k,look key l k=look key m k)→l=m
 | [],[],_,_,_=>rfl
 | [],y::m,_,_,h=>by have:=h (key y);rw[look_nil,dz rfl]at this;cases this
 | x::l,[],_,_,h=>by have:=h (key x);rw[look_nil,dz rfl]at this;cases this
 | x::l,y::m,hl,hm,h=>by
  have f:=fq.1 hl;have g:=fq.1 hm
  have e:key x=key y:=by
   rcases T.tri (key x) (key y)with h1 | h1 | h1
   ·have:=h (key x)
    rw[dz rfl,iP (l:=y::m)]at this
    ·cases this
    ·intro z a b
     rcases jJ.1 a with rfl | a
     ·rw[b]at h1;exact T.irr _ h1
     ·have:=T.tr _ _ _ h1 (g.1 z a);rw[b]at this;exact T.irr _ this
   ·exact h1
   ·have:=h (key y)
    rw[dz (l:=m) rfl,iP (l:=x::l)]at this
    ·cases this
    ·intro z a b
     rcases jJ.1 a with rfl | a
     ·rw[b]at h1;exact T.irr _ h1
     ·have:=T.tr _ _ _ h1 (f.1 z a);rw[b]at this;exact T.irr _ this
  have d:x=y:=by
   have:=h (key x);rw[dz rfl,dz e.symm]at this;injection this
  subst d
  congr 1
  refine BK T f.2 g.2 fun k=>?_
  by_cases b:key x=k
  ·rw[iP fun z a c=>?_,iP fun z a c=>?_]
   ·have:=g.1 z a;rw[c,b]at this;exact T.irr _ this
   ·have:=f.1 z a;rw[c,b]at this;exact T.irr _ this
  ·have:=h k
   rwa [gK b,gK b]at this
theorem qw:∀ {d:Nat} {t u:T},RT d t→RT d u→(∀ p q,aU t p q=aU u p q)→t=u
 | 0,t,u,ht,hu,_=>by
  have e:∀ t:T,RT 0 t→t=none_:=fun t h=>by
   rcases h with h | h
   ·exact h.elim
   ·exact h
  rw[e t ht,e u hu]
 | d+1,.mk es ks,.mk es2 ks2,ht,hu,h=>by
  have i:=ht.succ;have j:=hu.succ;have s:es=es2:=BK fV (KA i.2.1) (KA j.2.1) fun q=>h [] q;have w:∀ k,aR ks k=aR ks2 k:=fun k=>qw (RT.yH i k) (RT.yH j k) fun p q=>h (k::p) q
  have v:ks=ks2:=by
   refine BK (key:=dW) aQ i.2.2.1 j.2.2.1 fun k=>?_;have b:=w k;rw[jf,jf]at b;have g:∀ (l:List Kd),(∀ x∈l,iV x.1∧¬(x.2.es=[]∧x.2.ks=[])∧au d x.2)→∀ x,look dW l k=some x→¬x.2=none_:=fun l z x m e=>(z x (nR m).1).2.1 (by rw[e];exact oC);have a:∀ (l:List Kd) x,look dW l k=some x→x.1=k:=fun l x m=>(nR m).2
   cases f:look dW ks k with
   | none=>
    cases c:look dW ks2 k with
    | none=>rfl
    | some y=>
     rw[f,c]at b;exact absurd b.symm (g ks2 j.2.2.2 y c)
   | some x=>
    cases c:look dW ks2 k with
    | none=>
     rw[f,c]at b;exact absurd b (g ks i.2.2.2 x f)
    | some y=>
     rw[f,c]at b;have n:=a ks x f;have r:=a ks2 y c;have:x=y:=Prod.ext (n.trans r.symm) b;rw[this]
  rw[s,v]
end Cs
namespace Cs
open Tr Cx Sp Classical
abbrev K:=T×List S3
structure RK (k:K):Prop where
 tree:au 5 k.1
 ctx:aH k.2
 has:∀ x∈leaves k.1,aD k.2 x.2.a x.2.n=true
noncomputable def bB (k:K):Bool:=decide (RK k)
theorem bI {k:K} : bB k=true↔RK k:=eG
theorem lq {c:List S3} (h:aH c) {d n:Int} (hd:¬ny d):aD c d n=false:=by
 unfold aD
 have e:Cx.part c d=[]:=by
  rw[List.eq_nil_iff_forall_not_mem];intro r a;have:=h.rise.mem _ (jA.1 a)
  apply hd
  unfold ny;dsimp only at this;omega
 rw[e];rfl
theorem Ho {c:List S3} (h:aH c) {d n:Int} (a:aD c d n=true):Dt.ak d n=true:=by
 by_cases hd:ny d
 ·have b:=E9 (h.part d hd) a
  have e:0≤d∧d<4:=hd;unfold Dt.ak;exact aJ ⟨e.1,e.2,b.1,b.2⟩
 ·rw[lq h hd]at a;cases a
theorem KR {a b:List S3} (c:aH a) (e:aH b) (h:∀ d n,aD a d n=aD b d n):a=b:=KU c e fun d n _=>h d n
noncomputable def st (k:K) (p:List ByteArray) (q:Int×Int):Option (Option E):=if aD k.2 q.1 q.2=true then some (aU k.1 p q)else none
noncomputable def mx:Option (Option E)→Option (Option E)→Option (Option E)
 | none,y=>y
 | some x,none=>some x
 | some none,some _=>some none
 | some (some _),some none=>some none
 | some (some x),some (some y)=>some (some (sF x y))
theorem wI (y:Option (Option E)):mx none y=y:=by cases y <;> rfl
theorem Bo (y:Option (Option E)):mx y none=y:=by rcases y with _ | _ | y <;> rfl
theorem Bh (x:Option (Option E)):mx x x=x:=by
 rcases x with _ | _ | x
 ·rfl
 ·rfl
 ·show some (some (sF x x))=_
  rw[Js]
def At (q:Int×Int) (x:Option (Option E)):Prop:=∀ e,x=some (some e)→aV e=q
theorem Gq {q:Int×Int} {x y:Option (Option E)} (a:At q x) (b:At q y):mx x y=mx y x:=by
 rcases x with _ | _ | x <;> rcases y with _ | _ | y <;> try rfl
 show some (some (sF x y))=some (some (sF y x));rw[Jr ((a x rfl).trans (b y rfl).symm)]
theorem CO (x y z:Option (Option E)):mx (mx x y) z=mx x (mx y z):=by
 rcases x with _ | _ | x <;> rcases y with _ | _ | y <;> rcases z with _ | _ | z <;> try rfl
 show some (some (sF (sF x y) z))=some (some (sF x (sF y z)));rw[Hl]
theorem At.mx {q:Int×Int} {x y:Option (Option E)} (c:At q x) (d:At q y):At q (mx x y):=by
 rcases x with _ | _ | x <;> rcases y with _ | _ | y <;> intro e a
 ·cases a
 ·cases a
 ·exact d e a
 ·cases a
 ·cases a
 ·cases a
 ·exact c e a
 ·cases a
 ·have b:some (some (sF x y))=some (some e):=a
  injection b with b;injection b with b;rw[← b,Ga ((c x rfl).trans (d y rfl).symm)];exact c x rfl
theorem Ko (k:K) (p:List ByteArray) (q:Int×Int):At q (st k p q):=by
 intro e a;unfold st at a
 split at a
 ·injection a with a
  exact fC a
 ·cases a
theorem RK.known {k:K} (h:RK k) {p:List ByteArray} {q:Int×Int} {e:E} (c:aU k.1 p q=some e):aD k.2 q.1 q.2=true:=by
 have b:=fC c;have:=h.has (p,e) ((gq h.tree p e).2 (by rw[b];exact c))
 have d:e.a=q.1:=by rw[← b];rfl
 have f:e.n=q.2:=by rw[← b];rfl
 rw[← d,← f];exact this
theorem iw {k:K} {p:List ByteArray} {q:Int×Int} (h:aD k.2 q.1 q.2=true):st k p q=some (aU k.1 p q):=by unfold st;rw[if_pos h]
theorem ja {k:K} {p:List ByteArray} {q:Int×Int} (h:aD k.2 q.1 q.2=false):st k p q=none:=by unfold st;rw[if_neg (by simp[h])]
theorem RK.unknown {k:K} (h:RK k) {p:List ByteArray} {q:Int×Int} (a:aD k.2 q.1 q.2=false):aU k.1 p q=none:=by
 cases b:aU k.1 p q with
 | none=>rfl
 | some e=>rw[h.known b]at a;cases a
theorem E8 {a b:K} (f:RK a) (g:RK b) (h:∀ p q,st a p q=st b p q):a=b:=by
 have i:∀ d n,aD a.2 d n=aD b.2 d n:=fun d n=>by
  have:=h [] (d,n)
  cases c:aD a.2 d n with
  | true=>
   cases e:aD b.2 d n with
   | true=>rfl
   | false=>rw[iw (q:=(d,n)) c,ja (q:=(d,n)) e]at this;cases this
  | false=>
   cases e:aD b.2 d n with
   | false=>rfl
   | true=>rw[ja (q:=(d,n)) c,iw (q:=(d,n)) e]at this;cases this
 refine Prod.ext (qw (d:=5) (.inl f.tree) (.inl g.tree) fun p q=>?_) (KR f.ctx g.ctx i)
 cases c:aD a.2 q.1 q.2 with
 | true=>
  have:=h p q;rw[iw c,iw (by rw[← i];exact c)]at this;injection this
 | false=>rw[f.unknown c,g.unknown (by rw[← i];exact c)]
structure l8 (a b x:K):Prop where
 tree:x.1=bf 5 a.2 b.2 a.1 b.1
 ctx:iW (fun x y=>x||y) a.2 b.2 x.2
theorem l8.eq {a b x y:K} (h:l8 a b x) (c:l8 a b y):x=y:=Prod.ext (h.tree.trans c.tree.symm) (h.ctx.eq c.ctx)
theorem l8.aD {a b x:K} (c:RK a) (e:RK b) (h:l8 a b x) (d n:Int):aD x.2 d n=(aD a.2 d n||aD b.2 d n):=by
 by_cases hd:ny d
 ·exact h.ctx.has d n hd
 ·rw[lq h.ctx.right hd,lq c.ctx hd,lq e.ctx hd];rfl
theorem F7 {a b:K} (i:RK a) (j:RK b) (p:List ByteArray) (q:Int×Int):mx (st a p q) (st b p q)=if (Cx.aD a.2 q.1 q.2||Cx.aD b.2 q.1 q.2)=true then some (kM a.2 b.2 (aU a.1 p q) (aU b.1 p q))else none:=by
 cases f:Cx.aD a.2 q.1 q.2 with
 | false=>
  rw[ja f,wI]
  cases d:Cx.aD b.2 q.1 q.2 with
  | false=>rw[ja d];rfl
  | true=>
   rw[iw d,i.unknown f];show _=some _
   cases g:aU b.1 p q with
   | none=>rfl
   | some y=>
    have c:=fC g
    have e:Cx.aD a.2 y.a y.n=false:=by rw[show y.a=q.1 by rw[← c];rfl,show y.n=q.2 by rw[← c];rfl];exact f
    rw[nY,if_neg (by simp[e])]
 | true=>
  rw[iw f]
  cases d:Cx.aD b.2 q.1 q.2 with
  | false=>
   rw[ja d,Bo,j.unknown d];show _=some _
   cases h:aU a.1 p q with
   | none=>rfl
   | some x=>
    have c:=fC h
    have e:Cx.aD b.2 x.a x.n=false:=by rw[show x.a=q.1 by rw[← c];rfl,show x.n=q.2 by rw[← c];rfl];exact d
    rw[qo,if_neg (by simp[e])]
  | true=>
   rw[iw d];show _=some _
   cases h:aU a.1 p q with
   | none=>
    cases g:aU b.1 p q with
    | none=>rfl
    | some y=>
     have c:=fC g
     have e:Cx.aD a.2 y.a y.n=true:=by rw[show y.a=q.1 by rw[← c];rfl,show y.n=q.2 by rw[← c];rfl];exact f
     rw[nY,if_pos e];rfl
   | some x=>
    have c:=fC h
    have e:Cx.aD b.2 x.a x.n=true:=by rw[show x.a=q.1 by rw[← c];rfl,show x.n=q.2 by rw[← c];rfl];exact d
    cases g:aU b.1 p q with
    | none=>rw[qo,if_pos e];rfl
    | some y=>rfl
theorem l8.Cj {a b x:K} (c:RK a) (d:RK b) (h:l8 a b x) (p:List ByteArray) (q:Int×Int):aU x.1 p q=kM a.2 b.2 (aU a.1 p q) (aU b.1 p q):=by
 rw[h.tree];exact wU 5 a.2 b.2 a.1 b.1 (.inl c.tree) (.inl d.tree) p q
theorem l8.right {a b x:K} (c:RK a) (d:RK b) (h:l8 a b x):RK x:=by
 have g:au 5 x.1:=by rw[h.tree];exact rP 5 _ _ _ _ c.tree d.tree
 refine⟨g,h.ctx.right,fun y i=>?_⟩;have f:=(gq g y.1 y.2).1 i;rw[h.Cj c d]at f;rw[h.aD c d]
 rcases Kn f with e | e
 ·have:=c.known e
  rw[show Cx.aD a.2 y.2.a y.2.n=true from this];rfl
 ·have:=d.known e
  rw[show Cx.aD b.2 y.2.a y.2.n=true from this,Bool.or_true]
theorem l8.st {a b x:K} (c:RK a) (d:RK b) (h:l8 a b x) (p:List ByteArray) (q:Int×Int):Cs.st x p q=mx (Cs.st a p q) (Cs.st b p q):=by
 rw[F7 c d];unfold Cs.st;rw[h.aD c d,h.Cj c d]
theorem La {a b x:K} (f:RK a) (g:RK b) (j:RK x) (h:∀ p q,st x p q=mx (st a p q) (st b p q)):l8 a b x:=by
 have i:∀ d n,aD x.2 d n=(aD a.2 d n||aD b.2 d n):=fun d n=>by
  have:=h [] (d,n);rw[F7 f g]at this;unfold st at this
  cases c:aD x.2 d n with
  | true=>
   cases e:(aD a.2 d n||aD b.2 d n)with
   | true=>rfl
   | false=>rw[if_pos c,if_neg (by rw[e];simp)]at this;cases this
  | false=>
   cases e:(aD a.2 d n||aD b.2 d n)with
   | false=>rfl
   | true=>rw[if_neg (by rw[c];simp),if_pos e]at this;cases this
 refine⟨?_,⟨j.ctx,fun d n _=>i d n⟩⟩;refine qw (d:=5) (.inl j.tree) (.inl (rP 5 _ _ _ _ f.tree g.tree)) fun p q=>?_;rw[wU 5 a.2 b.2 a.1 b.1 (.inl f.tree) (.inl g.tree)]
 cases c:aD x.2 q.1 q.2 with
 | true=>
  have:=h p q;rw[F7 f g,iw c,← i,if_pos c]at this;injection this
 | false=>
  have e:=i q.1 q.2;rw[c]at e;have k:=Bool.or_eq_false_iff.1 e.symm;rw[j.unknown c,f.unknown k.1,g.unknown k.2];rfl
theorem KZ {a b x:K} (c:RK a) (d:RK b) (e:RK x):l8 a b x↔∀ p q,st x p q=mx (st a p q) (st b p q):=⟨fun h p q=>h.st c d p q,La c d e⟩
noncomputable def x_ (a b:K):Bool:=decide (l8 a b b)
theorem C9 {a b:K} (d:RK a) (c:RK b):x_ a b=true↔∀ p q,mx (st a p q) (st b p q)=st b p q:=by
 unfold x_;rw[eG,KZ d c c];exact⟨fun h p q=>(h p q).symm,fun h p q=>(h p q).symm⟩
theorem C_ {a b u:K} (c:RK a) (d:RK b) (h:l8 a b u):x_ a u=true:=(C9 c (h.right c d)).2 fun p q=>by
 rw[h.st c d,← CO,Bh]
theorem xC {a:K} (b:RK a):x_ a a=true:=(C9 b b).2 fun _ _=>Bh _
def bH:K:=(none_,[])
theorem qj:aH []:=⟨trivial,fun d _=>by rw[tu];trivial⟩
theorem jl:RK bH:=⟨au.none (d:=4),qj,fun x a=>by
 have:x∈leaves none_:=a;rw[ji]at this
 cases this⟩
theorem DJ (p:List ByteArray) (q:Int×Int):st bH p q=none:=ja rfl
theorem join_none {a x:K} (b:RK a) (h:l8 bH a x):x=a:=E8 (h.right jl b) b fun p q=>by rw[h.st jl b,DJ,wI]
noncomputable def lX (l:List K) (p:List ByteArray) (q:Int×Int):Option (Option E):=l.foldr (fun k y=>mx (st k p q) y) none
theorem oO (a b:List K) (p:List ByteArray) (q:Int×Int):lX (a++b) p q=mx (lX a p q) (lX b p q):=by
 induction a with
 | nil=>show _=mx none _;rw[wI];rfl
 | cons k a c=>
  show mx (st k p q) (lX (a++b) p q)=mx (mx (st k p q) (lX a p q)) (lX b p q);rw[c,CO]
theorem vk (k:K) (p:List ByteArray) (q:Int×Int):lX [k] p q=st k p q:=Bo _
theorem DF (l:List K) (p:List ByteArray) (q:Int×Int):At q (lX l p q):=by
 induction l with
 | nil=>intro e a;cases a
 | cons k l b=>exact (Ko k p q).mx b
theorem yV (l:List K) (p:List ByteArray) (q:Int×Int):lX l.reverse p q=lX l p q:=by
 induction l with
 | nil=>rfl
 | cons k l a=>
  rw[List.reverse_cons,oO,vk,a];exact Gq (DF l p q) (Ko k p q)
structure AllJ (l:List K) (x:K):Prop where
 right:RK x
 st:∀ p q,Cs.st x p q=lX l p q
theorem AllJ.eq {l:List K} {x y:K} (h:AllJ l x) (a:AllJ l y):x=y:=E8 h.right a.right fun p q=>(h.st p q).trans (a.st p q).symm
theorem AllJ.nil:AllJ [] bH:=⟨jl,fun p q=>DJ p q⟩
theorem AllJ.app {a b:List K} {x y z:K} (h:AllJ a x) (c:AllJ b y) (d:l8 x y z):AllJ (a++b) z:=⟨d.right h.right c.right,fun p q=>by rw[d.st h.right c.right,oO,h.st,c.st]⟩
theorem AllJ.one {k:K} (h:RK k):AllJ [k] k:=⟨h,fun p q=>(vk k p q).symm⟩
theorem AllJ.reverse {l:List K} {x:K} (h:AllJ l x):AllJ l.reverse x:=⟨h.right,fun p q=>by rw[yV];exact h.st p q⟩
end Cs
namespace Cs
open Tr Cx Sp Classical
def cu (e:E):T:=.mk [e] []
theorem uz (e:E) (p:List ByteArray) (q:Int×Int):aU (cu e) p q=if p=[]∧aV e=q then some e else none:=by
 cases p with
 | nil=>
  show look aV [e] q=_
  by_cases h:aV e=q
  ·rw[dz h,if_pos ⟨rfl,h⟩]
  ·rw[gK h,look_nil,if_neg fun a=>h a.2]
 | cons k p=>
  rw[if_neg fun a=>by cases a.1];exact iC p q
theorem zY {e:E} {c:List S3} (d:au 5 (cu e)) (f:aH c) (g:aD c e.a e.n=true):RK (cu e,c):=⟨d,f,fun x h=>by
 have b:=(gq d x.1 x.2).1 h;rw[uz]at b
 split at b
 ·injection b with b
  rw[← b];exact g
 ·cases b⟩
theorem xU {c:List S3} (a:aH c):RK (none_,c):=⟨au.none (d:=4),a,fun x b=>by
 have h:x∈leaves none_:=b;rw[ji]at h
 cases h⟩
end Cs
namespace Tr
open Classical
theorem G6 {α:Type} {lt:α→α→Prop} (m:∀ a b c,lt a b→lt b c→lt a c) {l:List α} (h:∀ (i:Nat) (_:0<i) (hi:i<l.length),lt (l[i-1]'(by omega)) l[i]):l.Pairwise lt:=by
 rw[tV];intro i j hi g hij
 induction j with
 | zero=>omega
 | succ j k=>
  have d:=h (j+1) (by omega) g
  have e:j+1-1=j:=by omega
  simp only[e]at d
  rcases rU i j with f | hge
  ·exact m _ _ _ (k (by omega) f) d
  ·have:i=j:=by omega
   subst this;exact d
def lC (es:List E) (k:Nat):Prop:=∀ (i:Nat) (h:i<es.length),i<k→dR es[i]∧(0<i→mX (es[i-1]'(by omega)) es[i])
def Nr (d:Nat) (ks:List (ByteArray×T)) (i:Nat) (h:i<ks.length):Prop:=iV (ks[i]).1∧(0<i→cK (ks[i-1]'(by omega)).1 (ks[i]).1)∧¬((ks[i]).2.es=[]∧(ks[i]).2.ks=[])∧au d (ks[i]).2
def lD (d:Nat) (ks:List (ByteArray×T)) (k:Nat):Prop:=∀ (i:Nat) (h:i<ks.length),i<k→Nr d ks i h
theorem lC.zero (es:List E):lC es 0:=fun _ _ h=>absurd h (Nat.not_lt_zero _)
theorem lD.zero (d:Nat) (ks:List (ByteArray×T)):lD d ks 0:=fun _ _ h=>absurd h (Nat.not_lt_zero _)
theorem lC.succ {es:List E} {k:Nat} (h:lC es k) (hk:k<es.length) (a:dR es[k]) (b:0<k→mX (es[k-1]'(by omega)) es[k]):lC es (k+1):=fun i hi hlt=>by
 by_cases c:i=k
 ·subst c;exact⟨a,b⟩
 ·exact h i hi (by omega)
theorem lD.succ {d:Nat} {ks:List (ByteArray×T)} {k:Nat} (h:lD d ks k) (c:k<ks.length) (a:Nr d ks k c):lD d ks (k+1):=fun i hi hlt=>by
 by_cases b:i=k
 ·subst b;exact a
 ·exact h i hi (by omega)
theorem uT (d:Nat) (es:List E) (ks:List (ByteArray×T)):au (d+1) (.mk es ks)↔lC es es.length∧lD d ks ks.length:=by
 constructor
 ·rintro⟨b,c,j,l⟩
  refine⟨fun i hi _=>⟨b _ (bT hi),fun a=>tV.1 c (i-1) i (by omega) hi (by omega)⟩,fun i hi _=>?_⟩;obtain⟨f,g,h⟩:=l _ (bT hi);exact⟨f,fun a=>tV.1 j (i-1) i (by omega) hi (by omega),g,h⟩
 ·rintro⟨b,c⟩
  refine⟨fun e m=>?_,G6 (lt:=mX) (fun _ _ _=>Bf) fun i a hi=>(b i hi hi).2 a,?_,fun k n=>?_⟩
  ·obtain⟨i,hi,rfl⟩:=qz m
   exact (b i hi hi).1
  ·refine G6 (lt:=fun x y:ByteArray×T=>cK x.1 y.1) (fun _ _ _=>aQ.tr _ _ _) fun i a hi=>(c i hi hi).2.1 a
  ·obtain⟨i,hi,rfl⟩:=qz n
   obtain⟨f,_,g,h⟩:=c i hi hi;exact⟨f,g,h⟩
noncomputable def ak (d:Nat) (t:T):Bool:=decide (au d t)
theorem vO (t:T):ak 0 t=false:=aM (by intro h;cases t;exact h)
theorem xP {d:Nat} {es:List E} {ks:List (ByteArray×T)} (a:lC es es.length) (b:lD d ks ks.length):ak (d+1) (.mk es ks)=true:=aJ ((uT d es ks).2 ⟨a,b⟩)
theorem jV {d:Nat} {es:List E} {ks:List (ByteArray×T)} (k:Nat) (a:k<es.length) (h:¬(dR es[k]∧(0<k→mX (es[k-1]'(by omega)) es[k]))):ak (d+1) (.mk es ks)=false:=
 aM fun b=>h (((uT d es ks).1 b).1 k a a)
theorem dK {d:Nat} {es:List E} {ks:List (ByteArray×T)} (k:Nat) (a:k<ks.length) (h:¬Nr d ks k a):ak (d+1) (.mk es ks)=false:=
 aM fun b=>h (((uT d es ks).1 b).2 k a a)
theorem aO {d:Nat} {t:T} : ak d t=true↔au d t:=eG
end Tr
end
section
open Go.RowKit
def Nn (u:Nat):List UInt8:=if u<128 then [UInt8.ofNat u]else UInt8.ofNat (u % 128+128)::Nn (u / 128)
termination_by u
decreasing_by omega
def Au (bs:List UInt8) (u n:Nat):Prop:=u<18446744073709551616∧n≤bs.length∧bs.take n=Nn u
theorem Au.split {b:List UInt8} {u n:Nat} (h:Au b u n):b=Nn u++b.drop n:=by
 rw[← h.2.2,List.take_append_drop]
theorem Au.len {b:List UInt8} {u n:Nat} (h:Au b u n):n=(Nn u).length:=by
 rw[← h.2.2,l7];have:=h.2.1;omega
section
variable {P:Program}
end

structure Two (a:Nat) (g:Option Nat) (w w':World):Prop where
 os:w'.os=w.os
 tape:w'.tape=w.tape
 output:w'.output=w.output
 size:w.heap.size≤w'.heap.size
 block:∀ k,k<w.heap.size→k≠a→some k≠g→w'.heap[k]?=w.heap[k]?
def wN (g g':Option Nat) (w:World):Prop:=g'=none∨g'=g∨∃ k,g'=some k∧w.heap.size≤k
section
variable {a:Nat} {g g' g2:Option Nat} {w w' w2:World}
theorem Two.refl (a:Nat) (g:Option Nat) (w:World):Two a g w w:=⟨rfl,rfl,rfl,bG,fun _ _ _ _=>rfl⟩
theorem wN.refl (g:Option Nat) (w:World):wN g g w:=.inr (.inl rfl)
theorem Two.of_below (h:av w w'):Two a g w w':=⟨h.os,h.tape,h.output,h.size,fun k b _ _=>h.block k b⟩
theorem Two.trans (h:Two a g w w') (i:wN g g' w) (b:Two a g' w' w2):Two a g w w2:=
 ⟨b.os.trans h.os,b.tape.trans h.tape,b.output.trans h.output,aN h.size b.size,fun k f c d=>
  (b.block k (cO f h.size) c (by
   rcases i with rfl | rfl | ⟨q,rfl,hq⟩
   ·intro e;cases e
   ·exact d
   ·intro e;injection e with e;omega)).trans (h.block k f c d)⟩
theorem wN.trans (c:wN g g' w) (hs:w.heap.size≤w'.heap.size) (b:wN g' g2 w'):wN g g2 w:=by
 rcases b with rfl | rfl | ⟨k,rfl,hk⟩
 ·exact .inl rfl
 ·exact c
 ·exact .inr (.inr ⟨k,rfl,by omega⟩)
theorem Two.setCell (h:Two a g w w') (o:Nat) (u:Value):Two a g w (w'.setCell ⟨a,o,none⟩ u):=
 ⟨h.os,h.tape,h.output,by simpa [World.setCell] using h.size,fun k d b c=>(cZ w' ⟨a,o,none⟩ u k b).trans (h.block k d b c)⟩
theorem Two.cell (h:Two a g w w') {p:Addr} (d:p.block<w.heap.size) (b:p.block≠a) (c:some p.block≠g):w'.cell? p=w.cell? p:=bU (h.block p.block d b c)
theorem Two.frozen (h:Two a g w w') {p:Addr} (d:p.block<w.heap.size) (b:p.block≠a) (c:some p.block≠g):w'.frozen? p=w.frozen? p:=Eb (h.block p.block d b c)
theorem Two.below (h:Two a g w w') {B:Nat} (ha:B≤a) (b:∀ k,g=some k→B≤k) (hB:B≤w.heap.size):Below B w w':=
 ⟨h.os,h.tape,h.output,h.size,fun k hk=>h.block k (by omega) (by omega) (fun e=>by have:=b k e.symm;omega)⟩
theorem ko {base e sz n:Nat} {v:Value} {xs:List Value} (i:w.ownsRow base e sz v n xs) (h:av w w'):w'.ownsRow base e sz v n xs:=by
 refine⟨i.1,?_⟩
 rcases i.2 with j | ⟨b,c,d,rfl,k,f,l⟩
 ·exact .inl j
 ·exact .inr ⟨b,c,d,rfl,k,(h.block b (IC.1 f).1).trans f,l⟩
end
end
section
open ChangeShapes WideShapes ChangeAt RowKit
namespace Sp
def Kg (r:Int×Int):List Value:=[.int .i64 r.1,.int .i64 r.2]
def aS (l:List (Int×Int)):List Value:=l.flatMap Kg
theorem lu (a b:List (Int×Int)):aS (a++b)=aS a++aS b:=by simp[aS]
theorem zZ (l:List (Int×Int)):(aS l).length=l.length*2:=flatMap_len (f:=Kg) (fun _=>rfl) l
theorem Aa (l:List (Int×Int)):∀ u∈aS l,u.oneCell'=true:=by
 intro u hu;obtain⟨r,_,hu⟩:=ol.1 hu;simp[Kg]at hu
 rcases hu with rfl | rfl <;> rfl
theorem iZ (l:List (Int×Int)) (k:Nat) (h:k<l.length):(aS l)[k*2]?=some (.int .i64 l[k].1)∧(aS l)[k*2+1]?=some (.int .i64 l[k].2):=by
 unfold aS
 induction l generalizing k with
 | nil=>simp at h
 | cons d l a=>
  cases k with
  | zero=>simp[Kg]
  | succ k=>
   have:=a k (by simpa using h);rw[tX,show (k+1)*2=(k*2+1)+1 from by omega];simp only[Kg,List.cons_append,List.nil_append,List.getElem?_cons_succ,List.getElem_cons_succ];exact this
def dU (l:List Int):List Value:=l.map fun x=>Value.int .i64 x
theorem qD (l:List Int):∀ u∈dU l,u.oneCell'=true:=by
 intro u hu;obtain⟨r,_,rfl⟩:=dH.1 hu;rfl
theorem J9 (l:List Int) (k:Nat) (h:k<l.length):(dU l)[k]?=some (.int .i64 l[k]):=by
 simp[dU,h]
theorem kZ (a b:List Int):dU (a++b)=dU a++dU b:=by simp[dU]
theorem qh {w:World} {B n c:Nat} {A:Option Addr} {l:List (Int×Int)} (h:Rd w B 2 A n c (aS l)) (hl:l.length=n) {k:Nat} (a:k<n) :
  ∃ b o,A=some ⟨b,o,none⟩∧b<B∧∀ (k:Nat) (a:k<l.length),w.cell? ⟨b,o+k*2,none⟩=some (.int .i64 l[k].1)∧w.cell? ⟨b,o+k*2+1,none⟩=some (.int .i64 l[k].2):=by
 obtain⟨b,o,e,f,d⟩:=h.at_ (by omega);refine⟨b,o,e,f,fun k a=>?_⟩;obtain⟨g,i⟩:=iZ l k a;exact⟨d _ _ g,by rw[Nat.add_assoc];exact d _ _ i⟩
theorem JX {w:World} {B n c:Nat} {A:Option Addr} {l:List Int} (h:Rd w B 1 A n c (dU l)) (_:l.length=n) {k:Nat} (a:k<n) :
  ∃ b o,A=some ⟨b,o,none⟩∧b<B∧∀ (k:Nat) (a:k<l.length),w.cell? ⟨b,o+k,none⟩=some (.int .i64 l[k]):=by
 obtain⟨b,o,e,d,f⟩:=h.at_ (by omega);exact⟨b,o,e,d,fun k a=>f _ _ (J9 l k a)⟩
theorem dO {t sz a:Nat} {z:Value} (h:(Tryz.prog.info? t).map (fun i=>(i.zero,i.size,i.bytes))=some (some z,sz,a)):∃ i,Tryz.prog.info? t=some i∧i.zero=some z∧i.size=sz∧i.bytes=a:=by
 cases hi:Tryz.prog.info? t with
 | none=>rw[hi]at h;cases h
 | some i=>
  rw[hi]at h;simp only[Option.map_some,Option.some.injEq,Prod.mk.injEq]at h;exact⟨i,rfl,h.1,h.2.1,h.2.2⟩
theorem wZ:(Tryz.prog.info? 214).map (fun i=>(i.zero,i.size,i.bytes))=some (some (.agg #[.int .i64 0,.int .i64 0]),2,16):=by kernel_rfl
theorem Cr:(Tryz.prog.info? 157).map (fun i=>(i.zero,i.size,i.bytes))=some (some (.agg #[.int .i64 0,.int .i64 0]),2,16):=by kernel_rfl
theorem Gg:(Tryz.prog.info? 2).map (fun i=>(i.zero,i.size,i.bytes))=some (some (.int .i64 0),1,8):=by kernel_rfl
theorem tJ {t e sz b:Nat} {z:Value} (H:Tryz.prog.underlying t=some (.slice e)) (hi:(Tryz.prog.info? e).map (fun i=>(i.zero,i.size,i.bytes))=some (some z,sz,b)) (s:z.cells.size=sz) (h:0<sz) (f:b≤1000000)
  (W:World) (base q:Nat) (G:W.heap.size=q) (y:base≤W.heap.size) (v:Value) (n:Nat) (xs:List Value) (a:W.ownsRow base e sz v n xs) (news:List Value) (m:Nat) (D:news.length=m*sz) (d:∀ u∈news,u.oneCell'=true) (F:n+m≤1000000) :
  ∃ v' w',(Builtin.append_ #[t,t] t #[v,.slice (some ⟨q,0,none⟩) m m]).run Tryz.prog (W.alloc (.cells news.toArray e)) = .ok v' w' ∧
   w'.ownsRow base e sz v' (n+m) (xs++news)∧Below base W w':=by
 subst G;obtain⟨J,g,l,p,r⟩:=dO hi
 obtain⟨v',w',d,w,x,h4⟩:=iq (P:=Tryz.prog) (W.alloc (.cells news.toArray e)) base t t e J z sz b H g l p r s h
  (a.alloc _) (B:=W.heap.size+1) (A:=some ⟨W.heap.size,0,none⟩) (m:=m) (c:=m) (news:=news)
  ⟨D,by omega,d,fun _=>⟨_,_,rfl,by omega,fun j u hu=>by
   rw[Nat.zero_add,cell_of_row _ _ j _ _ (0,0) (heap_alloc_new _ _)]
   simpa using hu⟩⟩ F f (by simp;omega)
 exact⟨v',w',d,w,((Below.refl base W).alloc y _).grown x (by simp;omega) (fun k C=>(a.lt k C).1)⟩
theorem iI {t e:Nat} (m:Tryz.prog.underlying t=some (.slice e)) (hi:(Tryz.prog.info? e).map (fun i=>(i.zero,i.size,i.bytes))=some (some (.agg #[.int .i64 0,.int .i64 0]),2,16))
  (W:World) (base q:Nat) (k:W.heap.size=q) (h:base≤W.heap.size) (v:Value) (l:List (Int×Int)) (a:W.ownsRow base e 2 v l.length (aS l)) (x y:Int) (hn:l.length≤900000) :
  ∃ A' c' w',(Builtin.append_ #[t,t] t #[v,.slice (some ⟨q,0,none⟩) 1 1]).run Tryz.prog (W.alloc (.cells #[.int .i64 x,.int .i64 y] e)) = .ok (.slice A' (l++[(x,y)]).length c') w' ∧
   Own w' base e 2 A' (l++[(x,y)]).length c' (aS (l++[(x,y)]))∧Below base W w':=by
 obtain⟨v',w',f,b,g⟩:=tJ m hi rfl (by omega) (by omega) W base q k h v l.length (aS l) a [.int .i64 x,.int .i64 y] 1 rfl (by intro u hu;simp at hu;rcases hu with rfl | rfl <;> rfl) (by omega)
 have c:aS (l++[(x,y)])=aS l++[.int .i64 x,.int .i64 y]:=by rw[lu];rfl
 have d:(l++[(x,y)]).length=l.length+1:=by simp
 rw[← c,← d]at b;obtain⟨A',c',rfl,j⟩:=Own.gX b (Aa _);exact⟨A',c',w',f,j,g⟩
theorem Db {w:World} {base e sz n cap g:Nat} {xs:List Value} (h:w.ownsRow base e sz (.slice (some ⟨g,0,none⟩) n cap) n xs) (i:Nat) (u:Value):(w.setCell ⟨g,i,none⟩ u).ownsRow base e sz (.slice (some ⟨g,0,none⟩) n cap) n (xs.set i u):=by
 obtain⟨c,b⟩:=h;refine⟨by rw[List.length_set];exact c,?_⟩
 rcases b with ⟨b,_⟩ | ⟨g',cap',a,m,d,f,k,j,l,p⟩
 ·cases b
 ·injection m with e1 e2 e3
  injection e1 with e1;injection e1 with e1;subst e1;subst e3;refine .inr ⟨g,cap,a.setIfInBounds i u,rfl,d,heap_setCell_same w g i a e u f,k,j,by simpa using l,?_⟩;rw[← p];simp[List.take_set]
theorem Own.place {w:World} {base e sz n c:Nat} {A:Option Addr} {xs:List Value} (h:Own w base e sz A n c xs) (l:0<n):∃ g,A=some ⟨g,0,none⟩∧base≤g∧g<w.heap.size∧(∀ j,w.frozen? ⟨g,j,none⟩=false)∧∀ j u,xs[j]?=some u→w.cell? ⟨g,j,none⟩=some u:=by
 rcases h.row.2 with ⟨_,h0⟩ | ⟨g,cap,cur,m,i,k,_⟩
 ·omega
 ·injection m with e1 e2 e3
  subst e1;obtain⟨b,o,a,d,f⟩:=h.rd.at_ l;injection a with a;injection a with a e5;subst a;subst e5;exact⟨g,rfl,i,d,fun j=>by simp[World.frozen?,k],fun j u hu=>by have:=f j u hu;rwa [Nat.zero_add]at this⟩
theorem aG {w w':World} {base e sz n c:Nat} {A:Option Addr} {xs:List Value} (h:Own w base e sz A n c xs) (a:av w w'):Own w' base e sz A n c xs:=⟨ko h.row a,h.one⟩
instance {base sz n c:Nat} {e:TypeId} {A:Option Addr} {xs:List Value} {v v':World} : fE v v' (Own v base e sz A n c xs) (Own v' base e sz A n c xs):=⟨fun h hb=>aG h hb⟩
theorem jR {w:World} {base e n c g:Nat} {done:List (Int×Int)} {s t a:Int} (h:Own w base e 2 (some ⟨g,0,none⟩) n c (aS (done++[(s,t)]))):Own (w.setCell ⟨g,done.length*2+1,none⟩ (.int .i64 a)) base e 2 (some ⟨g,0,none⟩) n c (aS (done++[(s,a)])):=by
 have b:(aS (done++[(s,t)])).set (done.length*2+1) (.int .i64 a)=aS (done++[(s,a)]):=by
  have d:¬done.length*2+1<(aS done).length:=by rw[zZ];omega
  rw[lu,lu,List.set_append,if_neg d,zZ,Nat.add_sub_cancel_left];rfl
 refine⟨?_,Aa _⟩;rw[← b];exact Db h.row _ _
end Sp
namespace Rw
open Sp
section
variable {α:Type} {f:α→List Value} {k:Nat}
theorem mG (b:∀ a,(f a).length=k):∀ (l:List α) (i j:Nat) (hi:i<l.length),j<k→(l.flatMap f)[i*k+j]?=(f l[i])[j]?
 | [],i,_,hi,_=>by simp at hi
 | a::l,0,j,_,hj=>by
  rw[tX,Nat.zero_mul,Nat.zero_add,List.getElem?_append_left (by rw[b];exact hj)];rfl
 | a::l,i+1,j,hi,hj=>by
  have c:=mG b l i j (by simpa using hi) hj
  have e:(i+1)*k+j=k+(i*k+j):=by rw[Nat.succ_mul];omega
  rw[tX,e,List.getElem?_append_right (by rw[b];omega),b,Nat.add_sub_cancel_left,c];rfl
theorem fJ (d:∀ a,(f a).length=k) {w:World} {B n c:Nat} {A:Option Addr} {l:List α} (h:Rd w B k A n c (l.flatMap f)) {m:Nat} (hm:m<n) :
  ∃ b o,A=some ⟨b,o,none⟩∧b<B∧∀ (i:Nat) (hi:i<l.length) (j:Nat) (u:Value),(f l[i])[j]?=some u→w.cell? ⟨b,o+i*k+j,none⟩=some u:=by
 obtain⟨b,o,e,g,p⟩:=h.at_ (by omega);refine⟨b,o,e,g,fun i hi j u hu=>?_⟩
 have q:j<k:=by
  have:=(List.getElem?_eq_some_iff.1 hu).1
  rwa [d]at this
 rw[Nat.add_assoc];exact p _ _ ((mG d l i j hi q).trans hu)
theorem push (x:∀ a,(f a).length=k) (n:∀ a,∀ u∈f a,u.oneCell'=true) {t e c:Nat} {z:Value} (C:Tryz.prog.underlying t=some (.slice e)) (hi:(Tryz.prog.info? e).map (fun i=>(i.zero,i.size,i.bytes))=some (some z,k,c)) (j:z.cells.size=k) (y:0<k) (g:c≤1000000)
  (W:World) (base q:Nat) (B:W.heap.size=q) (w:base≤W.heap.size) (v:Value) (l:List α) (d:W.ownsRow base e k v l.length (l.flatMap f)) (a:α) (m:Array Value) (h:m=(f a).toArray) (hn:l.length≤900000) :
  ∃ A' c' w',(Builtin.append_ #[t,t] t #[v,.slice (some ⟨q,0,none⟩) 1 1]).run Tryz.prog (W.alloc (.cells m e)) = .ok (.slice A' (l++[a]).length c') w' ∧
   Own w' base e k A' (l++[a]).length c' ((l++[a]).flatMap f)∧Below base W w':=by
 subst h;obtain⟨v',w',D,p,F⟩:=tJ C hi j y g W base q B w v l.length (l.flatMap f) d (f a) 1 (by rw[x,Nat.one_mul]) (n a) (by omega)
 have r:(l++[a]).flatMap f=l.flatMap f++f a:=by simp
 have s:(l++[a]).length=l.length+1:=by simp
 rw[← r,← s]at p
 obtain⟨A',c',rfl,A⟩:=Own.gX p (fun u hu=>by
  obtain⟨b,_,hu⟩:=ol.1 hu
  exact n b u hu)
 exact⟨A',c',w',D,A,F⟩
end
def LM (s:Int×Int×Int):List Value:=[.int .i64 s.1,.int .i64 s.2.1,.int .i64 s.2.2]
theorem wL (s:Int×Int×Int):(LM s).length=3:=rfl
theorem BH (s:Int×Int×Int):∀ u∈LM s,u.oneCell'=true:=by
 intro u hu;simp[LM]at hu
 rcases hu with rfl | rfl | rfl <;> rfl
def aP (l:List (Int×Int×Int)):List Value:=l.flatMap LM
theorem jB {w:World} {B n c:Nat} {A:Option Addr} {l:List (Int×Int×Int)} (h:Rd w B 3 A n c (aP l)) {m:Nat} (g:m<n) :
  ∃ b o,A=some ⟨b,o,none⟩∧b<B∧∀ (i:Nat) (hi:i<l.length),w.cell? ⟨b,o+i*3,none⟩=some (.int .i64 l[i].1)∧w.cell? ⟨b,o+i*3+1,none⟩=some (.int .i64 l[i].2.1)∧w.cell? ⟨b,o+i*3+2,none⟩=some (.int .i64 l[i].2.2):=by
 obtain⟨b,o,e,d,a⟩:=fJ wL h g;exact⟨b,o,e,d,fun i hi=>⟨a i hi 0 _ rfl,a i hi 1 _ rfl,a i hi 2 _ rfl⟩⟩
end Rw
namespace Rw
open Sp
structure SV where
 A:Option Addr
 n:Nat
 c:Nat
def SV.val (s:SV):Value:=.slice s.A s.n s.c
def L6:SV:=⟨none,0,0⟩
def upd {α:Type} (f:Nat→α) (d:Nat) (x:α) (i:Nat):α:=if i=d then x else f i
theorem upd_same {α:Type} (f:Nat→α) (d:Nat) (x:α):upd f d x d=x:=by simp[upd]
theorem bZ {α:Type} (f:Nat→α) {d i:Nat} (x:α) (h:i≠d):upd f d x i=f i:=by simp[upd,h]
structure kT (W:World) (base e sz g:Nat) (s:Nat→SV) (q:Nat→List Value):Prop where
 low:g<base
 high:base≤W.heap.size
 free:aA g W
 cell:∀ d,d<4→W.cell? ⟨g,d,none⟩=some (.slice (s d).A (s d).n (s d).c)
 own:∀ d,d<4→Own W base e sz (s d).A (s d).n (s d).c (q d)
 apart:∀ d d',d<4→d'<4→d≠d'→∀ b,(s d).val.ownBlock=some b→(s d').val.ownBlock≠some b
namespace kT
variable {W:World} {base e sz g:Nat} {s:Nat→SV} {q:Nat→List Value}
theorem later {b:World} (h:kT W base e sz g s q) (a:av W b):kT b base e sz g s q:=
 ⟨h.low,aN h.high a.size,h.free.later a,fun d hd=>(a.cell (p:=⟨g,d,none⟩) h.free.1).trans (h.cell d hd),fun d hd=>aG (h.own d hd) a,h.apart⟩
theorem nil {W:World} {base e sz g:Nat} (a:g<base) (high:base≤W.heap.size) (free:aA g W) (c:∀ d,d<4→W.cell? ⟨g,d,none⟩=some (.slice none 0 0)):kT W base e sz g (fun _=>L6) (fun _=>[]):=
 ⟨a,high,free,c,fun _ _=>⟨iy _ _ _ _,by simp⟩,fun _ _ _ _ _ b h=>by simp[L6,SV.val,Value.ownBlock]at h⟩
theorem lt (h:kT W base e sz g s q) {d b:Nat} (hd:d<4) (a:(s d).val.ownBlock=some b):base≤b∧b<W.heap.size:=(h.own d hd).row.lt b a
theorem rd (h:kT W base e sz g s q) {d:Nat} (hd:d<4):Rd W W.heap.size sz (s d).A (s d).n (s d).c (q d):=(h.own d hd).rd
theorem push {t H:Nat} {z:Value} (ht:Tryz.prog.underlying t=some (.slice e)) (hi:(Tryz.prog.info? e).map (fun i=>(i.zero,i.size,i.bytes))=some (some z,sz,H)) (N8:z.cells.size=sz) (Z:0<sz) (X:H≤1000000)
  (h:kT W base e sz g s q) {d:Nat} (hd:d<4) (p:Nat) (hp:W.heap.size=p) (news:List Value) (hm:news.length=1*sz) (J:∀ u∈news,u.oneCell'=true) (hn:(s d).n≤900000) :
  ∃ A' c' w',(Builtin.append_ #[t,t] t #[.slice (s d).A (s d).n (s d).c,.slice (some ⟨p,0,none⟩) 1 1]).run Tryz.prog (W.alloc (.cells news.toArray e)) = .ok (.slice A' ((s d).n+1) c') w' ∧
   (∀ b,(s d).val.ownBlock≠some b→b<W.heap.size→∀ j,w'.cell? ⟨b,j,none⟩=W.cell? ⟨b,j,none⟩)∧aA g w'∧Below base W w' ∧
   kT (w'.setCell ⟨g,d,none⟩ (.slice A' ((s d).n+1) c')) base e sz g (upd s d ⟨A',(s d).n+1,c'⟩) (upd q d (q d++news)):=by
 subst hp;obtain⟨i0,Y,Ny,Nz,N7⟩:=dO hi;have O:=(h.own d hd).row
 obtain⟨v',w',r1,r2,V,Q⟩:=iq (P:=Tryz.prog) (W.alloc (.cells news.toArray e)) base t t e i0 z sz H ht Y Ny Nz N7 N8 Z
  (O.alloc _) (B:=W.heap.size+1) (A:=some ⟨W.heap.size,0,none⟩) (m:=1) (c:=1) (news:=news)
  ⟨hm,by omega,J,fun _=>⟨_,_,rfl,by omega,fun j u hu=>by
   rw[Nat.zero_add,cell_of_row _ _ j _ _ (0,0) (heap_alloc_new _ _)]
   simpa using hu⟩⟩ (by omega) X (by have:=h.high;simp;omega)
 obtain⟨A',c',rfl,ho⟩:=Own.gX r2 (fun u hu=>by
  rcases fO.1 hu with hu | hu
  ·exact (h.own d hd).one u hu
  ·exact J u hu)
 have w:∀ b,(s d).val.ownBlock≠some b→b<W.heap.size→w'.heap[b]?=W.heap[b]?:=fun b l M=>
  (V.block b (by simp;omega) (fun e=>l e.symm)).trans (heap_alloc_old W _ M)
 have C:W.heap.size≤w'.heap.size:=by have:=V.size;simp at this;omega
 have L:∀ f,f<4→(s f).val.ownBlock≠some g:=fun f r l=>by have:=(h.lt r l).1;have:=h.low;omega
 have v:aA g w':=⟨cO h.free.1 C,fun j=>(Eb (a:=⟨g,j,none⟩) (w g (L d hd) h.free.1)).trans (h.free.2 j)⟩;have N:Below base W w':=((Below.refl base W).alloc h.high _).grown V (by have:=h.high;simp;omega) (fun k hk=>(h.lt hd hk).1)
 have y:∀ b,(SV.val ⟨A',(s d).n+1,c'⟩).ownBlock=some b→b=W.heap.size+1∨(s d).val.ownBlock=some b:=fun b l=>by
  rcases Q with Q | Q
  ·exact .inr (Q.symm.trans l)
  ·have:some b=some (W.alloc (.cells news.toArray e)).heap.size:=l.symm.trans Q
   injection this with this
   simp at this
   exact .inl this
 refine⟨A',c',w',r1,fun b l M j=>bU (a:=⟨b,j,none⟩) (w b l M),v,N,⟨h.low,by have:=h.high;simpa [World.setCell] using aN this C,v.set _ _,?_,?_,?_⟩⟩
 ·intro f r
  by_cases G:f=d
  ·subst G
   rw[upd_same];have k0:w'.cell? ⟨g,f,none⟩=some (.slice (s f).A (s f).n (s f).c):=(bU (a:=⟨g,f,none⟩) (w g (L f hd) h.free.1)).trans (h.cell f hd);have m0:=v.2 f;go_simp
  ·rw[bZ _ _ G]
   rw[oW w' ⟨g,d,none⟩ ⟨g,f,none⟩ _ (fun e=>by injection e with _ e;exact G e.symm)];exact (bU (a:=⟨g,f,none⟩) (w g (L d hd) h.free.1)).trans (h.cell f r)
 ·intro f r
  by_cases G:f=d
  ·subst G
   rw[upd_same,upd_same];exact ho.aT (a:=⟨g,f,none⟩) h.low _
  ·rw[bZ _ _ G,bZ _ _ G]
   refine Own.aT ⟨?_,(h.own f r).one⟩ (a:=⟨g,d,none⟩) h.low _;refine ((h.own f r).row.alloc _).kept V ?_
   cases hv:(s f).val.ownBlock with
   | none=>exact .inl hv
   | some b=>exact .inr (fun e=>h.apart f d r hd G b hv (e.symm.trans hv))
 ·intro R S J U F b l
  by_cases e1:R=d
  ·subst e1
   rw[upd_same]at l;rw[bZ _ _ (Ne.symm F)];intro D
   rcases y b l with x | x
   ·have:=(h.lt U D).2;omega
   ·exact h.apart R S J U F b x D
  ·rw[bZ _ _ e1]at l
   by_cases e2:S=d
   ·subst e2
    rw[upd_same];intro D
    rcases y b D with x | x
    ·have:=(h.lt J l).2;omega
    ·exact h.apart R S J U F b l x
   ·rw[bZ _ _ e2]
    exact h.apart R S J U F b l
end kT
end Rw
namespace Tr
open Rw
def wT (e:E):List Value:=[.int .i64 e.a,.int .i64 e.n,.string e.s,.int .i64 e.v]
theorem gQ (e:E):(wT e).length=4:=rfl
theorem Jk (e:E):∀ u∈wT e,u.oneCell'=true:=by
 intro u hu;simp[wT]at hu
 rcases hu with rfl | rfl | rfl | rfl <;> rfl
def bV (l:List E):List Value:=l.flatMap wT
theorem IV {ks:List (ByteArray×T)} {i:Nat} (h:i<ks.length) (es:List E):SizeOf.sizeOf (ks[i]).2<SizeOf.sizeOf (T.mk es ks):=xq (bT h)
def aF (w:World) (B:Nat):T→SV→SV→Prop
 | .mk es ks,se,sk=>es.length=se.n∧Rd w B 4 se.A se.n se.c (bV es)∧ks.length=sk.n∧∃ xs:List Value,Rd w B 3 sk.A sk.n sk.c xs ∧
   ∀ (i:Nat) (h:i<ks.length),∃ se' sk':SV,xs[i*3]?=some (.string (ks[i]).1)∧xs[i*3+1]?=some (.slice se'.A se'.n se'.c)∧xs[i*3+2]?=some (.slice sk'.A sk'.n sk'.c)∧aF w B (ks[i]).2 se' sk'
termination_by t=>SizeOf.sizeOf t
decreasing_by exact IV h es
theorem gL (w:World) (B:Nat) (es:List E) (ks:List (ByteArray×T)) (se d:SV):aF w B (.mk es ks) se d↔(es.length=se.n∧Rd w B 4 se.A se.n se.c (bV es)∧ks.length=d.n∧∃ xs:List Value,Rd w B 3 d.A d.n d.c xs ∧
   ∀ (i:Nat) (h:i<ks.length),∃ a b:SV,xs[i*3]?=some (.string (ks[i]).1)∧xs[i*3+1]?=some (.slice a.A a.n a.c)∧xs[i*3+2]?=some (.slice b.A b.n b.c)∧aF w B (ks[i]).2 a b):=by
 rw[aF]
theorem aF.keep {w w':World} {B:Nat} (d:∀ p:Addr,p.block<B→w'.cell? p=w.cell? p):∀ (t:T) {se b:SV},aF w B t se b→aF w' B t se b:=by
 intro t
 induction t using T.ind with
 | h es ks ih=>
  intro se b h;rw[gL]at h ⊢;obtain⟨k,l,m,r,n,q⟩:=h;refine⟨k,l.keep d,m,r,n.keep d,fun i hi=>?_⟩;obtain⟨a,c,e,f,g,j⟩:=q i hi;exact⟨a,c,e,f,g,ih _ (bT hi) j⟩
theorem aF.more {w:World} {B d:Nat} (e:B≤d):∀ (t:T) {se b:SV},aF w B t se b→aF w d t se b:=by
 intro t
 induction t using T.ind with
 | h es ks ih=>
  intro se b h;rw[gL]at h ⊢;obtain⟨l,m,n,r,p,q⟩:=h;refine⟨l,m.more e,n,r,p.more e,fun i hi=>?_⟩;obtain⟨a,c,f,g,j,k⟩:=q i hi;exact⟨a,c,f,g,j,ih _ (bT hi) k⟩
theorem aF.below {w w':World} {B:Nat} {t:T} {se a:SV} (h:aF w B t se a) (b:Below B w w'):aF w' B t se a:=aF.keep (fun _ c=>b.cell c) t h
theorem aF.later {w w':World} {t:T} {se b:SV} (h:aF w w.heap.size t se b) (a:av w w'):aF w' w'.heap.size t se b:=aF.more a.size t (h.below a)
instance {t:T} {se sk:SV} {v v':World} : fE v v' (aF v v.heap.size t se sk) (aF v' v'.heap.size t se sk):=⟨fun h hb=>aF.later h hb⟩
theorem aF.none (w:World) (B c c':Nat):aF w B none_ ⟨none,0,c⟩ ⟨none,0,c'⟩:=by
 unfold none_;rw[gL];exact⟨rfl,Rd.nil _,rfl,[],Rd.nil _,fun i hi=>by simp at hi⟩
theorem uR {w:World} {B:Nat} {es:List E} {ks:List (ByteArray×T)} {Ae Ak:Option Addr} {ne nk ce ck:Nat} (h:aF w B (.mk es ks) ⟨Ae,ne,ce⟩ ⟨Ak,nk,ck⟩) (f:0<ne) :
  ∃ b o,Ae=some ⟨b,o,none⟩∧b<B∧∀ (i:Nat) (hi:i<es.length),w.cell? ⟨b,o+i*4,none⟩=some (.int .i64 es[i].a)∧w.cell? ⟨b,o+i*4+1,none⟩=some (.int .i64 es[i].n)∧w.cell? ⟨b,o+i*4+2,none⟩=some (.string es[i].s)∧w.cell? ⟨b,o+i*4+3,none⟩=some (.int .i64 es[i].v):=by
 rw[gL]at h;obtain⟨b,o,e,d,c⟩:=fJ gQ h.2.1 f;exact⟨b,o,e,d,fun i hi=>⟨c i hi 0 _ rfl,c i hi 1 _ rfl,c i hi 2 _ rfl,c i hi 3 _ rfl⟩⟩
theorem iJ {w:World} {B:Nat} {es:List E} {ks:List (ByteArray×T)} {Ae Ak:Option Addr} {ne nk ce ck:Nat} (h:aF w B (.mk es ks) ⟨Ae,ne,ce⟩ ⟨Ak,nk,ck⟩) (r:0<nk) :
  ∃ b o,Ak=some ⟨b,o,none⟩∧b<B∧∀ (i:Nat) (hi:i<ks.length),∃ a d:SV,w.cell? ⟨b,o+i*3,none⟩=some (.string (ks[i]).1)∧w.cell? ⟨b,o+i*3+1,none⟩=some (.slice a.A a.n a.c)∧w.cell? ⟨b,o+i*3+2,none⟩=some (.slice d.A d.n d.c)∧aF w B (ks[i]).2 a d:=by
 rw[gL]at h;obtain⟨_,_,_,xs,m,p⟩:=h;obtain⟨b,o,e,q,f⟩:=m.at_ r;refine⟨b,o,e,q,fun i hi=>?_⟩;obtain⟨a,d,g,j,k,l⟩:=p i hi;refine⟨a,d,f _ _ g,?_,?_,l⟩
 ·rw[Nat.add_assoc];exact f _ _ j
 ·rw[Nat.add_assoc];exact f _ _ k
theorem bn {w:World} {B:Nat} {es:List E} {ks:List (ByteArray×T)} {Ae Ak:Option Addr} {ne nk ce ck:Nat} (h:aF w B (.mk es ks) ⟨Ae,ne,ce⟩ ⟨Ak,nk,ck⟩):es.length=ne∧ks.length=nk:=by
 rw[gL]at h;exact⟨h.1,h.2.2.1⟩
def rC (f:ByteArray×T→Nat) (ks:List (ByteArray×T)) (k:Nat):Nat:=((ks.take k).map f).sum
theorem Hz (f:ByteArray×T→Nat) (ks:List (ByteArray×T)):rC f ks 0=0:=rfl
theorem zN (f:ByteArray×T→Nat) {ks:List (ByteArray×T)} {k:Nat} (h:k<ks.length):rC f ks (k+1)=rC f ks k+f ks[k]:=by
 unfold rC;rw[dZ h];simp only[mD,List.sum_append,List.map_cons,List.map_nil,om,List.sum_nil,Nat.add_zero]
theorem C8 (f:ByteArray×T→Nat) {ks:List (ByteArray×T)} {n:Nat} (h:ks.length=n):rC f ks n=(ks.map f).sum:=by
 unfold rC;rw[eO (by omega)]
theorem Gj (f:ByteArray×T→Nat) (ks:List (ByteArray×T)) (k:Nat):rC f ks k≤(ks.map f).sum:=by
 unfold rC
 conv=>rhs;rw[← List.take_append_drop k ks]
 rw[mD,List.sum_append];omega
end Tr
namespace Dt
theorem Bj (a:Int) (w:World):Calls Tryz.prog 192 #[.int .i64 a] w fun e w'=>e = .returned (.bool false)∧w=w':=by
 have f1:(a != a)=false:=by simp
 go_enter Tryz.func192,Tryz.ntmps192;go_wp2;go_ret;exact⟨rfl,rfl⟩
theorem uJ (a:Int) (w:World):Calls Tryz.prog 193 #[.int .i64 a] w fun e w'=>e = .returned (.bool false)∧w=w':=by
 have f1:(a != a)=false:=by simp
 go_enter Tryz.func193,Tryz.ntmps193;go_wp2;go_ret;exact⟨rfl,rfl⟩
theorem KP (a b:Int) (w:World):Calls Tryz.prog 165 #[.int .i64 a,.int .i64 b] w fun e w'=>e = .returned (.int .i64 (mq a b))∧w=w':=by
 rcases Int.lt_trichotomy a b with h | rfl | h
 ·rw[wu h]
  have c:decide (a<b)=true:=by simpa using h
  go_enter Tryz.func165,Tryz.ntmps165;go_wp2_with (go_at_call 192;refine (Bj _ _).mono ?_;rintro e w' ⟨rfl,rfl⟩);go_ret;exact⟨rfl,rfl⟩
 ·rw[vZ]
  have c:decide (a<a)=false:=by simp
  go_enter Tryz.func165,Tryz.ntmps165;go_wp2_with (go_at_call 192;refine (Bj _ _).mono ?_;rintro e w' ⟨rfl,rfl⟩);go_ret;exact⟨rfl,rfl⟩
 ·rw[AA h]
  have c:decide (a<b)=false:=by simp;omega
  have f2:decide (b<a)=true:=by simpa using h
  go_enter Tryz.func165,Tryz.ntmps165;go_wp2_with (go_at_call 192;refine (Bj _ _).mono ?_;rintro e w' ⟨rfl,rfl⟩);go_ret;exact⟨rfl,rfl⟩
theorem zq (a b:Int) (w:World):Calls Tryz.prog 166 #[.int .i64 a,.int .i64 b] w fun e w'=>e = .returned (.int .i64 (mq a b))∧w=w':=by
 rcases Int.lt_trichotomy a b with h | rfl | h
 ·rw[wu h]
  have c:decide (a<b)=true:=by simpa using h
  go_enter Tryz.func166,Tryz.ntmps166;go_wp2_with (go_at_call 193;refine (uJ _ _).mono ?_;rintro e w' ⟨rfl,rfl⟩);go_ret;exact⟨rfl,rfl⟩
 ·rw[vZ]
  have c:decide (a<a)=false:=by simp
  go_enter Tryz.func166,Tryz.ntmps166;go_wp2_with (go_at_call 193;refine (uJ _ _).mono ?_;rintro e w' ⟨rfl,rfl⟩);go_ret;exact⟨rfl,rfl⟩
 ·rw[AA h]
  have c:decide (a<b)=false:=by simp;omega
  have f2:decide (b<a)=true:=by simpa using h
  go_enter Tryz.func166,Tryz.ntmps166;go_wp2_with (go_at_call 193;refine (uJ _ _).mono ?_;rintro e w' ⟨rfl,rfl⟩);go_ret;exact⟨rfl,rfl⟩
theorem Fa (g:Nat) (x y:Int) (w:World) (h0:w.cell? ⟨g,0,none⟩=some (.int .i64 x)) (h1:w.cell? ⟨g,1,none⟩=some (.int .i64 y)) :
  Calls Tryz.prog 164 #[.slice (some ⟨g,0,none⟩) 2 2] w fun e w'=>e = .returned (.int .i64 (if x=0 then y else x))∧w=w':=by
 by_cases a:x=0
 ·rw[if_pos a]
  subst a
  by_cases b:y=0
  ·subst b
   go_enter Tryz.func164,Tryz.ntmps164;go_wp2
   go_loop [8] (fun i=>∃ k:Nat,k≤2∧i = .int .i64 k) (fun i=>2-(intOf i).toNat)
   case atStart=>exact⟨0,by omega,rfl⟩
   case round=>
    obtain⟨k,d,rfl⟩:=hrel
    rcases (by omega:k=0∨k=1∨k=2)with rfl | rfl | rfl
    ·go_wp2
     go_round
     case rel=>exact⟨1,by omega,rfl⟩
     case measure=>simp[intOf]
    ·go_wp2
     go_round
     case rel=>exact⟨2,by omega,rfl⟩
     case measure=>simp[intOf]
    ·go_wp2
     go_ret;exact⟨rfl,rfl⟩
  ·have c:(y != 0)=true:=by simpa using b
   go_enter Tryz.func164,Tryz.ntmps164;go_wp2
   go_loop [8] (fun i=>∃ k:Nat,k≤1∧i = .int .i64 k) (fun i=>2-(intOf i).toNat)
   case atStart=>exact⟨0,by omega,rfl⟩
   case round=>
    obtain⟨k,d,rfl⟩:=hrel
    rcases (by omega:k=0∨k=1)with rfl | rfl
    ·go_wp2
     go_round
     case rel=>exact⟨1,by omega,rfl⟩
     case measure=>simp[intOf]
    ·go_wp2
     go_ret;exact⟨rfl,rfl⟩
 ·rw[if_neg a]
  have c:(x != 0)=true:=by simpa using a
  go_enter Tryz.func164,Tryz.ntmps164;go_wp2
  go_loop [8] (fun i=>i = .int .i64 0) (fun i=>2-(intOf i).toNat)
  case atStart=>rfl
  case round=>
   subst hrel;go_wp2;go_ret;exact⟨rfl,rfl⟩
theorem bC (w:World) (x y:Array Value) (t u:TypeId):av w ((w.alloc (.cells x t)).alloc (.cells y u)):=((bN).alloc (bG) _).alloc (by simp) _
set_option maxRecDepth 100000 in
set_option maxHeartbeats 400000 in
theorem pY (a n b m:Int) (w:World):Calls Tryz.prog 120 #[.agg #[.int .i64 a,.int .i64 n],.agg #[.int .i64 b,.int .i64 m]] w fun e w'=>e = .returned (.bool (kI a n b m))∧av w w':=by
 by_cases f:a=b
 ·subst f
  have g:(a != a)=false:=by simp
  by_cases d:n<m
  ·have c:decide (n<m)=true:=by simpa using d
   go_enter Tryz.func120,Tryz.ntmps120;go_wp2;go_ret;exact⟨aj (by unfold kI;simp;omega),bC _ _ _ _ _⟩
  ·have c:decide (n<m)=false:=by simp;omega
   go_enter Tryz.func120,Tryz.ntmps120;go_wp2;go_ret;exact⟨aj (by unfold kI;simp;omega),bC _ _ _ _ _⟩
 ·have g:(a != b)=true:=by simpa using f
  by_cases d:a<b
  ·have c:decide (a<b)=true:=by simpa using d
   go_enter Tryz.func120,Tryz.ntmps120;go_wp2;go_ret;exact⟨aj (by unfold kI;simp;omega),bC _ _ _ _ _⟩
  ·have c:decide (a<b)=false:=by simp;omega
   go_enter Tryz.func120,Tryz.ntmps120;go_wp2;go_ret;exact⟨aj (by unfold kI;simp;omega),bC _ _ _ _ _⟩
theorem KM (a n b m:Int):(if mq a b=0 then mq n m else mq a b)=lH a n b m:=by
 unfold mq lH
 repeat' split
 all_goals omega
set_option maxRecDepth 100000 in
set_option maxHeartbeats 400000 in
theorem pO (a n b m:Int) (w:World):Calls Tryz.prog 134 #[.agg #[.int .i64 a,.int .i64 n],.agg #[.int .i64 b,.int .i64 m]] w fun e w'=>e = .returned (.int .i64 (lH a n b m))∧av w w':=by
 have q:=ah (KM a n b m);obtain⟨x,i⟩:∃ x,x=mq a b:=⟨_,rfl⟩;obtain⟨y,j⟩:∃ y,y=mq n m:=⟨_,rfl⟩;rw[← i,← j]at q
 have k:∀ W,ai (Calls Tryz.prog 165 #[.int .i64 a,.int .i64 b] W fun e w'=>e = .returned (.int .i64 x)∧w'=W):=fun W=>by rw[i];exact (KP a b W).mono fun _ _ h=>⟨h.1,h.2.symm⟩
 have l:∀ W,ai (Calls Tryz.prog 166 #[.int .i64 n,.int .i64 m] W fun e w'=>e = .returned (.int .i64 y)∧w'=W):=fun W=>by rw[j];exact (zq n m W).mono fun _ _ h=>⟨h.1,h.2.symm⟩
 clear i j;go_enter Tryz.func134,Tryz.ntmps134;go_wp2;have f:=ah (bC w #[.int .i64 a,.int .i64 n] #[.int .i64 b,.int .i64 m] 37 37);obtain⟨p,c⟩:∃ p,p=w.heap.size:=⟨_,rfl⟩;obtain⟨W,d⟩:∃ W,W=(w.alloc (.cells #[.int .i64 a,.int .i64 n] 37)).alloc (.cells #[.int .i64 b,.int .i64 m] 37):=⟨_,rfl⟩
 have r:W.cell? ⟨p,0,none⟩=some (.int .i64 a):=by rw[d,c];go_simp
 have s:W.cell? ⟨p,1,none⟩=some (.int .i64 n):=by rw[d,c];go_simp
 have t:W.cell? ⟨p+1,0,none⟩=some (.int .i64 b):=by rw[d,c];go_simp
 have u:W.cell? ⟨p+1,1,none⟩=some (.int .i64 m):=by rw[d,c];go_simp
 rw[← d]at f ⊢;rw[← c];have HP:=ah c;clear d c;refine wp_region_still_tail 10 (by kernel_rfl) (by kernel_rfl) ?_;simp only[List.take_succ_cons,List.take_zero,List.drop_succ_cons,List.drop_zero]
 still_step
 still_step
 still_step
 still_step
 still_call (k _).o
 still_step
 still_step
 still_step
 still_step
 still_call (l _).o
 refine wpStill_nil ?_
 change wpList _ _ _ _ _ W.drew
 have g:ai (av w (W.drew.alloc (.cells #[.int .i64 x,.int .i64 y] 3))):=((aK f 1)).alloc (by have:=f.size;simpa using this) _;clear k l r s t u f
 generalize W.drew=W2 at *
 go_wp2_with (go_at_call 164;refine (Fa W2.heap.size x y _ (by go_simp) (by go_simp)).mono ?_;rw[q.o];rintro e w' ⟨rfl,rfl⟩);go_ret;exact⟨rfl,g⟩

end Dt
namespace Tr
open Sp Rw
theorem bg {P:Program} {o:Oper} {a:Go.Act} {K:Go.Act→World→Prop} {Q:Exit→Go.Act→World→Prop} {w w':World} {v b v':Value} (s x:Operand) (t:TypeId)
  (c:o.op = .call { callee:=.builtin .append,args:=#[s,x],argTypes:=#[t,t] }) (hs:a.eval s=v) (hx:a.eval x=b)
  (hr:(Builtin.append_ #[t,t] o.type #[v,b]).run P w = .ok v' w') (h:K (a.put o.dst v') w'):Oper.upon P o a K Q ((execOp a.eval o).run P w):=by
 unfold execOp;simp only[c,resolve,invoke,builtin,Sem.run_bind,Sem.run_pure,Result.andThen_ok,List.map_toArray,List.map_cons,List.map_nil,hs,hx,hr];exact h
theorem iO (Ae Ak:Option Addr) (ne nk ce ck:Nat) (w:World):Calls Tryz.prog 136 #[.agg #[.slice Ae ne ce,.slice Ak nk ck]] w fun e w'=>e = .returned (.bool (decide (ne=0∧nk=0)))∧av w w':=by
 by_cases a:ne=0
 ·by_cases b:nk=0
  ·have c:((ne:Int)==0)=true:=by simpa using a
   have d:((nk:Int)==0)=true:=by simpa using b
   go_enter Tryz.func136,Tryz.ntmps136;go_wp2;go_ret;exact⟨Dt.aj (by simp[a,b]),Dt.ay _ _ _⟩
  ·have c:((ne:Int)==0)=true:=by simpa using a
   have d:((nk:Int)==0)=false:=by simpa using b
   go_enter Tryz.func136,Tryz.ntmps136;go_wp2;go_ret;exact⟨Dt.aj (by simp[b]),Dt.ay _ _ _⟩
 ·have c:((ne:Int)==0)=false:=by simpa using a
  go_enter Tryz.func136,Tryz.ntmps136;go_wp2;go_ret;exact⟨Dt.aj (by simp[a]),Dt.ay _ _ _⟩
def lg (k:ByteArray):Bool:=decide (1≤k.size∧k.size≤30)
theorem fI {k:ByteArray} : lg k=true↔iV k:=eG (p:=1≤k.size∧k.size≤30)
theorem tF (k:ByteArray) (w:World):Calls Tryz.prog 135 #[.string k] w fun e w'=>e = .returned (.bool (lg k))∧w=w':=by
 by_cases b:1≤k.size
 ·by_cases c:k.size≤30
  ·have a:decide ((1:Int)≤(k.size:Int))=true:=by simp;omega
   have d:decide ((k.size:Int)≤30)=true:=by simp;omega
   go_enter Tryz.func135,Tryz.ntmps135;go_wp2;go_ret;exact⟨Dt.aj (by unfold lg;simp[b,c]),rfl⟩
  ·have a:decide ((1:Int)≤(k.size:Int))=true:=by simp;omega
   have d:decide ((k.size:Int)≤30)=false:=by simp;omega
   go_enter Tryz.func135,Tryz.ntmps135;go_wp2;go_ret;exact⟨Dt.aj (by unfold lg;simp[c]),rfl⟩
 ·have a:decide ((1:Int)≤(k.size:Int))=false:=by simp;omega
  go_enter Tryz.func135,Tryz.ntmps135;go_wp2;go_ret;exact⟨Dt.aj (by unfold lg;simp[b]),rfl⟩
theorem rM (k:ByteArray) (w:World):Calls Tryz.prog 44 #[.string k] w fun e w'=>e = .returned (.bool (lg k))∧w=w':=by
 by_cases b:1≤k.size
 ·by_cases c:k.size≤30
  ·have a:decide ((1:Int)≤(k.size:Int))=true:=by simp;omega
   have d:decide ((k.size:Int)≤30)=true:=by simp;omega
   go_enter Tryz.func44,Tryz.ntmps44;go_wp2;go_ret;exact⟨Dt.aj (by unfold lg;simp[b,c]),rfl⟩
  ·have a:decide ((1:Int)≤(k.size:Int))=true:=by simp;omega
   have d:decide ((k.size:Int)≤30)=false:=by simp;omega
   go_enter Tryz.func44,Tryz.ntmps44;go_wp2;go_ret;exact⟨Dt.aj (by unfold lg;simp[c]),rfl⟩
 ·have a:decide ((1:Int)≤(k.size:Int))=false:=by simp;omega
  go_enter Tryz.func44,Tryz.ntmps44;go_wp2;go_ret;exact⟨Dt.aj (by unfold lg;simp[b]),rfl⟩
def nE (e:E):Bool:=Dt.ak e.a e.n&&decide (e.s.size≤30 ∧ -1099511627776≤e.v∧e.v≤1099511627776)
theorem iY {e:E} : nE e=true↔dR e:=by
 unfold nE dR;rw[Bool.and_eq_true,eG]
def yN (e:E):Value:=.agg #[.int .i64 e.a,.int .i64 e.n,.string e.s,.int .i64 e.v]
theorem FY {e:E} (h:Dt.ak e.a e.n=false):nE e=false:=by unfold nE;rw[h,Bool.false_and]
theorem nG {e:E} (h:¬(e.s.size≤30 ∧ -1099511627776≤e.v∧e.v≤1099511627776)):nE e=false:=by unfold nE;rw[aM h,Bool.and_false]
set_option maxHeartbeats 800000 in
theorem xQ (e:E) (w:World):Calls Tryz.prog 133 #[.agg #[.int .i64 e.a,.int .i64 e.n,.string e.s,.int .i64 e.v]] w fun r w'=>r = .returned (.bool (nE e))∧av w w':=by
 have i:=fun W=>ah (Dt.fD e.a e.n W);obtain⟨a,n,s,v⟩:=e;dsimp only at i ⊢
 cases hd:Dt.ak a n with
 | false=>
  rw[hd]at i;have d:nE ⟨a,n,s,v⟩=false:=FY hd;rw[d];clear d hd;go_enter Tryz.func133,Tryz.ntmps133;go_wp2_with (go_at_call 163;refine (i _).o.mono ?_;rintro e l ⟨rfl,c⟩;have u:=ah c;clear c);go_ret;exact⟨rfl,(Dt.ay _ _ _).trans (u.mono (by simp))⟩
 | true=>
  rw[hd]at i
  by_cases k:s.size≤30
  ·have x:decide ((s.size:Int)≤30)=true:=by simp;omega
   by_cases j : -1099511627776≤v
   ·have y:decide (-1099511627776≤v)=true:=aJ j
    by_cases g:v≤1099511627776
    ·have t:decide (v≤1099511627776)=true:=aJ g
     have d:nE ⟨a,n,s,v⟩=true:=iY.2 ⟨hd,k,j,g⟩;rw[d];clear d hd k j g;go_enter Tryz.func133,Tryz.ntmps133;go_wp2_with (go_at_call 163;have f:=ah (((((Kept.nil w).alloc (.cells #[.int .i64 a,.int .i64 n,.string s,.int .i64 v] 97)).af (p:=⟨w.heap.size,2,none⟩) (v:=.string s) (by go_simp)).af (p:=⟨w.heap.size,3,none⟩) (v:=.int .i64 v) (by go_simp)));refine (i _).o.mono ?_;rintro e l ⟨rfl,c⟩;have b:=ah (f.later c);have m:=b.c0;have q:=b.c1;clear c f);go_ret;exact⟨rfl,b.below⟩
    ·have t:decide (v≤1099511627776)=false:=aM g
     have d:nE ⟨a,n,s,v⟩=false:=nG (by rintro⟨_,_,h⟩;exact g h);rw[d];clear d hd k j g;go_enter Tryz.func133,Tryz.ntmps133;go_wp2_with (go_at_call 163;have f:=ah (((((Kept.nil w).alloc (.cells #[.int .i64 a,.int .i64 n,.string s,.int .i64 v] 97)).af (p:=⟨w.heap.size,2,none⟩) (v:=.string s) (by go_simp)).af (p:=⟨w.heap.size,3,none⟩) (v:=.int .i64 v) (by go_simp)));refine (i _).o.mono ?_;rintro e l ⟨rfl,c⟩;have b:=ah (f.later c);have m:=b.c0;have q:=b.c1;clear c f);go_ret;exact⟨rfl,b.below⟩
   ·have y:decide (-1099511627776≤v)=false:=aM j
    have d:nE ⟨a,n,s,v⟩=false:=nG (by rintro⟨_,h,_⟩;exact j h);rw[d]
    by_cases g:v≤1099511627776
    ·have t:decide (v≤1099511627776)=true:=aJ g
     clear d hd k j g;go_enter Tryz.func133,Tryz.ntmps133;go_wp2_with (go_at_call 163;have f:=ah (((((Kept.nil w).alloc (.cells #[.int .i64 a,.int .i64 n,.string s,.int .i64 v] 97)).af (p:=⟨w.heap.size,2,none⟩) (v:=.string s) (by go_simp)).af (p:=⟨w.heap.size,3,none⟩) (v:=.int .i64 v) (by go_simp)));refine (i _).o.mono ?_;rintro e l ⟨rfl,c⟩;have b:=ah (f.later c);have m:=b.c0;have q:=b.c1;clear c f);go_ret;exact⟨rfl,b.below⟩
    ·omega
  ·have x:decide ((s.size:Int)≤30)=false:=by simp;omega
   have d:nE ⟨a,n,s,v⟩=false:=nG (by rintro⟨h,_⟩;exact k h);rw[d];clear d hd k;go_enter Tryz.func133,Tryz.ntmps133;go_wp2_with (go_at_call 163;have f:=ah (((((Kept.nil w).alloc (.cells #[.int .i64 a,.int .i64 n,.string s,.int .i64 v] 97)).af (p:=⟨w.heap.size,2,none⟩) (v:=.string s) (by go_simp)).af (p:=⟨w.heap.size,3,none⟩) (v:=.int .i64 v) (by go_simp)));refine (i _).o.mono ?_;rintro e l ⟨rfl,c⟩;have b:=ah (f.later c);have m:=b.c0;have q:=b.c1;clear c f);go_ret;exact⟨rfl,b.below⟩
set_option maxHeartbeats 800000 in
theorem jC (e:E) (w:World):Calls Tryz.prog 119 #[.agg #[.int .i64 e.a,.int .i64 e.n,.string e.s,.int .i64 e.v]] w fun r w'=>r = .returned (.bool (nE e))∧av w w':=by
 have i:=fun W=>ah (Dt.gN e.a e.n W);obtain⟨a,n,s,v⟩:=e;dsimp only at i ⊢
 cases hd:Dt.ak a n with
 | false=>
  rw[hd]at i;have d:nE ⟨a,n,s,v⟩=false:=FY hd;rw[d];clear d hd;go_enter Tryz.func119,Tryz.ntmps119;go_wp2_with (go_at_call 80;refine (i _).o.mono ?_;rintro e l ⟨rfl,c⟩;have u:=ah c;clear c);go_ret;exact⟨rfl,(Dt.ay _ _ _).trans (u.mono (by simp))⟩
 | true=>
  rw[hd]at i
  by_cases k:s.size≤30
  ·have x:decide ((s.size:Int)≤30)=true:=by simp;omega
   by_cases j : -1099511627776≤v
   ·have y:decide (-1099511627776≤v)=true:=aJ j
    by_cases g:v≤1099511627776
    ·have t:decide (v≤1099511627776)=true:=aJ g
     have d:nE ⟨a,n,s,v⟩=true:=iY.2 ⟨hd,k,j,g⟩;rw[d];clear d hd k j g;go_enter Tryz.func119,Tryz.ntmps119;go_wp2_with (go_at_call 80;have f:=ah (((((Kept.nil w).alloc (.cells #[.int .i64 a,.int .i64 n,.string s,.int .i64 v] 97)).af (p:=⟨w.heap.size,2,none⟩) (v:=.string s) (by go_simp)).af (p:=⟨w.heap.size,3,none⟩) (v:=.int .i64 v) (by go_simp)));refine (i _).o.mono ?_;rintro e l ⟨rfl,c⟩;have b:=ah (f.later c);have m:=b.c0;have q:=b.c1;clear c f);go_ret;exact⟨rfl,b.below⟩
    ·have t:decide (v≤1099511627776)=false:=aM g
     have d:nE ⟨a,n,s,v⟩=false:=nG (by rintro⟨_,_,h⟩;exact g h);rw[d];clear d hd k j g;go_enter Tryz.func119,Tryz.ntmps119;go_wp2_with (go_at_call 80;have f:=ah (((((Kept.nil w).alloc (.cells #[.int .i64 a,.int .i64 n,.string s,.int .i64 v] 97)).af (p:=⟨w.heap.size,2,none⟩) (v:=.string s) (by go_simp)).af (p:=⟨w.heap.size,3,none⟩) (v:=.int .i64 v) (by go_simp)));refine (i _).o.mono ?_;rintro e l ⟨rfl,c⟩;have b:=ah (f.later c);have m:=b.c0;have q:=b.c1;clear c f);go_ret;exact⟨rfl,b.below⟩
   ·have y:decide (-1099511627776≤v)=false:=aM j
    have d:nE ⟨a,n,s,v⟩=false:=nG (by rintro⟨_,h,_⟩;exact j h);rw[d]
    by_cases g:v≤1099511627776
    ·have t:decide (v≤1099511627776)=true:=aJ g
     clear d hd k j g;go_enter Tryz.func119,Tryz.ntmps119;go_wp2_with (go_at_call 80;have f:=ah (((((Kept.nil w).alloc (.cells #[.int .i64 a,.int .i64 n,.string s,.int .i64 v] 97)).af (p:=⟨w.heap.size,2,none⟩) (v:=.string s) (by go_simp)).af (p:=⟨w.heap.size,3,none⟩) (v:=.int .i64 v) (by go_simp)));refine (i _).o.mono ?_;rintro e l ⟨rfl,c⟩;have b:=ah (f.later c);have m:=b.c0;have q:=b.c1;clear c f);go_ret;exact⟨rfl,b.below⟩
    ·omega
  ·have x:decide ((s.size:Int)≤30)=false:=by simp;omega
   have d:nE ⟨a,n,s,v⟩=false:=nG (by rintro⟨h,_⟩;exact k h);rw[d];clear d hd k;go_enter Tryz.func119,Tryz.ntmps119;go_wp2_with (go_at_call 80;have f:=ah (((((Kept.nil w).alloc (.cells #[.int .i64 a,.int .i64 n,.string s,.int .i64 v] 97)).af (p:=⟨w.heap.size,2,none⟩) (v:=.string s) (by go_simp)).af (p:=⟨w.heap.size,3,none⟩) (v:=.int .i64 v) (by go_simp)));refine (i _).o.mono ?_;rintro e l ⟨rfl,c⟩;have b:=ah (f.later c);have m:=b.c0;have q:=b.c1;clear c f);go_ret;exact⟨rfl,b.below⟩
end Tr
namespace Tr
open Sp Rw
theorem bQ (w:World) (Ae Ak:Option Addr) (ne nk ce ck:Nat):Kept [(⟨w.heap.size,0,none⟩,.slice Ae ne ce),(⟨w.heap.size,1,none⟩,.slice Ak nk ck)] w (w.alloc (.cells #[.slice Ae ne ce,.slice Ak nk ck] 35)):=
 (((Kept.nil w).alloc _).af (by go_simp)).af (by go_simp)
end Tr
namespace Tr
open Sp Rw
def rA (f:ByteArray×T→Nat) (ks:List (ByteArray×T)) (k:Nat):Nat:=((ks.take k).map f).foldl max 0
theorem Hy (f:ByteArray×T→Nat) (ks:List (ByteArray×T)):rA f ks 0=0:=rfl
theorem uF (f:ByteArray×T→Nat) {ks:List (ByteArray×T)} {k:Nat} (h:k<ks.length):rA f ks (k+1)=max (rA f ks k) (f ks[k]):=by
 unfold rA;rw[dZ h];simp only[mD,List.foldl_append,List.map_cons,List.map_nil,List.foldl_cons,List.foldl_nil]
def levels:T→Nat
 | .mk _ ks=>1+(ks.attach.map fun k=>levels k.1.2).foldl max 0
termination_by t=>SizeOf.sizeOf t
decreasing_by exact xq k.2
theorem qE (es:List E) (ks:List (ByteArray×T)):levels (.mk es ks)=1+rA (fun k=>levels k.2) ks ks.length:=by
 rw[levels];unfold rA;rw[List.take_length]
 congr 2
 conv=>rhs;rw[← List.attach_map_subtype_val ks]
 rw[List.map_map];rfl
theorem wE {f:ByteArray×T→Nat} {ks:List (ByteArray×T)} {m:Nat} (h:∀ k∈ks,f k≤m):∀ {k:Nat},k≤ks.length→rA f ks k≤m
 | 0,_=>Nat.zero_le _
 | k+1,hk=>by
  rw[uF f (show k<ks.length by omega)];have h1:=wE h (k:=k) (by omega);have h2:=h _ (bT (show k<ks.length by omega));omega
theorem Gl {f:ByteArray×T→Nat} {ks:List (ByteArray×T)} : ∀ {k:Nat},k≤ks.length→∀ i (hi:i<ks.length),i<k→f ks[i]≤rA f ks k
 | 0,_,_,_,h=>absurd h (Nat.not_lt_zero _)
 | k+1,hk,i,hi,h=>by
  rw[uF f (show k<ks.length by omega)]
  by_cases a:i=k
  ·subst a;omega
  ·have:=Gl (f:=f) (k:=k) (by omega) i hi (by omega)
   omega
theorem uH:∀ {d:Nat} {t:T},au d t→levels t≤d
 | d+1,.mk es ks,h=>by
  rw[qE];have:=wE (f:=fun k=>levels k.2) (ks:=ks) (m:=d) (fun k a=>uH (h.2.2.2 k a).2.2) (k:=ks.length) (bG);omega
theorem au.le {d a:Nat} {t:T} (h:au d t) (hd:d≤a):au a t:=by
 obtain⟨m,rfl⟩:∃ m,a=d+m:=⟨_,(Nat.add_sub_cancel' hd).symm⟩;clear hd
 induction m with
 | zero=>exact h
 | succ m b=>exact b.more
theorem Bd:∀ t:T,levels t≤nodes t+1:=by
 intro t
 induction t using T.ind with
 | h es ks ih=>
  rw[qE,bJ]
  have:rA (fun k=>levels k.2) ks ks.length≤(ks.map fun k=>nodes k.2).sum+ks.length:=by
   refine aN (wE (m:=(ks.map fun k=>nodes k.2).sum+1*(if ks=[]then 0 else 1)) (fun k a=>?_) (bG)) ?_
   ·have h1:=ih k a
    have h2:=pX (f:=fun k:ByteArray×T=>nodes k.2) a;have:ks≠[]:=List.ne_nil_of_mem a;rw[if_neg this];omega
   ·split
    ·omega
    ·have:0<ks.length:=List.length_pos_iff.2 (by assumption)
     omega
  omega
set_option maxRecDepth 100000 in
set_option maxHeartbeats 4000000 in
theorem EN:∀ (t:T) (Ae Ak:Option Addr) (ne nk ce ck:Nat) (w:World),nodes t≤1000000→aF w w.heap.size t ⟨Ae,ne,ce⟩ ⟨Ak,nk,ck⟩ →
  Calls Tryz.prog 145 #[.agg #[.slice Ae ne ce,.slice Ak nk ck]] w fun e w'=>e = .returned (.int .i64 (levels t))∧av w w':=by
 intro t
 induction t using T.ind with
 | h es ks ih=>
  intro Ae Ak ne nk ce ck w hn hr;obtain⟨M,N⟩:=bn hr;have HR:=ah hr;have HLE:=ah M;have d:=ah N;clear M N hr
  have hnk:nk≤1000000:=by have:=bE es ks;have:=d.o;omega
  have IH:=ah ih;have HN:=ah hn;obtain⟨m,U⟩:∃ m,m=levels (.mk es ks):=⟨_,rfl⟩;rw[← U]
  have Y:ai (m=1+rA (fun k=>levels k.2) ks nk):=ah (by rw[U,qE,d.o])
  have hm6:m≤1000001:=by rw[U];have:=Bd (.mk es ks);omega
  have Ny:ai (∀ k,k≤nk→rA (fun k=>levels k.2) ks k≤1000000):=fun k hk=>by
   rw[← d.o]at hk;refine wE (fun x hx=>?_) hk;obtain⟨i,hi,rfl⟩:=qz hx;have h1:=Gl (f:=fun k=>levels k.2) (ks:=ks) (bG) i hi hi;have h2:=Y.o;rw[← d.o]at h2;omega
  clear ih hn U;obtain⟨g,hg⟩:∃ g,g=w.heap.size:=⟨_,rfl⟩;have F:=ah (bQ w Ae Ak ne nk ce ck);rw[← hg]at F;obtain⟨W0,y⟩:∃ W,W=w.alloc (.cells #[.slice Ae ne ce,.slice Ak nk ck] 35):=⟨_,rfl⟩;rw[← y]at F;have HG:=ah hg;have N7:=ah y;have k0:=F.c0;have k1:=F.c1;clear hg y;go_enter Tryz.func145,Tryz.ntmps145;go_wp2_with fail;rw[← HG.o,← N7.o];go_wp2_with fail
  go_loopw [3,9] (fun n i wr=>∃ (k:Nat),k≤nk∧i = .int .i64 k∧n = .int .i64 ((rA (fun k=>levels k.2) ks k:Nat):Int)∧ai (Kept [(⟨g,0,none⟩,.slice Ae ne ce),(⟨g,1,none⟩,.slice Ak nk ck)] w wr)) (fun _ i _=>nk-(intOf i).toNat)
  case atStart=>exact⟨0,by omega,rfl,by rw[Hy];rfl,F⟩
  case round=>
   obtain⟨k,hk,rfl,rfl,a⟩:=hrel;clear k0 k1;have k0:=a.c0;have k1:=a.c1
   by_cases N9:k<nk
   ·have l:k<ks.length:=by rw[d.o];exact N9
    obtain⟨b,o,rfl,hb,hc⟩:=iJ HR (by omega);obtain⟨⟨C,Q,G⟩,⟨D,R,H⟩,c0,c1,c2,s⟩:=hc k l;dsimp only at c0 c1 c2;have c0:=(a.below.cell (p:=⟨b,o+k*3,none⟩) hb).trans c0;have c1:=(a.below.cell (p:=⟨b,o+k*3+1,none⟩) hb).trans c1;have c2:=(a.below.cell (p:=⟨b,o+k*3+2,none⟩) hb).trans c2;obtain⟨B,r⟩:∃ B,B=(ks[k]).1:=⟨_,rfl⟩;rw[← r]at c0;clear hc;obtain⟨W1,z⟩:∃ W,W=wr.alloc (.cells #[.string B,.slice C Q G,.slice D R H] 134):=⟨_,rfl⟩
    have J:av wr W1:=by rw[z];exact Dt.ay _ _ _
    have j:=a.later J;have u:=aF.more j.below.size _ (aF.below s j.below);have V:=ah j;have N8:=ah z;clear z J s;obtain⟨q,hq⟩:∃ q,q=levels (ks[k]).2:=⟨_,rfl⟩;have A:=uF (fun k=>levels k.2) l;have c:=IH.o _ (bT l) C D Q R G H W1 (aN (dM (bT l)) HN) u;rw[← hq]at c A;have HC:=ah c;obtain⟨S,hS⟩:∃ S,S=rA (fun k=>levels k.2) ks k:=⟨_,rfl⟩;obtain⟨S',v⟩:∃ S,S=rA (fun k=>levels k.2) ks (k+1):=⟨_,rfl⟩;rw[← hS,← v]at A;rw[← hS]
    have hmax:max (S:Int) (q:Int)=(S':Int):=by omega
    have Nz:=ah v;clear u r j c hq A hS v;go_wp2_with fail;rw[← N8.o];refine HC.mono ?_;rintro e w2 ⟨rfl,L⟩;have X:=ah (V.later L);clear L;go_wp2_with fail;go_roundw
    case rel=>exact⟨k+1,by omega,by go_num,by rw[Nz.o],X⟩
    case measure=>simp[intOf];omega
   ·obtain rfl:k=nk:=by omega
    have N_:=Ny.o k (bG);obtain⟨S,hS⟩:∃ S,S=rA (fun k=>levels k.2) ks k:=⟨_,rfl⟩;rw[← hS]at N_ ⊢
    have hwrap:IntKind.i64.wrap (1+(S:Int))=(m:Int):=by rw[iN];have:=Y.o;omega
    have O:1+(S:Int)=(m:Int):=by have:=Y.o;omega
    have Z:=ah O;clear hS O;go_wp2_with fail;go_ret;exact⟨Dt.BB (by first | rfl | exact Z.o),a.below⟩
end Tr
namespace Sp
theorem aj {a b:Bool} (h:a=b):Ending.returned (.bool a) = .returned (.bool b):=by rw[h]
theorem BB {a b:Int} (h:a=b):Ending.returned (.int .i64 a) = .returned (.int .i64 b):=by rw[h]
theorem drop_at {l:List (Int×Int)} {k:Nat} (a:k<l.length) {r:Int×Int} (b:r=l[k]):l.drop k=r::l.drop (k+1):=by rw[b];exact List.drop_eq_getElem_cons a
theorem qF {l:List (Int×Int)} {P:Prop} (h:aB 1 l↔P) {b:Bool} (a:b=true↔P):b=ak l:=by
 unfold ak
 cases b with
 | true=>simp only[true_iff]at a;simp[h.2 a]
 | false=>
  have:¬P:=fun c=>by have:=a.2 c;cases this
  simp[h,this]
set_option maxRecDepth 100000 in
set_option maxHeartbeats 1000000 in
theorem fD (l:List (Int×Int)) (n:Nat) (A:Option Addr) (c:Nat) (w:World) (H:l.length=n) (hn:n≤1000000) (J:Rd w w.heap.size 2 A n c (aS l)) :
  Calls Tryz.prog 190 #[.slice A n c] w fun e w'=>e = .returned (.bool (ak l))∧av w w':=by
 have M:=ah J;have u:=ah H;clear J H;go_enter Tryz.func190,Tryz.ntmps190;go_wp2
 go_loopw [3,8] (fun h i wr=>∃ (k:Nat) (m:Int),k≤n∧h = .int .i64 m∧i = .int .i64 k∧ai (1≤m∧m≤1099511627778)∧ai (aB 1 l↔aB m (l.drop k))∧ai (av w wr)) (fun _ i _=>n-(intOf i).toNat)
 case atStart=>exact⟨0,1,by omega,rfl,rfl,⟨by omega,by omega⟩,Iff.rfl,bN⟩
 case round=>
  obtain⟨k,m,hk,rfl,rfl,L,g,f⟩:=hrel
  by_cases r:k<n
  ·have q:k<l.length:=by rw[u.o];exact r
   obtain⟨b,o,rfl,j,G⟩:=qh M u r;obtain⟨z,B⟩:=G k q;obtain⟨p,v⟩:∃ p,p=l[k]:=⟨_,rfl⟩;have s:=ah (drop_at q v);rw[← v]at z B;obtain⟨x,y⟩:=p;have z:=(f.cell (p:=⟨b,o+k*2,none⟩) j).trans z;have B:=(f.cell (p:=⟨b,o+k*2+1,none⟩) j).trans B;have a:=ah (f.alloc f.size (.cells #[.int .i64 x,.int .i64 y] 214));clear G v
   by_cases C:x<m
   ·have N:decide (x<m)=true:=by simpa using C
    have d:ai (false=ak l):=qF g (by rw[s.o];simp only[Bool.false_eq_true,aB,false_iff];omega);go_wp2;go_ret;exact⟨aj d,a⟩
   ·have N:decide (x<m)=false:=by simpa using C
    by_cases D:y<x
    ·have O:decide (y<x)=true:=by simpa using D
     have d:ai (false=ak l):=qF g (by rw[s.o];simp only[Bool.false_eq_true,aB,false_iff];omega);go_wp2;go_ret;exact⟨aj d,a⟩
    ·have O:decide (y<x)=false:=by simpa using D
     by_cases F:1099511627776<y
     ·have Q:decide (1099511627776<y)=true:=by simpa using F
      have d:ai (false=ak l):=qF g (by rw[s.o];simp only[Bool.false_eq_true,aB,false_iff];omega);go_wp2;go_ret;exact⟨aj d,a⟩
     ·have Q:decide (1099511627776<y)=false:=by simpa using F
      have t:ai (aB 1 l↔aB (y+2) (l.drop (k+1))):=by
       refine Iff.trans g ?_;rw[s.o];simp only[aB];exact⟨fun h=>h.2.2.2,fun h=>⟨by omega,by omega,by omega,h⟩⟩
      have hm:=L.1;go_wp2;go_roundw
      case rel=>exact⟨k+1,y+2,by omega,by go_num,by go_num,⟨by omega,by omega⟩,t,a⟩
      case measure=>simp[intOf];omega
  ·have d:ai (true=ak l):=qF g (by rw[List.drop_eq_nil_of_le (by rw[u.o];omega)];simp[aB])
   go_wp2;go_ret;exact⟨aj d,f⟩
theorem Jh {l:List (Int×Int)} {i:Nat} (h:i<2*l.length):(i % 2=0∧∃ a:i / 2<l.length,edge l i=l[i / 2].1)∨(i % 2=1∧∃ a:i / 2<l.length,edge l i=l[i / 2].2+1):=by
 have a:i / 2<l.length:=by omega
 rcases Nat.mod_two_eq_zero_or_one i with b | b
 ·have e:i=2*(i / 2):=by omega
  exact .inl ⟨b,a,by have:=z_ a;rwa [← e]at this⟩
 ·have e:i=2*(i / 2)+1:=by omega
  exact .inr ⟨b,a,by have:=Cg a;rwa [← e]at this⟩
set_option maxHeartbeats 400000 in
theorem Cf (l:List (Int×Int)) (n:Nat) (A:Option Addr) (c:Nat) (w:World) (t:l.length=n) (hn:n≤1000000) (u:Rd w w.heap.size 2 A n c (aS l)) (B:aB 1 l) (i:Nat) (hi:i≤2*n) :
  Calls Tryz.prog 216 #[.slice A n c,.int .i64 i] w fun e w'=>e = .returned (.int .i64 (edge l i))∧w'=w:=by
 by_cases h:i<2*l.length
 ·have s:=o_ B h
  rcases Jh h with ⟨z,p,d⟩ | ⟨z,p,d⟩
  ·obtain⟨b,o,rfl,j,a⟩:=qh u t (k:=i / 2) (by omega)
   obtain⟨g,q⟩:=a (i / 2) p;rw[← d]at g;obtain⟨x,f⟩:∃ x,x=edge l i:=⟨_,rfl⟩;rw[← f]at g ⊢
   have r:decide (2*(n:Int)≤i)=false:=by simp;omega
   have v:((i:Int).tmod 2)=0:=by rw[IE (by omega)];omega
   have y:((i:Int).tdiv 2)=((i / 2:Nat):Int):=by rw[Int.tdiv_eq_ediv_of_nonneg (by omega)];omega
   have m:i / 2<n:=by omega
   clear a q d f;go_enter Tryz.func216,Tryz.ntmps216;go_wp2;go_ret;exact⟨rfl,rfl⟩
  ·obtain⟨b,o,rfl,j,a⟩:=qh u t (k:=i / 2) (by omega)
   obtain⟨g,q⟩:=a (i / 2) p;rw[d]at s ⊢;obtain⟨x,f⟩:∃ x,x=l[i / 2].2:=⟨_,rfl⟩;rw[← f]at q s ⊢
   have r:decide (2*(n:Int)≤i)=false:=by simp;omega
   have v:((i:Int).tmod 2)=1:=by rw[IE (by omega)];omega
   have y:((i:Int).tdiv 2)=((i / 2:Nat):Int):=by rw[Int.tdiv_eq_ediv_of_nonneg (by omega)];omega
   have m:i / 2<n:=by omega
   clear a g d f;go_enter Tryz.func216,Tryz.ntmps216;go_wp2;go_ret;exact⟨BB (by go_num),rfl⟩
 ·rw[nC (by omega)]
  have r:decide (2*(n:Int)≤i)=true:=by simp;omega
  go_enter Tryz.func216,Tryz.ntmps216;go_wp2;go_ret;exact⟨rfl,rfl⟩
end Sp
namespace Sp
def Jm:List (Int×Int)→Int
 | []=>0
 | r::_=>if r.1=1 then r.2 else 0
theorem aB.of_append:∀ {a b:List (Int×Int)} {m:Int},aB m (a++b)→aB m a
 | [],_,_,_=>trivial
 | _::_,_,_,h=>⟨h.1,h.2.1,h.2.2.1,aB.of_append h.2.2.2⟩
theorem aB.take {l:List (Int×Int)} {m:Int} (h:aB m l) (k:Nat):aB m (l.take k):=aB.of_append (b:=l.drop k) (by rwa [List.take_append_drop])
end Sp
end
section
namespace Cx
open Sp
def Nt (v:Int):List (Int×Int):=if 0<v then [(1,v)]else []
def full (v:Int→Int):List S3:=glue fun d=>Nt (v d)
end Cx
end
section
open ChangeShapes WideShapes ChangeAt RowKit
namespace Sp
theorem bg {P:Program} {o:Oper} {a:Go.Act} {K:Go.Act→World→Prop} {Q:Exit→Go.Act→World→Prop} {w w':World} {v b v':Value} (s x:Operand) (t:TypeId)
  (c:o.op = .call { callee:=.builtin .append,args:=#[s,x],argTypes:=#[t,t] }) (hs:a.eval s=v) (hx:a.eval x=b)
  (hr:(Builtin.append_ #[t,t] o.type #[v,b]).run P w = .ok v' w') (h:K (a.put o.dst v') w'):Oper.upon P o a K Q ((execOp a.eval o).run P w):=by
 unfold execOp;simp only[c,resolve,invoke,builtin,Sem.run_bind,Sem.run_pure,Result.andThen_ok,List.map_toArray,List.map_cons,List.map_nil,hs,hx,hr];exact h
set_option maxRecDepth 100000 in
set_option maxHeartbeats 1000000 in
theorem rJ (l:List (Int×Int)) (n:Nat) (A:Option Addr) (c:Nat) (w:World) (C:l.length=n) (hn:n≤1000000) (D:Rd w w.heap.size 2 A n c (aS l)) (v:Int) :
  Calls Tryz.prog 81 #[.slice A n c,.int .i64 v] w fun e w'=>e = .returned (.bool (hasB l v))∧w'=w:=by
 obtain⟨z,u⟩:∃ z,z=hasB l v:=⟨_,rfl⟩;rw[← u];have B:=ah u;have F:=ah D;have r:=ah C;clear D C u;go_enter Tryz.func81,Tryz.ntmps81;go_wp2
 go_loop [8] (fun i=>∃ (k:Nat),k≤n∧i = .int .i64 k∧ai (hasB (l.take k) v=false)) (fun i=>n-(intOf i).toNat)
 case atStart=>exact⟨0,by omega,rfl,ah (by rw[List.take_zero];rfl)⟩
 case round=>
  obtain⟨k,hk,rfl,q⟩:=hrel
  by_cases g:k<n
  ·have f:k<l.length:=by rw[r.o];exact g
   obtain⟨b,o,rfl,hbl,j⟩:=qh F r g;obtain⟨J,L⟩:=j k f;obtain⟨p,h⟩:∃ p,p=l[k]:=⟨_,rfl⟩;have a:l.take (k+1)=l.take k++[l[k]]:=dZ f;rw[← h]at J L a;obtain⟨x,y⟩:=p
   by_cases s:x≤v
   ·have G:decide (x≤v)=true:=by simpa using s
    by_cases t:v≤y
    ·have H:decide (v≤y)=true:=by simpa using t
     have m:ai (true=z):=by
      unfold ai;rw[B.o];exact (lM.2 ⟨(x,y),by rw[h];exact bT f,s,t⟩).symm
     clear j h a;go_wp2;go_ret;exact⟨aj m,rfl⟩
    ·have H:decide (v≤y)=false:=by simpa using t
     have d:ai (hasB (l.take (k+1)) v=false):=by
      unfold ai;rw[a,dB,q.o];simp[hasB];omega
     clear j h a;go_wp2
     go_round
     case rel=>exact⟨k+1,by omega,by go_num,d⟩
     case measure=>simp[intOf];omega
   ·have G:decide (x≤v)=false:=by simpa using s
    have d:ai (hasB (l.take (k+1)) v=false):=by
     unfold ai;rw[a,dB,q.o];simp[hasB];omega
    clear j h a;go_wp2
    go_round
    case rel=>exact⟨k+1,by omega,by go_num,d⟩
    case measure=>simp[intOf];omega
  ·have m:ai (false=z):=by
    unfold ai;have:=q.o;rw[eO (by rw[r.o];omega)]at this;rw[B.o,this]
   go_wp2;go_ret;exact⟨aj m,rfl⟩
def bW (l:List (Int×Int)):List Int:=l.flatMap fun r=>[r.1,r.2+1]
theorem E5 (l:List (Int×Int)) (r:Int×Int):bW (l++[r])=bW l++[r.1,r.2+1]:=by simp[bW]
theorem zA (l:List (Int×Int)):(bW l).length=l.length*2:=by
 induction l with
 | nil=>rfl
 | cons r l a=>
  have:bW (r::l)=r.1::(r.2+1)::bW l:=rfl;rw[this];simp[a];omega
def qW (above:Int) (acc:Option Int) (x:Int):Option Int:=if above<x∧(∀ b,acc=some b→x<b)then some x else acc
def dA (above:Int) (l:List Int):Option Int:=l.foldl (qW above) none
theorem xG (a:Int) (l:List Int) (x:Int):dA a (l++[x])=qW a (dA a l) x:=by unfold dA;rw[List.foldl_append];rfl
def El (above:Int) (l:List Int):Option Int→Prop
 | none=>∀ x∈l,x≤above
 | some t=>t∈l∧above<t∧∀ x∈l,above<x→t≤x
theorem lU (a:Int) (l:List Int):El a l (dA a l):=by
 have n:∀ k,k≤l.length→El a (l.take k) (dA a (l.take k)):=by
  intro k
  induction k with
  | zero=>intro _;simp[dA,El]
  | succ k i=>
   intro hk;have i:=i (by omega);rw[dZ (by omega),xG];obtain⟨d,hd⟩:∃ d,d=l[k]:=⟨_,rfl⟩;obtain⟨f,j⟩:∃ f,f=dA a (l.take k):=⟨_,rfl⟩;rw[← hd,← j];rw[← j]at i;unfold qW
   by_cases h:a<d∧(∀ b,f=some b→d<b)
   ·rw[if_pos h]
    refine⟨by simp,h.1,fun x c g=>?_⟩
    rcases fO.1 c with c | c
    ·cases f with
     | none=>have:=i x c;omega
     | some b=>have:=i.2.2 x c g;have:=h.2 b rfl;omega
    ·rw[eX.1 c];omega
   ·rw[if_neg h]
    cases f with
    | none=>
     intro x c
     rcases fO.1 c with c | c
     ·exact i x c
     ·rw[eX.1 c]
      have:¬a<d:=fun m=>h ⟨m,by simp⟩;omega
    | some b=>
     refine⟨yE _ i.1,i.2.1,fun x c g=>?_⟩
     rcases fO.1 c with c | c
     ·exact i.2.2 x c g
     ·rw[eX.1 c]at g ⊢
      have:¬d<b:=fun m=>h ⟨g,fun b' e=>by injection e with e;omega⟩;omega
 have:=n l.length (bG)
 rwa [eO (bG)]at this
set_option maxRecDepth 100000 in
set_option maxHeartbeats 1000000 in
theorem CQ (l:List Int) (n:Nat) (A:Option Addr) (c:Nat) (w:World) (Q:l.length=n) (hn:n≤1000000) (R:Rd w w.heap.size 1 A n c (dU l)) (v:Int) :
  Calls Tryz.prog 189 #[.slice A n c,.int .i64 v] w fun e w'=>e = .returned (.tuple #[.int .i64 ((dA v l).getD 0),.bool (dA v l).isSome])∧w'=w:=by
 obtain⟨z,M⟩:∃ z,z=dA v l:=⟨_,rfl⟩;rw[← M];obtain⟨zb,u⟩:∃ x,x=z.getD 0:=⟨_,rfl⟩;obtain⟨zo,y⟩:∃ x,x=z.isSome:=⟨_,rfl⟩;rw[← u,← y];have B:=ah u;have C:=ah y;have V:=ah M;have U:=ah R;have H:=ah Q;clear R Q M u y;go_enter Tryz.func189,Tryz.ntmps189;go_wp2
 go_loop [6,7,11] (fun b s i=>∃ (k:Nat) (a:Int) (m:Bool),k≤n∧b = .int .i64 a∧s = .bool m∧i = .int .i64 k∧ai (a=(dA v (l.take k)).getD 0∧m=(dA v (l.take k)).isSome)) (fun _ _ i=>n-(intOf i).toNat)
 case atStart=>exact⟨0,0,false,by omega,rfl,rfl,rfl,ah (by rw[List.take_zero];exact⟨rfl,rfl⟩)⟩
 case round=>
  obtain⟨k,a,m,hk,rfl,rfl,rfl,q⟩:=hrel
  by_cases G:k<n
  ·have F:k<l.length:=by rw[H.o];exact G
   obtain⟨b,o,rfl,hbl,O⟩:=JX U H G;have q0:=O k F
   have j:dA v (l.take (k+1))=qW v (dA v (l.take k)) l[k]:=by rw[dZ F,xG]
   obtain⟨x,S⟩:∃ x,x=l[k]:=⟨_,rfl⟩;obtain⟨f,p⟩:∃ f,f=dA v (l.take k):=⟨_,rfl⟩;rw[← S]at q0 j;rw[← p]at j q
   have d:qW v f x=some x→ai (x=(dA v (l.take (k+1))).getD 0∧true=(dA v (l.take (k+1))).isSome):=fun e=>by
    unfold ai;rw[j,e];exact⟨rfl,rfl⟩
   have g:qW v f x=f→ai (a=(dA v (l.take (k+1))).getD 0∧m=(dA v (l.take (k+1))).isSome):=fun e=>by
    unfold ai;rw[j,e];exact q.o
   clear O S j p
   by_cases D:v<x
   ·have X:decide (v<x)=true:=by simpa using D
    cases f with
    | none=>
     have t:m=false:=q.2;subst t;have r:=d (by unfold qW;rw[if_pos ⟨D,by simp⟩]);clear d g;go_wp2
     go_round
     case rel=>exact⟨k+1,x,true,by omega,rfl,rfl,by go_num,r⟩
     case measure=>simp[intOf];omega
    | some W=>
     have t:m=true:=q.2;have L:a=W:=q.1;subst t;subst L
     by_cases J:x<a
     ·have Y:decide (x<a)=true:=by simpa using J
      have r:=d (by unfold qW;rw[if_pos ⟨D,fun b' e=>by injection e with e;omega⟩]);clear d g;go_wp2
      go_round
      case rel=>exact⟨k+1,x,true,by omega,rfl,rfl,by go_num,r⟩
      case measure=>simp[intOf];omega
     ·have Y:decide (x<a)=false:=by simpa using J
      have r:=g (by unfold qW;rw[if_neg (fun h=>J (h.2 a rfl))]);clear d g;go_wp2
      go_round
      case rel=>exact⟨k+1,a,true,by omega,rfl,rfl,by go_num,r⟩
      case measure=>simp[intOf];omega
   ·have X:decide (v<x)=false:=by simpa using D
    have r:=g (by unfold qW;rw[if_neg (fun h=>D h.1)]);clear d g;go_wp2
    go_round
    case rel=>exact⟨k+1,a,m,by omega,rfl,rfl,by go_num,r⟩
    case measure=>simp[intOf];omega
  ·have N:ai (a=z.getD 0∧m=z.isSome):=by
    have:=q.o;rw[eO (by rw[H.o];omega)]at this;unfold ai;rw[V.o];exact this
   have Z:a=zb∧m=zo:=by rw[B.o,C.o];exact N.o
   clear N B C q;obtain⟨rfl,rfl⟩:=Z;go_wp2;go_ret2;exact⟨rfl,rfl⟩
set_option maxRecDepth 100000 in
set_option maxHeartbeats 1000000 in
theorem Ci (l:List (Int×Int)) (n:Nat) (A:Option Addr) (c:Nat) (w:World) (U:l.length=n) (hn:n≤1000) (W:Rd w w.heap.size 2 A n c (aS l)) (R:aB 1 l) :
  Calls Tryz.prog 202 #[.slice A n c] w fun e w'=>∃ A' c',e = .returned (.slice A' (n*2) c')∧Own w' w.heap.size 2 1 A' (n*2) c' (dU (bW l))∧av w w':=by
 have HR:=ah W;have G:=ah U;have Z:=ah R;clear W U R;go_enter Tryz.func202,Tryz.ntmps202;go_wp2
 go_loopw [3,7] (fun v i wr=>∃ (k m:Nat) (A':Option Addr) (c':Nat),k≤n∧v = .slice A' m c'∧i = .int .i64 k∧ai (m=k*2)∧ai (Own wr w.heap.size 2 1 A' m c' (dU (bW (l.take k))))∧ai (av w wr)) (fun _ i _=>n-(intOf i).toNat)
 case atStart=>exact⟨0,0,none,0,by omega,rfl,rfl,rfl,⟨iy _ _ _ _,by simp[bW,dU]⟩,bN⟩
 case round=>
  obtain⟨k,m,A',c',hk,rfl,rfl,H,a,q⟩:=hrel
  by_cases t:k<n
  ·have g:k<l.length:=by rw[G.o];exact t
   obtain⟨b,o,rfl,s,S⟩:=qh HR G t;obtain⟨C,D⟩:=S k g;have j:l.take (k+1)=l.take k++[l[k]]:=dZ g;have B:=Z.mem l[k] (bT g);obtain⟨p,V⟩:∃ p,p=l[k]:=⟨_,rfl⟩;rw[← V]at C D j B;obtain⟨x,y⟩:=p;obtain⟨M,N,O⟩:=B;dsimp only at M N O;have C:=(q.cell (p:=⟨b,o+k*2,none⟩) s).trans C;have D:=(q.cell (p:=⟨b,o+k*2+1,none⟩) s).trans D
   obtain⟨v2,w2,f,h,r⟩:=tJ Tryz.underlying175 Gg rfl (by omega) (by omega) wr.drew w.heap.size wr.heap.size (by simp) (by have:=q.size;simp;omega) _ m _ (ko a.row (bN).drew) [.int .i64 x,.int .i64 (y+1)] 2 rfl (by intro u hu;simp at hu;rcases hu with rfl | rfl <;> rfl) (by have:=H.o;omega)
   have Q:dU (bW (l.take k))++[.int .i64 x,.int .i64 (y+1)]=dU (bW (l.take (k+1))):=by rw[j,E5,kZ];rfl
   rw[Q]at h;obtain⟨X,c2,rfl,z⟩:=Own.gX h (qD _);have d:=ah f;have L:=ah z;have F:=ah ((q.drew).trans r)
   have J:ai (m+2=(k+1)*2):=ah (by have:=H.o;omega)
   have hwy:IntKind.i64.wrap (y+1)=y+1:=IntWalk.i64_in _ (by omega);clear S V f h z r j Q a;go_wp2
   go_region_law (refine bg _ _ _ rfl rfl rfl d ?_)
   all_goals
    clear d C D;go_wp2;go_roundw
    case rel=>exact⟨k+1,m+2,X,c2,by omega,rfl,by go_num,J,L,F⟩
    case measure=>simp[intOf];omega
  ·obtain rfl:k=n:=by omega
   have Y:ai (l.take k=l):=eO (by rw[G.o];omega);rw[Y.o]at a;have B:=H.o;subst B;go_wp2;go_ret;exact⟨_,_,rfl,a,q⟩
end Sp
namespace Sp
set_option maxHeartbeats 400000 in
theorem FJ (x y v:Int) (p:Nat) (w:World) (d:w.cell? ⟨p,0,none⟩=some (.int .i64 v)) :
  Calls Tryz.prog 197 #[.agg #[.int .i64 x,.int .i64 y],.pointer (some ⟨p,0,none⟩)] w fun e w'=>e = .returned (.bool (decide (x≤v∧v≤y)))∧av w w':=by
 have h:p<w.heap.size:=aL w _ d;have a:=ah ((Below.refl w.heap.size w).alloc (bG) (.cells #[.int .i64 x,.int .i64 y] 214));have hv2:(w.alloc (.cells #[.int .i64 x,.int .i64 y] 214)).cell? ⟨p,0,none⟩=some (.int .i64 v):=(a.cell (p:=⟨p,0,none⟩) h).trans d
 by_cases b:x≤v
 ·have f:decide (x≤v)=true:=by simpa using b
  by_cases c:v≤y
  ·have g:decide (v≤y)=true:=by simpa using c
   go_enter Tryz.func197,Tryz.ntmps197;go_wp2;go_ret;exact⟨aj (by simp[b,c]),a⟩
  ·have g:decide (v≤y)=false:=by simpa using c
   go_enter Tryz.func197,Tryz.ntmps197;go_wp2;go_ret;exact⟨aj (by simp),a⟩
 ·have f:decide (x≤v)=false:=by simpa using b
  go_enter Tryz.func197,Tryz.ntmps197;go_wp2;go_ret;exact⟨aj (by simp),a⟩
def KC (l:List (Int×Int)) (v:Int) (w:World) (e:Ending) (w':World):Prop:=∃ z:Int,e = .returned (.int .i64 z)∧decide (0≤z)=hasB l v∧av w w'
set_option maxRecDepth 100000 in
set_option maxHeartbeats 1000000 in
theorem Jl (l:List (Int×Int)) (n:Nat) (A:Option Addr) (c:Nat) (v:Int) (p:Nat) (w:World) (J:l.length=n) (hn:n≤1000000) (j:Rd w w.heap.size 2 A n c (aS l)) (D:w.cell? ⟨p,0,none⟩=some (.int .i64 v)) :
  Calls Tryz.prog 218 #[.slice A n c,.func (.func 197) #[] #[.pointer (some ⟨p,0,none⟩)]] w (KC l v w):=by
 have N:p<w.heap.size:=aL w _ D;have L:=ah j;have B:=ah J;have M:=ah D;clear j J D;go_enter Tryz.func218,Tryz.ntmps218;go_wp2
 go_loopw [8] (fun i wr=>∃ (k:Nat),k≤n∧i = .int .i64 k∧ai (hasB (l.take k) v=false)∧ai (av w wr)) (fun i _=>n-(intOf i).toNat)
 case atStart=>exact⟨0,by omega,rfl,ah (by rw[List.take_zero];rfl),bN⟩
 case round=>
  obtain⟨k,hk,rfl,H,f⟩:=hrel
  by_cases q:k<n
  ·have g:k<l.length:=by rw[B.o];exact q
   obtain⟨b,o,rfl,m,C⟩:=qh L B q;obtain⟨F,G⟩:=C k g;have d:l.take (k+1)=l.take k++[l[k]]:=dZ g;obtain⟨r,j⟩:∃ r,r=l[k]:=⟨_,rfl⟩;rw[← j]at F G d;obtain⟨x,y⟩:=r;have F:=(f.cell (p:=⟨b,o+k*2,none⟩) m).trans F;have G:=(f.cell (p:=⟨b,o+k*2+1,none⟩) m).trans G;have s:=ah (FJ x y v p wr ((f.cell (p:=⟨p,0,none⟩) N).trans M))
   by_cases h:x≤v∧v≤y
   ·rw[aJ h]at s
    have u:ai (true=hasB l v):=(lM.2 ⟨(x,y),by rw[j];exact bT g,h.1,h.2⟩).symm;clear C j d;go_wp2_with (go_at_call 197;refine s.mono ?_;rintro e O ⟨rfl,a⟩);go_ret;exact⟨k,rfl,by rw[← u.o];exact aJ (by omega),f.trans (a.mono f.size)⟩
   ·rw[aM h]at s
    have z:ai (hasB (l.take (k+1)) v=false):=by
     unfold ai;rw[d,dB,H.o];simp[hasB];omega
    clear C j d;go_wp2_with (go_at_call 197;refine s.mono ?_;rintro e O ⟨rfl,a⟩;have t:=ah (f.trans (a.mono f.size));clear a);go_roundw
    case rel=>exact⟨k+1,by omega,by go_num,z,t⟩
    case measure=>simp[intOf];omega
  ·have u:ai (false=hasB l v):=by
    unfold ai;have:=H.o;rw[eO (by rw[B.o];omega)]at this;exact this.symm
   go_wp2;go_ret;exact⟨-1,rfl,by rw[← u.o];rfl,f⟩
theorem AL (l:List (Int×Int)) (n:Nat) (A:Option Addr) (c:Nat) (v:Int) (p:Nat) (w:World) (b:l.length=n) (h:n≤1000000) (d:Rd w w.heap.size 2 A n c (aS l)) (f:w.cell? ⟨p,0,none⟩=some (.int .i64 v)) :
  Calls Tryz.prog 196 #[.slice A n c,.func (.func 197) #[] #[.pointer (some ⟨p,0,none⟩)]] w fun e w'=>e = .returned (.bool (hasB l v))∧av w w':=by
 have g:=ah (Jl l n A c v p w b h d f);clear d b f;go_enter Tryz.func196,Tryz.ntmps196;go_wp2_with (go_at_call 218;refine g.mono ?_;rintro e w1 ⟨z,rfl,hz,a⟩);go_ret;exact⟨aj rfl,a⟩
set_option maxHeartbeats 400000 in
theorem wD (l:List (Int×Int)) (n:Nat) (A:Option Addr) (c:Nat) (v:Int) (w:World) (j:l.length=n) (t:n≤1000000) (u:Rd w w.heap.size 2 A n c (aS l)) :
  Calls Tryz.prog 169 #[.slice A n c,.int .i64 v] w fun e w'=>e = .returned (.bool (ak l&&hasB l v))∧av w w':=by
 obtain⟨p,k⟩:∃ p,p=w.heap.size:=⟨_,rfl⟩;obtain⟨W,f⟩:∃ W,W=w.alloc (.cells #[.int .i64 v] 2):=⟨_,rfl⟩
 have m:ai (Kept [(⟨p,0,none⟩,.int .i64 v)] w W):=by
  rw[f,k];exact ((Kept.nil w).alloc _).af (by go_simp)
 have r:ai (Rd W W.heap.size 2 A n c (aS l)):=by
  rw[f];exact (u.alloc (bG) _).more (by simp)
 have b:=ah (fD l n A c W j t r);have z:=ah j;have q:=ah k;have s:=ah f;clear u j k f
 cases g:ak l with
 | false=>
  rw[g]at b;clear g;go_enter Tryz.func169,Tryz.ntmps169;go_wp2_with fail;rw[← q.o,← s.o];refine (wP b m).mono ?_;rintro e x ⟨rfl,a⟩;go_wp2;go_ret;exact⟨rfl,a.below⟩
 | true=>
  rw[g]at b;clear g;go_enter Tryz.func169,Tryz.ntmps169;go_wp2_with fail;rw[← q.o,← s.o];refine b.mono ?_;rintro e x ⟨rfl,d⟩;have a:=ah (m.later d);have i:=ah (r.later d);clear d;have y:=ah (AL l n A c v p x z t i a.c0);go_wp2_with (go_at_call 196;refine (wP y a).mono ?_;rintro e w2 ⟨rfl,h⟩);go_ret;exact⟨aj (Bool.true_and _).symm,h.below⟩
end Sp
end
section
open Go.RowKit
namespace Sp
theorem Dz {w:World} {base n m c c':Nat} {A A':Option Addr} {xs ys:List Int} (q:Own w base 2 1 A n c (dU xs)) (y:Rd w w.heap.size 1 A' m c' (dU ys)) (x:n+m≤1000000) (p:base≤w.heap.size) :
  ∃ d c2 j,(Builtin.append_ #[175,175] 175 #[.slice A n c,.slice A' m c']).run Tryz.prog w = .ok (.slice d (n+m) c2) j∧Own j base 2 1 d (n+m) c2 (dU (xs++ys))∧Below base w j:=by
 obtain⟨z,e,g,h,i⟩:=dO Gg;obtain⟨v',B,r,l,s,h4⟩:=iq (P:=Tryz.prog) w base 175 175 2 z _ 1 8 Tryz.underlying175 e g h i rfl (by omega) q.row y x (by omega) p;rw[← kZ]at l;obtain⟨d,c2,rfl,u⟩:=Own.gX l (qD _);exact⟨d,c2,B,r,u,(Below.refl base w).grown s p (fun k v=>(q.row.lt k v).1)⟩
theorem vK (l:List (Int×Int)):l=[]∨∃ d r,l=d++[r]:=by
 by_cases h:l=[]
 ·exact .inl h
 ·exact .inr ⟨_,_,(List.dropLast_concat_getLast h).symm⟩
theorem Jj {l:List (Int×Int)} {r:Int×Int} (h:r∈l):r.1∈bW l∧r.2+1∈bW l:=⟨ol.2 ⟨r,h,by simp⟩,ol.2 ⟨r,h,by simp⟩⟩
theorem vF {l:List (Int×Int)} {u n:Int} (hu:u≤n) (h:∀ x∈bW l,u<x→n<x):hasB l n=hasB l u:=by
 have d:∀ r∈l,(r.1≤n∧n≤r.2)↔(r.1≤u∧u≤r.2):=fun r c=>by
  obtain⟨i,j⟩:=Jj c;have h1:=h _ i;have e:=h _ j;omega
 cases g:hasB l u with
 | true=>
  obtain⟨r,c,e⟩:=lM.1 g;exact lM.2 ⟨r,c,(d r c).2 e⟩
 | false=>exact jh.2 fun r c e=>jh.1 g r c ((d r c).1 e)
theorem wQ:∀ {L:List Int} {t u:Int},t∈L→t<u→L.countP (fun x=>decide (x<t))+1≤L.countP (fun x=>decide (x<u))
 | [],_,_,h,_=>by simp at h
 | x::L,t,u,h,hu=>by
  have mono:L.countP (fun x=>decide (x<t))≤L.countP (fun x=>decide (x<u)):=List.countP_mono_left (fun y _ j=>by simp at j ⊢;omega);rw[List.countP_cons,List.countP_cons]
  by_cases g:x=t
  ·subst g
   have c:decide (x<x)=false:=by simp
   have d:decide (x<u)=true:=by simpa using hu
   simp only[c,d,if_true,Bool.false_eq_true,if_false];omega
  ·have i:t∈L:=by
    rcases jJ.1 h with h | h
    ·exact absurd h.symm g
    ·exact h
   have ih:=wQ i hu
   by_cases e:x<t
   ·have c:decide (x<t)=true:=by simpa using e
    have d:decide (x<u)=true:=by simp;omega
    simp only[c,d,if_true];omega
   ·have c:decide (x<t)=false:=by simpa using e
    simp only[c,Bool.false_eq_true,if_false]
    split <;> omega
theorem mF {l:List (Int×Int)} (h:aB 1 l) {x:Int} (c:x∈bW l):1≤x∧x≤1099511627777:=by
 obtain⟨r,d,c⟩:=ol.1 c;have:=h.mem r d
 simp at c
 omega
structure pz (f:Bool→Bool→Bool) (a b out:List (Int×Int)) (t:Int) (ok:Bool):Prop where
 right:aB 1 out
 on:ok=true→t∈bW a++bW b∧1≤t∧t≤1099511627777∧(∀ r∈out,r.2<t)∧(∀ n,n<t→hasB out n=f (hasB a n) (hasB b n))∧out.length≤(bW a++bW b).countP (fun x=>decide (x<t))
 off:ok=false→∀ n,hasB out n=f (hasB a n) (hasB b n)
theorem kV {a b:List (Int×Int)} {u n:Int} (hu:u≤n) (h:∀ x∈bW a++bW b,u<x→n<x):hasB a n=hasB a u∧hasB b n=hasB b u:=
 ⟨vF hu fun x c=>h x (yE _ c),vF hu fun x c=>h x (Ec _ c)⟩
theorem pz.zero {f:Bool→Bool→Bool} (j:f false false=false) {a b:List (Int×Int)} (p:aB 1 a) (q:aB 1 b):pz f a b [] ((dA 0 (bW a++bW b)).getD 0) (dA 0 (bW a++bW b)).isSome:=by
 have i:=lU 0 (bW a++bW b);have c:∀ n,n≤0→hasB a n=false∧hasB b n=false:=fun n d=>⟨pW p (by omega),pW q (by omega)⟩
 cases e:dA 0 (bW a++bW b)with
 | none=>
  rw[e]at i;refine⟨trivial,fun h=>(by cases h),fun _ n=>?_⟩
  rcases (by omega:n≤0∨0<n)with d | d
  ·rw[(c n d).1,(c n d).2,j];rfl
  ·obtain⟨k,l⟩:=kV (a:=a) (b:=b) (u:=0) (n:=n) (by omega) (fun x e h=>by have:=i x e;omega)
   rw[k,l,(c 0 (by omega)).1,(c 0 (by omega)).2,j];rfl
 | some t=>
  rw[e]at i;obtain⟨m,h2,r⟩:=i
  have g:1≤t∧t≤1099511627777:=by
   rcases fO.1 m with h | h
   ·exact mF p h
   ·exact mF q h
  refine⟨trivial,fun _=>⟨m,g.1,g.2,by simp,fun n d=>?_,Nat.zero_le _⟩,fun h=>by cases h⟩;show hasB [] n=_
  rcases (by omega:n≤0∨0<n)with hn0 | hn0
  ·rw[(c n hn0).1,(c n hn0).2,j];rfl
  ·obtain⟨k,l⟩:=kV (a:=a) (b:=b) (u:=0) (n:=n) (by omega) (fun x e h=>by have:=r x e h;have d:n<t:=d;omega)
   rw[k,l,(c 0 (by omega)).1,(c 0 (by omega)).2,j];rfl
section
variable {f:Bool→Bool→Bool} {a b out:List (Int×Int)} {t:Int}
theorem pz.last (s:f false false=false) (p:aB 1 a) (q:aB 1 b) (h:pz f a b out t true) (m:dA t (bW a++bW b)=none):f (hasB a t) (hasB b t)=false∧∀ u,pz f a b out u false:=by
 have c:=lU t (bW a++bW b);rw[m]at c;obtain⟨h1,h2,h3,k,l,h6⟩:=h.on rfl;have d:∀ n,t≤n→hasB a n=hasB a t∧hasB b n=hasB b t:=fun n e=>kV e (fun x w h=>by have:=c x w;omega)
 have j:f (hasB a t) (hasB b t)=false:=by
  obtain⟨g,i⟩:=d 1099511627778 (by omega);rw[← g,← i,Jy p (by omega),Jy q (by omega),s]
 refine⟨j,fun u=>⟨h.right,fun h=>(by cases h),fun _ n=>?_⟩⟩
 rcases (by omega:n<t∨t≤n)with e | e
 ·exact l n e
 ·obtain⟨g,i⟩:=d n e
  rw[g,i,j]
  exact jh.2 fun r v=>by have:=k r v;omega
theorem pz.next {u:Int} (M:aB 1 a) (N:aB 1 b) (h:pz f a b out t true) (L:dA t (bW a++bW b)=some u) :
  t<u∧1≤t∧u≤1099511627777∧(f (hasB a t) (hasB b t)=false→pz f a b out u true) ∧
  (f (hasB a t) (hasB b t)=true→(∀ r∈out,r.2+2≤t)→pz f a b (out++[(t,u-1)]) u true) ∧
  (f (hasB a t) (hasB b t)=true→∀ d s,out=d++[(s,t-1)]→pz f a b (d++[(s,u-1)]) u true):=by
 have p:=lU t (bW a++bW b);rw[L]at p;obtain⟨v,B,G⟩:=p;obtain⟨H,C,h3,w,y,J⟩:=h.on rfl;have k:∀ n,t≤n→n<u→hasB a n=hasB a t∧hasB b n=hasB b t:=fun n j hnu=>kV j (fun x O h=>by have:=G x O h;omega)
 have g:1≤u∧u≤1099511627777:=by
  rcases fO.1 v with h | h
  ·exact mF M h
  ·exact mF N h
 have hcnt:=wQ H B
 have z:∀ n,t≤n→hasB out n=false:=fun n j=>jh.2 fun r c=>by have:=w r c;omega
 refine⟨B,C,g.2,fun i=>?_,fun i q=>?_,fun i d s hd=>?_⟩
 ·refine⟨h.right,fun _=>⟨v,g.1,g.2,fun r c=>by have:=w r c;omega,fun n j=>?_,by omega⟩,fun h=>by cases h⟩
  rcases (by omega:n<t∨t≤n)with hn' | hn'
  ·exact y n hn'
  ·obtain⟨l,m⟩:=k n hn' j
   rw[l,m,i,z n hn']
 ·refine⟨h.right.snoc q C (by show t≤u-1;omega) (by show u-1≤_;omega),fun _=>⟨v,g.1,g.2,fun r c=>?_,fun n j=>?_,by rw[bP,List.length_singleton];omega⟩,fun h=>by cases h⟩
  ·rcases fO.1 c with c | c
   ·have:=w r c;omega
   ·rw[eX.1 c];show u-1<u;omega
  ·rw[dB,di,fT,Bool.or_false]
   rcases (by omega:n<t∨t≤n)with hn' | hn'
   ·have e:decide (t≤n∧n≤u-1)=false:=by simp;omega
    rw[e,Bool.or_false];exact y n hn'
   ·obtain⟨l,m⟩:=k n hn' j
    have e:decide (t≤n∧n≤u-1)=true:=by simp;omega
    rw[l,m,i,e,Bool.or_true]
 ·subst hd
  obtain⟨Q,D,F,R,S⟩:=h.right.oL;dsimp only at D F R S;refine⟨Q.snoc D F (by show s≤u-1;omega) (by show u-1≤_;omega),fun _=>⟨v,g.1,g.2,fun r c=>?_,fun n j=>?_,by rw[bP,List.length_singleton]at J ⊢;omega⟩,fun h=>by cases h⟩
  ·rcases fO.1 c with c | c
   ·have:=w r (yE _ c);omega
   ·rw[eX.1 c];show u-1<u;omega
  ·rw[dB,di,fT,Bool.or_false]
   rcases (by omega:n<t∨t≤n)with hn' | hn'
   ·have A:=y n hn'
    rw[dB,di,fT,Bool.or_false]at A
    have e:decide (s≤n∧n≤u-1)=decide (s≤n∧n≤t-1):=by
     congr 1
     exact propext ⟨fun h=>⟨h.1,by omega⟩,fun h=>⟨h.1,by omega⟩⟩
    rw[e];exact A
   ·obtain⟨l,m⟩:=k n hn' j
    have e:decide (s≤n∧n≤u-1)=true:=by simp;omega
    rw[l,m,i,e,Bool.or_true]
end
structure n_ (ns:List Int) (out:List (Int×Int)) (t:Int) (ok:Bool):Prop where
 right:aB 1 out
 on:ok=true→t∈ns∧(∀ r∈out,r.2<t)∧(∀ n,hasB out n=true↔(n∈ns∧n<t))∧out.length≤ns.countP (fun x=>decide (x<t))
 off:ok=false→∀ n,hasB out n=true↔n∈ns
theorem n_.zero {ns:List Int} (d:∀ x∈ns,1≤x∧x≤1099511627776):n_ ns [] ((dA 0 ns).getD 0) (dA 0 ns).isSome:=by
 have c:=lU 0 ns
 cases e:dA 0 ns with
 | none=>
  rw[e]at c;refine⟨trivial,fun h=>(by cases h),fun _ n=>⟨fun h=>(by cases h),fun h=>?_⟩⟩;have:=c n h;have:=d n h;omega
 | some t=>
  rw[e]at c;obtain⟨g,h2,i⟩:=c;refine⟨trivial,fun _=>⟨g,by simp,fun n=>⟨fun h=>(by cases h),fun h=>?_⟩,Nat.zero_le _⟩,fun h=>by cases h⟩;have h':n<t:=h.2;have:=i n h.1 (by have:=d n h.1;omega);omega
section
variable {ns:List Int} {out:List (Int×Int)} {t:Int}
theorem n_.one (_hb:∀ x∈ns,1≤x∧x≤1099511627776) (h:n_ ns out t true) (c:List (Int×Int)) (i:aB 1 c) (v:∀ r∈c,r.2≤t) (w:∀ n,hasB c n=(hasB out n||decide (n=t))) (hl:c.length≤out.length+1) :
  n_ ns c ((dA t ns).getD 0) (dA t ns).isSome:=by
 have g:=lU t ns;obtain⟨j,e,q,h4⟩:=h.on rfl
 have d:∀ n,hasB c n=true↔(n∈ns∧n≤t):=fun n=>by
  rw[w,Bool.or_eq_true,q n,yZ];constructor
  ·rintro (h | rfl)
   ·exact⟨h.1,by omega⟩
   ·exact⟨j,Int.le_refl _⟩
  ·rintro⟨s,hb⟩
   rcases (by omega:n<t∨n=t)with h | h
   ·exact .inl ⟨s,h⟩
   ·exact .inr h
 cases k:dA t ns with
 | none=>
  rw[k]at g;refine⟨i,fun h=>(by cases h),fun _ n=>(d n).trans ⟨fun h=>h.1,fun h=>⟨h,g n h⟩⟩⟩
 | some u=>
  rw[k]at g;obtain⟨l,m,p⟩:=g;have hcnt:=wQ j m;refine⟨i,fun _=>⟨l,fun r i=>?_,fun n=>(d n).trans ⟨fun h=>⟨h.1,?_⟩,fun h=>⟨h.1,?_⟩⟩,?_⟩,fun h=>by cases h⟩
  ·have:=v r i
   show r.2<u;omega
  ·show n<u
   omega
  ·have h':n<u:=h.2
   rcases (by omega:n≤t∨t<n)with e | e
   ·exact e
   ·have:=p n h.1 e;omega
  ·show c.length≤ns.countP (fun x=>decide (x<u))
   omega
theorem n_.push (e:∀ x∈ns,1≤x∧x≤1099511627776) (h:n_ ns out t true) (j:∀ r∈out,r.2+2≤t):n_ ns (out++[(t,t)]) ((dA t ns).getD 0) (dA t ns).isSome:=by
 obtain⟨g,i,h3,h4⟩:=h.on rfl;have c:=e t g;refine h.one e _ (h.right.snoc j c.1 (Int.le_refl _) c.2) (fun r d=>?_) (fun n=>?_) (by simp)
 ·rcases fO.1 d with d | d
  ·have:=i r d;omega
  ·rw[eX.1 d];exact Int.le_refl _
 ·rw[dB,di,fT,Bool.or_false]
  congr 2
  exact propext ⟨fun h=>by dsimp only at h;omega,fun h=>⟨by dsimp only;omega,by dsimp only;omega⟩⟩
theorem n_.grow {d:List (Int×Int)} {s:Int} (g:∀ x∈ns,1≤x∧x≤1099511627776) (h:n_ ns (d++[(s,t-1)]) t true):n_ ns (d++[(s,t)]) ((dA t ns).getD 0) (dA t ns).isSome:=by
 obtain⟨k,l,h3,h4⟩:=h.on rfl;have e:=g t k;obtain⟨m,i,j,p,q⟩:=h.right.oL;dsimp only at i j p q;refine h.one g _ (m.snoc i j (by show s≤t;omega) e.2) (fun r c=>?_) (fun n=>?_) (by simp)
 ·rcases fO.1 c with c | c
  ·have:=l r (yE _ c);omega
  ·rw[eX.1 c];exact Int.le_refl _
 ·rw[dB,dB,di,di,fT,Bool.or_false,Bool.or_false,Bool.or_assoc]
  congr 1
  rw[← Bool.decide_or]
  congr 1
  exact propext ⟨fun h=>by dsimp only at h ⊢;omega,fun h=>by dsimp only at h ⊢;omega⟩
end
end Sp
end
section
open ChangeShapes WideShapes ChangeAt RowKit
namespace Sp
def pI (ns:List Int) (l:List (Int×Int)):Prop:=aB 1 l∧∀ n,hasB l n=true↔n∈ns
theorem pI.eq {ns:List Int} {a b:List (Int×Int)} (c:pI ns a) (d:pI ns b):a=b:=ext c.1 d.1 fun n=>by
 rw[jI,c.2 n,d.2 n]
set_option maxRecDepth 100000 in
set_option maxHeartbeats 4000000 in
theorem Ii (ns:List Int) (n:Nat) (A:Option Addr) (c:Nat) (w:World) (hl:ns.length=n) (hn:n≤100000) (V:Rd w w.heap.size 1 A n c (dU ns)) (hb:∀ x∈ns,1≤x∧x≤1099511627776) :
  Calls Tryz.prog 158 #[.slice A n c] w fun e w'=>∃ l A' c',e = .returned (.slice A' l.length c')∧pI ns l∧Own w' w.heap.size 157 2 A' l.length c' (aS l)∧av w w':=by
 have HL:=ah hl;have L:=ah hb;have HN:=fun v W (h:av w W)=>ah (CQ ns n A c W hl (by omega) ((V.below h).more h.size) v);have HZ:=ah (n_.zero hb);clear hl V hb;obtain⟨t0,N⟩:∃ t,t=(dA 0 ns).getD 0:=⟨_,rfl⟩;obtain⟨k0,Nz⟩:∃ k,k=(dA 0 ns).isSome:=⟨_,rfl⟩;have Y:=HN 0 w (bN);rw[← N,← Nz]at HZ Y;clear N Nz;go_enter Tryz.func158,Tryz.ntmps158;go_wp2_with fail;refine Y.mono ?_;rintro e w3 ⟨rfl,rfl⟩;clear Y;go_wp2
 go_loopw [3,4,5] (fun lv tv kv wr=>∃ (q:Nat) (A':Option Addr) (c':Nat) (out:List (Int×Int)) (t:Int) (ok:Bool),lv = .slice A' q c'∧tv = .int .i64 t∧kv = .bool ok∧ai (q=out.length)∧ai (n_ ns out t ok)∧ai (Own wr w3.heap.size 157 2 A' q c' (aS out))∧ai (av w3 wr)) (fun _ tv kv _=>match kv with | .bool true=>(1099511627780-intOf tv).toNat | _=>0)
 case atStart=>exact⟨0,none,0,[],t0,k0,rfl,rfl,rfl,rfl,HZ,⟨iy _ _ _ _,by simp[aS]⟩,bN⟩
 case round=>
  obtain⟨q,A',c',out,t,ok,rfl,rfl,rfl,HQ,X,HO,HB⟩:=hrel
  cases ok with
  | false=>
   have HF:=ah (X.off rfl);have N9:=ah X.right;have Z:=HQ.o;subst Z;go_wp2;go_ret;exact⟨out,_,_,rfl,⟨N9,HF⟩,HO,HB⟩
  | true=>
   obtain⟨N,N7,_,NE⟩:=X.on rfl;obtain⟨ht1,ht2⟩:=L.o t N
   have J:out.length≤100000:=by
    have:=List.countP_le_length (p:=fun x=>decide (x<t)) (l:=ns);rw[HL.o]at this;omega
   obtain⟨t',f⟩:∃ t',t'=(dA t ns).getD 0:=⟨_,rfl⟩;obtain⟨R,m⟩:∃ R,R=(dA t ns).isSome:=⟨_,rfl⟩
   have HM:ai (R=true→t<t'∧t'≤1099511627776):=fun hk=>by
    have hN:=lU t ns
    cases hx:dA t ns with
    | none=>rw[m,hx]at hk;cases hk
    | some u=>
     rw[hx]at hN f;rw[f];exact⟨hN.2.1,(L.o u hN.1).2⟩
   have O:=fun W (h:av w3 W)=>HN t W h;rw[← f,← m]at O;have H:∀ r∈out,r.2<t:=N7;clear NE N7 N
   rcases vK out with rfl | ⟨B,r,rfl⟩
   ·have Z:q=0:=HQ.o
    subst Z;have S:=ah (X.push L (by simp));rw[← f,← m]at S;obtain⟨A2,c2,NF,d,y,j⟩:=iI Tryz.underlying122 Cr wr w3.heap.size wr.heap.size rfl HB.size _ ([]:List (Int×Int)) HO.row t t (by omega);have a:=ah d;have z:=ah y;have i:=ah (HB.trans j);obtain⟨q2,G⟩:∃ q2,q2=(([]:List (Int×Int))++[(t,t)]).length:=⟨_,rfl⟩;rw[← G]at a z;have M:=ah G;clear d y j G f m H;go_wp2_with (at_builtin;refine Lib.wpList_append_run _ rfl _ _ _ _ rfl _ _ rfl rfl _ _ a ?_);go_wp2_with fail;refine (O _ i).o.mono ?_;rintro e N8 ⟨rfl,rfl⟩;go_wp2;go_roundw
    case rel=>exact⟨q2,A2,c2,([]:List (Int×Int))++[(t,t)],t',R,rfl,rfl,rfl,M,S,z,i⟩
    case measure=>cases R <;> simp[intOf] <;> (try have:=(HM.o rfl)) <;> omega
   ·obtain⟨s,C⟩:=r
    by_cases he:C=t-1
    ·subst he
     have S:=ah (X.grow L);rw[← f,← m]at S;obtain⟨D,F⟩:∃ D,D=B.length:=⟨_,rfl⟩
     have Z:q=D+1:=by rw[F];have:=HQ.o;simpa using this
     subst Z
     have N_:D≤400000:=by rw[bP,List.length_singleton]at J;omega
     obtain⟨g,rfl,Ny,NC,Q,b⟩:=Own.place HO (by omega)
     have NA:wr.cell? ⟨g,D*2+1,none⟩=some (.int .i64 (t-1)):=by
      have:=(iZ (B++[(s,(t-1))]) D (by simp[F])).2;rw[show (B++[(s,(t-1))])[D]'(by simp[F])=(s,(t-1)) from by simp[F]]at this;exact b _ _ this
     have Q:=Q (D*2+1)
     have z:ai (Own (wr.setCell ⟨g,D*2+1,none⟩ (.int .i64 t)) w3.heap.size 157 2 (some ⟨g,0,none⟩) (D+1) c' (aS (B++[(s,t)]))):=by
      rw[F];exact jR (by rw[← F];exact HO.o)
     have i:ai (av w3 (wr.setCell ⟨g,D*2+1,none⟩ (.int .i64 t))):=HB.setCell Ny _
     have M:ai (D+1=(B++[(s,t)]).length):=ah (by rw[F];simp)
     clear b F f m H J;go_wp2_with fail;refine (O _ i).o.mono ?_;rintro e N8 ⟨rfl,rfl⟩;go_wp2;go_roundw
     case rel=>exact⟨D+1,_,c',B++[(s,t)],t',R,rfl,rfl,rfl,M,S,z,i⟩
     case measure=>cases R <;> simp[intOf] <;> (try have:=(HM.o rfl)) <;> omega
    ·have f5:(C==t-1)=false:=by simpa using he
     have S:=ah (X.push L (fun r V=>by
      obtain⟨_,j2,_,j4,_⟩:=X.right.oL;dsimp only at j2 j4;have k5:C<t:=H (s,C) (by simp)
      rcases fO.1 V with V | V
      ·have:=j2 r V;omega
      ·rw[eX.1 V];show C+2≤t;omega))
     rw[← f,← m]at S;obtain⟨D,F⟩:∃ D,D=B.length:=⟨_,rfl⟩
     have Z:q=D+1:=by rw[F];have:=HQ.o;simpa using this
     subst Z
     have N_:D≤400000:=by rw[bP,List.length_singleton]at J;omega
     obtain⟨g,rfl,Ny,NC,Q,b⟩:=Own.place HO (by omega)
     have NA:wr.cell? ⟨g,D*2+1,none⟩=some (.int .i64 C):=by
      have:=(iZ (B++[(s,C)]) D (by simp[F])).2;rw[show (B++[(s,C)])[D]'(by simp[F])=(s,C) from by simp[F]]at this;exact b _ _ this
     have eD:(B++[(s,C)]).length=D+1:=by simp[F]
     have U:wr.ownsRow w3.heap.size 157 2 (.slice (some ⟨g,0,none⟩) (D+1) c') (B++[(s,C)]).length (aS (B++[(s,C)])):=by rw[eD];exact HO.row
     obtain⟨A2,c2,NF,d,y,j⟩:=iI Tryz.underlying122 Cr wr w3.heap.size wr.heap.size rfl HB.size _ (B++[(s,C)]) U t t (by omega);have a:=ah d;have z:=ah y;have i:=ah (HB.trans j);obtain⟨q2,G⟩:∃ q2,q2=((B++[(s,C)])++[(t,t)]).length:=⟨_,rfl⟩;rw[← G]at a z;have M:=ah G;clear d y j G f m H;clear U eD Q b F he J;go_wp2_with (at_builtin;refine Lib.wpList_append_run _ rfl _ _ _ _ rfl _ _ rfl rfl _ _ a ?_);go_wp2_with fail;refine (O _ i).o.mono ?_;rintro e N8 ⟨rfl,rfl⟩;go_wp2;go_roundw
     case rel=>exact⟨q2,A2,c2,(B++[(s,C)])++[(t,t)],t',R,rfl,rfl,rfl,M,S,z,i⟩
     case measure=>cases R <;> simp[intOf] <;> (try have:=(HM.o rfl)) <;> omega
end Sp
end
section
open Go.Shelf
namespace Sp
def Iq:Go.Shelf.Ren:=⟨fun | 53=>195 | 64=>176 | 63=>217 | 78=>211 | 79=>212 | 70=>226 | 71=>227 | 72=>228 | 73=>229 | 74=>230 | 75=>231 | 59=>232 | 76=>233 | 77=>234 | 88=>236 | 89=>222 | 90=>223 | 91=>237 | 92=>238 | 68=>193 | 96=>239 | n=>n,fun | 22=>175 | 23=>2 | 3=>3 | 51=>163 | 0=>0 | 67=>232 | 69=>234 | 4=>4 | 61=>226 | 60=>225 | 44=>131 | 5=>5 | 9=>9 | 75=>243 | 79=>247 | 83=>255 | 84=>256 | n=>n,fun | n=>n⟩
theorem LK:Go.Proofs.SlLaysN.n53 Tryz.prog Iq:={
 mixed:=by kernel_rfl
 f53:=⟨Tryz.f195.name,by decide,Tryz.func195.trans (congrArg some (by kernel_rfl))⟩
 f59:=⟨Tryz.f232.name,by decide,Tryz.func232.trans (congrArg some (by kernel_rfl))⟩
 f63:=⟨Tryz.f217.name,by decide,Tryz.func217.trans (congrArg some (by kernel_rfl))⟩
 f64:=Tryz.func176.trans (congrArg some (by kernel_rfl))
 f68:=⟨Tryz.f193.name,by decide,Tryz.func193.trans (congrArg some (by kernel_rfl))⟩
 f70:=⟨Tryz.f226.name,by decide,Tryz.func226.trans (congrArg some (by kernel_rfl))⟩
 f71:=⟨Tryz.f227.name,by decide,Tryz.func227.trans (congrArg some (by kernel_rfl))⟩
 f72:=⟨Tryz.f228.name,by decide,Tryz.func228.trans (congrArg some (by kernel_rfl))⟩
 f73:=⟨Tryz.f229.name,by decide,Tryz.func229.trans (congrArg some (by kernel_rfl))⟩
 f74:=⟨Tryz.f230.name,by decide,Tryz.func230.trans (congrArg some (by kernel_rfl))⟩
 f75:=⟨Tryz.f231.name,by decide,Tryz.func231.trans (congrArg some (by kernel_rfl))⟩
 f76:=⟨Tryz.f233.name,by decide,Tryz.func233.trans (congrArg some (by kernel_rfl))⟩
 f77:=⟨Tryz.f234.name,by decide,Tryz.func234.trans (congrArg some (by kernel_rfl))⟩
 f78:=Tryz.func211.trans (congrArg some (by kernel_rfl))
 f79:=Tryz.func212.trans (congrArg some (by kernel_rfl))
 f88:=⟨Tryz.f236.name,by decide,Tryz.func236.trans (congrArg some (by kernel_rfl))⟩
 f89:=Tryz.func222.trans (congrArg some (by kernel_rfl))
 f90:=Tryz.func223.trans (congrArg some (by kernel_rfl))
 f91:=⟨Tryz.f237.name,by decide,Tryz.func237.trans (congrArg some (by kernel_rfl))⟩
 f92:=⟨Tryz.f238.name,by decide,Tryz.func238.trans (congrArg some (by kernel_rfl))⟩
 f96:=⟨Tryz.f239.name,by decide,Tryz.func239.trans (congrArg some (by kernel_rfl))⟩
 t0:=Tryz.underlying0
 a0:=Tryz.isAgg0
 z0:=Tryz.sizeOf0
 v0:=Tryz.zeroValue0
 t3:=Tryz.underlying3
 a3:=Tryz.isAgg3
 z3:=Tryz.sizeOf3
 v3:=Tryz.zeroValue3
 t4:=Tryz.underlying4
 a4:=Tryz.isAgg4
 z4:=Tryz.sizeOf4
 v4:=Tryz.zeroValue4
 t5:=Tryz.underlying5
 a5:=Tryz.isAgg5
 z5:=Tryz.sizeOf5
 v5:=Tryz.zeroValue5
 t9:=Tryz.underlying9
 a9:=Tryz.isAgg9
 z9:=Tryz.sizeOf9
 v9:=Tryz.zeroValue9
 t22:=Tryz.underlying175
 a22:=Tryz.isAgg175
 z22:=Tryz.sizeOf175
 v22:=Tryz.zeroValue175
 t23:=Tryz.underlying2
 a23:=Tryz.isAgg2
 z23:=Tryz.sizeOf2
 v23:=Tryz.zeroValue2
 t44:=Tryz.underlying131
 a44:=Tryz.isAgg131
 z44:=Tryz.sizeOf131
 v44:=Tryz.zeroValue131
 t51:=Tryz.underlying163
 a51:=Tryz.isAgg163
 z51:=Tryz.sizeOf163
 v51:=Tryz.zeroValue163
 t60:=Tryz.underlying225
 a60:=Tryz.isAgg225
 z60:=Tryz.sizeOf225
 v60:=Tryz.zeroValue225
 t61:=Tryz.underlying226
 a61:=Tryz.isAgg226
 z61:=Tryz.sizeOf226
 v61:=Tryz.zeroValue226
 t67:=Tryz.underlying232
 a67:=Tryz.isAgg232
 z67:=Tryz.sizeOf232
 v67:=Tryz.zeroValue232
 t69:=Tryz.underlying234
 a69:=Tryz.isAgg234
 z69:=Tryz.sizeOf234
 v69:=Tryz.zeroValue234
 t75:=Tryz.underlying243
 a75:=Tryz.isAgg243
 z75:=Tryz.sizeOf243
 v75:=Tryz.zeroValue243
 t79:=Tryz.underlying247
 a79:=Tryz.isAgg247
 z79:=Tryz.sizeOf247
 v79:=Tryz.zeroValue247
 t83:=Tryz.underlying255
 a83:=Tryz.isAgg255
 z83:=Tryz.sizeOf255
 v83:=Tryz.zeroValue255
 t84:=Tryz.underlying256
 a84:=Tryz.isAgg256
 z84:=Tryz.sizeOf256
 v84:=Tryz.zeroValue256 }
end Sp
end
section
open ChangeShapes WideShapes ChangeAt RowKit
namespace Sp
def LP (ns:List Int):List Int:=ns.mergeSort fun x y=>decide (x≤y)
theorem Lv (ns:List Int):(LP ns).length=ns.length:=List.length_mergeSort _
theorem Lx {ns:List Int} {x:Int} : x∈LP ns↔x∈ns:=List.mem_mergeSort
theorem M8 (ns:List Int) {i j:Nat} (hi:i<j) (d:j<(LP ns).length):(LP ns)[i]≤(LP ns)[j]:=by
 have h:=List.pairwise_mergeSort (le:=fun x y:Int=>decide (x≤y)) (by intro a b c;simp;omega) (by intro a b;simp;omega) ns;exact jH (tV.1 h i j (Nat.lt_trans hi d) d hi)
theorem Fb (w:World):Own (w.alloc (.cells #[] 2)) w.heap.size 2 1 (some ⟨w.heap.size,0,none⟩) 0 0 (dU []):=
 ⟨⟨rfl,.inr ⟨w.heap.size,0,#[],rfl,bG,heap_alloc_new _ _,bG,by simp[maxLen],rfl,rfl⟩⟩,by simp[dU]⟩
set_option maxHeartbeats 400000 in
theorem uq (ns:List Int) (n:Nat) (A:Option Addr) (c:Nat) (w:World) (i:ns.length=n) (hn:n≤900000) (g:Rd w w.heap.size 1 A n c (dU ns)) :
  Calls Tryz.prog 194 #[.slice A n c] w fun e w'=>∃ A' c',e = .returned (.slice A' n c')∧Own w' w.heap.size 2 1 A' n c' (dU ns)∧av w w':=by
 have hnil:∀ (W:World) (a:Option Addr) (n c l c':Nat),(binOp .eql 175 (.slice a n c) (.slice none l c')).run Tryz.prog W = .ok (.bool a.isNone) W:=fun W a n c l c'=>Lib.run_eql_slice_nil W _ _ a n c l c' Tryz.underlying175
 cases A with
 | none=>
  have j:n=0:=by
   rcases Nat.eq_zero_or_pos n with h | h
   ·exact h
   ·obtain⟨b,o,e,_⟩:=g.at_ h
    cases e
  subst j;have:ns=[]:=DZ i;subst this;clear g i;go_enter Tryz.func194,Tryz.ntmps194;go_wp2;go_ret;exact⟨none,0,rfl,⟨iy _ _ _ _,by simp[dU]⟩,bN⟩
 | some a=>
  obtain⟨p,c2,w2,d,k,m⟩:=Dz (Fb w) ((g.alloc (bG) (.cells #[] 2)).more (by simp)) (by omega) (by simp);rw[List.nil_append,Nat.zero_add]at k;rw[Nat.zero_add]at d;have f:=ah d;have r:=ah k;have q:=ah (((Below.refl w.heap.size w).alloc (bG) (.cells #[] 2)).trans m);clear g i d k m;go_enter Tryz.func194,Tryz.ntmps194;go_wp2_with (at_builtin;refine Lib.wpList_append_run _ rfl _ _ _ _ rfl _ _ rfl rfl _ _ f ?_);go_ret;exact⟨p,c2,rfl,r,q⟩
theorem Kj (ns:List Int) (n:Nat) (A:Option Addr) (c base:Nat) (w:World) (i:ns.length=n) (hn:n≤900000) (j:Own w base 2 1 A n c (dU ns)) (q:base≤w.heap.size) :
  Calls Tryz.prog 195 #[.slice A n c] w fun e w'=>e = .returned (.tuple #[])∧Own w' base 2 1 A n c (dU (LP ns))∧Below base w w':=by
 rcases Nat.eq_zero_or_pos n with b | b
 ·subst b
  have:ns=[]:=DZ i;subst this;refine (Go.Proofs.AnyG.slices_Sort_int_none LK A c w).mono ?_;rintro e w' ⟨rfl,rfl⟩;exact⟨rfl,by rw[show LP []=[] from List.mergeSort_nil];exact j,bN⟩
 ·subst i
  rcases j.row.2 with ⟨_,h⟩ | ⟨g,cap,cur,s,r,a,l,m,p,d⟩
  ·omega
  ·injection s with e1 _ e3
   subst e1;subst e3;rw[Nat.mul_one]at d;refine (Go.Proofs.AnyG.slices_Sort_int LK g 0 c ns w (holds_of_blockI a d) (IC.1 a).1 (by omega)).mono ?_;rintro e w' ⟨rfl,k,os,rfl⟩;refine⟨rfl,⟨?_,qD _⟩,(Below.refl base w).grown (grownBy_sortedI _) q (fun k f=>by injection f with f;omega)⟩;exact ownsRow_sortedI (List.length_mergeSort _) r a l m p
structure BN (ys:List Int) (k:Nat) (out:List (Int×Int)):Prop where
 right:aB 1 out
 has:∀ n,hasB out n=true↔n∈ys.take k
 len:out.length≤k
 last:∀ (j:Nat) (h:j<ys.length),k=j+1→∃ d s,out=d++[(s,ys[j])]
theorem BN.zero (ys:List Int):BN ys 0 []:=⟨trivial,fun n=>by simp[hasB],Nat.zero_le _,fun j _ h=>by omega⟩
theorem BN.first {ys:List Int} (h:0<ys.length) (a:1≤ys[0]∧ys[0]≤1099511627776):BN ys 1 [(ys[0],ys[0])]:=by
 refine⟨⟨a.1,Int.le_refl _,a.2,trivial⟩,fun n=>?_,by simp,fun j hj e=>?_⟩
 ·rw[List.take_one,List.head?_eq_getElem?,v_ h]
  simp[hasB];omega
 ·obtain rfl:j=0:=by omega
  exact⟨[],ys[0],rfl⟩
theorem BN.push {ys _d:List Int} {out:List (Int×Int)} {j:Nat} (h:BN ys (j+1) out) (g:j+1<ys.length) (hle:ys[j]+1<ys[j+1]) (f:ys[j+1]≤1099511627776):BN ys (j+1+1) (out++[(ys[j+1],ys[j+1])]):=by
 obtain⟨d,s,hd⟩:=h.last j (by omega) rfl;have b:=h.right;rw[hd]at b;obtain⟨k1,c,k,l,m⟩:=b.oL;dsimp only at c k l m;refine⟨h.right.snoc (fun q a=>?_) (by show 1≤ys[j+1];omega) (Int.le_refl _) f,fun n=>?_,by have:=h.len;simp;omega,fun i hi e=>?_⟩
 ·show q.2+2≤ys[j+1]
  rw[hd]at a
  rcases fO.1 a with a | a
  ·have:=c q a;omega
  ·rw[eX.1 a];show ys[j]+2≤_;omega
 ·rw[dB,Bool.or_eq_true,h.has n,dZ g,fO,di,fT,Bool.or_false,eX,yZ]
  dsimp only;constructor
  ·rintro (h | h)
   ·exact .inl h
   ·right;omega
  ·rintro (h | h)
   ·exact .inl h
   ·right;omega
 ·obtain rfl:i=j+1:=by omega
  exact⟨out,ys[j+1],rfl⟩
theorem BN.grow {ys:List Int} {d:List (Int×Int)} {s:Int} {j:Nat} (g:j+1<ys.length) (h:BN ys (j+1) (d++[(s,ys[j])])) (hle:ys[j]≤ys[j+1]) (hle2:ys[j+1]≤ys[j]+1) (f:ys[j+1]≤1099511627776):BN ys (j+1+1) (d++[(s,ys[j+1])]):=by
 obtain⟨k,b,c,l,m⟩:=h.right.oL;dsimp only at b c l m;refine⟨k.snoc b c (by show s≤ys[j+1];omega) f,fun n=>?_,by have:=h.len;simp at this ⊢;omega,fun i hi e=>?_⟩
 ·have a:=h.has n
  rw[dB,Bool.or_eq_true,di,fT,Bool.or_false,yZ]at a;rw[dB,Bool.or_eq_true,dZ g,fO,← a,di,fT,Bool.or_false,eX,yZ];dsimp only at a ⊢;constructor
  ·rintro (h | h)
   ·exact .inl (.inl h)
   ·rcases (by omega:n≤ys[j]∨n=ys[j+1])with h' | h'
    ·exact .inl (.inr ⟨h.1,h'⟩)
    ·exact .inr h'
  ·rintro ((h | h) | h)
   ·exact .inl h
   ·right;omega
   ·right;omega
 ·obtain rfl:i=j+1:=by omega
  exact⟨d,s,rfl⟩
def Nq (ns:List Int) (w:World) (e:Ending) (w':World):Prop:=
 ((∀ x∈ns,1≤x∧x≤1099511627776)∧∃ l A c,e = .returned (.tuple #[.slice A l.length c,.int .i64 0])∧pI ns l∧l.length≤ns.length∧Own w' w.heap.size 214 2 A l.length c (aS l)∧av w w') ∨
 ((∃ x∈ns,x<1∨1099511627776<x)∧e = .returned (.tuple #[.slice none 0 0,.int .i64 1])∧av w w')
set_option maxRecDepth 100000 in
set_option maxHeartbeats 4000000 in
theorem Mw (ns:List Int) (n:Nat) (A:Option Addr) (c:Nat) (w:World) (hl:ns.length=n) (hn:n≤100000) (hr:Rd w w.heap.size 1 A n c (dU ns)) :
  Calls Tryz.prog 167 #[.slice A n c] w (Nq ns w):=by
 have HC:=ah (uq ns n A c w hl (by omega) hr);have HL:=ah hl;clear hl hr;go_enter Tryz.func167,Tryz.ntmps167;go_wp2_with fail;refine HC.mono ?_;rintro e w1 ⟨A1,c1,rfl,NA,V⟩;have HS:=ah (Kj ns n A1 c1 w.heap.size w1 HL (by omega) NA V.size);have Ny:=ah V;clear NA V HC;go_wp2_with fail;refine HS.mono ?_;rintro e Y ⟨rfl,NC,N8⟩;have H:=ah (Ny.trans N8);have HR:=ah NC.rd;clear NC N8 HS Ny;obtain⟨h,N⟩:∃ h,h=LP ns:=⟨_,rfl⟩
 have NG:ai (∀ (i j:Nat) (hi:i<j) (hj:j<h.length),h[i]≤h[j]):=by
  subst N;exact fun i j hi hj=>M8 ns hi hj
 have U:ai (h.length=n):=by rw[N];exact (Lv ns).trans HL
 have HM:ai (∀ x,x∈h↔x∈ns):=by rw[N];exact fun x=>Lx
 rw[← N]at HR;clear N;go_wp2
 go_loopw [5,14] (fun lv iv wr=>∃ (k q:Nat) (A':Option Addr) (Z:Nat) (out:List (Int×Int)),k≤n∧lv = .slice A' q Z∧iv = .int .i64 k∧ai (q=out.length)∧ai (BN h k out)∧ai (∀ x∈h.take k,1≤x∧x≤1099511627776)∧ai (Own wr Y.heap.size 214 2 A' q Z (aS out))∧ai (av Y wr)) (fun _ iv _=>n-(intOf iv).toNat)
 case atStart=>exact⟨0,0,none,0,[],by omega,rfl,rfl,rfl,BN.zero _,ah (by simp),⟨iy _ _ _ _,by simp[aS]⟩,bN⟩
 case round=>
  obtain⟨k,q,A',Z,out,hk,rfl,rfl,HQ,HI,HG,HO,Q⟩:=hrel
  by_cases N_:k<n
  ·have t:k<h.length:=by rw[U.o];exact N_
   obtain⟨b,o,rfl,NI,hc⟩:=JX HR U N_;have q0:=hc k t;obtain⟨x,f⟩:∃ x,x=h[k]:=⟨_,rfl⟩;have HX:=ah f;rw[← f]at q0;have q0:=(Q.cell (p:=⟨b,o+k,none⟩) NI).trans q0;have Nz:ai (av w wr):=H.trans (Q.mono H.size)
   by_cases h1:x<1
   ·have f1:decide (x<1)=true:=by simpa using h1
    have HE:ai (∃ x∈ns,x<1∨1099511627776<x):=⟨x,(HM.o x).1 (by rw[f];exact bT t),.inl h1⟩;clear hc f;go_wp2;go_ret2;exact .inr ⟨HE,rfl,Nz⟩
   ·have f1:decide (x<1)=false:=by simpa using h1
    by_cases h2:1099511627776<x
    ·have f2:decide (1099511627776<x)=true:=by simpa using h2
     have HE:ai (∃ x∈ns,x<1∨1099511627776<x):=⟨x,(HM.o x).1 (by rw[f];exact bT t),.inr h2⟩;clear hc f;go_wp2;go_ret2;exact .inr ⟨HE,rfl,Nz⟩
    ·have f2:decide (1099511627776<x)=false:=by simpa using h2
     have S:ai (∀ x∈h.take (k+1),1≤x∧x≤1099511627776):=fun y hy=>by
      rw[dZ t]at hy
      rcases fO.1 hy with hy | hy
      ·exact HG.o y hy
      ·rw[eX.1 hy,← f];omega
     have G:=HI.len
     rcases Nat.eq_zero_or_pos k with rfl | hk0
     ·have NE:out=[]:=DZ (by omega)
      subst NE;have hq:q=0:=HQ.o;subst hq
      have HY:ai (BN h 1 ([]++[(x,x)])):=by
       unfold ai;rw[HX.o];exact BN.first t (by rw[← f];omega)
      simp only[Nat.add_zero]at q0;obtain⟨A2,c2,w3,d,u,l⟩:=iI Tryz.underlying181 wZ wr Y.heap.size wr.heap.size rfl Q.size _ ([]:List (Int×Int)) HO.row x x (by omega);have a:=ah d;have v:=ah u;have J:=ah (Q.trans l);obtain⟨X,C⟩:∃ X,X=(([]:List (Int×Int))++[(x,x)]).length:=⟨_,rfl⟩;rw[← C]at a v;have L:=ah C;clear d u l C hc f G;go_wp2_with (at_builtin;refine Lib.wpList_append_run _ rfl _ _ _ _ rfl _ _ rfl rfl _ _ a ?_);go_roundw
      case rel=>exact⟨1,X,A2,c2,([]:List (Int×Int))++[(x,x)],by omega,rfl,rfl,L,HY,S,v,J⟩
      case measure=>simp[intOf];omega
     ·obtain⟨j,rfl⟩:∃ j,k=j+1:=⟨k-1,by omega⟩
      obtain⟨F,s,hd⟩:=HI.last j (by omega) rfl;obtain⟨z,r⟩:∃ e,e=h[j]:=⟨_,rfl⟩;have M:=NG.o j (j+1) (by omega) t
      have NK:j<h.length:=by omega
      have he1:=HG.o z (by rw[r,dZ NK];exact Ec _ fA);rw[← r]at hd M;rw[← f]at M;subst hd;obtain⟨D,O⟩:∃ D,D=F.length:=⟨_,rfl⟩
      have hq:q=D+1:=by rw[O];have:=HQ.o;simpa using this
      subst hq
      have hD2:D≤400000:=by rw[bP,List.length_singleton]at G;omega
      obtain⟨g,rfl,NJ,hgl,N9,B⟩:=Own.place HO (by omega);have N9:=N9 (D*2+1)
      have hcl:wr.cell? ⟨g,D*2+1,none⟩=some (.int .i64 z):=by
       have:=(iZ (F++[(s,z)]) D (by simp[O])).2;rw[show (F++[(s,z)])[D]'(by simp[O])=(s,z) from by simp[O]]at this;exact B _ _ this
      have eD:(F++[(s,z)]).length=D+1:=by simp[O]
      by_cases he:z+1<x
      ·have f5:decide (z+1<x)=true:=by simpa using he
       have HY:ai (BN h (j+1+1) ((F++[(s,z)])++[(x,x)])):=by
        unfold ai;rw[HX.o];exact BN.push (_d:=[]) HI t (by rw[← f,← r];exact he) (by rw[← f];omega)
       have R:wr.ownsRow Y.heap.size 214 2 (.slice (some ⟨g,0,none⟩) (D+1) Z) (F++[(s,z)]).length (aS (F++[(s,z)])):=by rw[eD];exact HO.row
       obtain⟨A2,c2,w3,d,u,l⟩:=iI Tryz.underlying181 wZ wr Y.heap.size wr.heap.size rfl Q.size _ (F++[(s,z)]) R x x (by omega);have a:=ah d;have v:=ah u;have J:=ah (Q.trans l);obtain⟨X,C⟩:∃ X,X=((F++[(s,z)])++[(x,x)]).length:=⟨_,rfl⟩;rw[← C]at a v;have L:=ah C;clear d u l C B O eD R hc f r G he;go_wp2_with (at_builtin;refine Lib.wpList_append_run _ rfl _ _ _ _ rfl _ _ rfl rfl _ _ a ?_);go_roundw
       case rel=>exact⟨j+1+1,X,A2,c2,(F++[(s,z)])++[(x,x)],by omega,rfl,by go_num,L,HY,S,v,J⟩
       case measure=>simp[intOf];omega
      ·have f5:decide (z+1<x)=false:=by simpa using he
       have HY:ai (BN h (j+1+1) (F++[(s,x)])):=by
        unfold ai;rw[HX.o];refine BN.grow t (by rw[← r];exact HI.o) (by rw[← f,← r];exact M) (by rw[← f,← r];omega) (by rw[← f];omega)
       have v:ai (Own (wr.setCell ⟨g,D*2+1,none⟩ (.int .i64 x)) Y.heap.size 214 2 (some ⟨g,0,none⟩) (D+1) Z (aS (F++[(s,x)]))):=by
        rw[O];exact jR (by rw[← O];exact HO.o)
       have J:ai (av Y (wr.setCell ⟨g,D*2+1,none⟩ (.int .i64 x))):=Q.setCell NJ _
       have L:ai (D+1=(F++[(s,x)]).length):=ah (by rw[O];simp)
       clear B O eD hc f r G he;go_wp2;go_roundw
       case rel=>exact⟨j+1+1,D+1,_,Z,F++[(s,x)],by omega,rfl,by go_num,L,HY,S,v,J⟩
       case measure=>simp[intOf];omega
  ·obtain rfl:k=n:=by omega
   have hI:=HI.o;have hG:=HG.o;have W:h.take k=h:=eO (by rw[U.o];omega);have N7:ai (pI ns out):=⟨hI.right,fun m=>by rw[hI.has m,W];exact HM.o m⟩;have NF:ai (∀ x∈ns,1≤x∧x≤1099511627776):=fun x f=>hG x (by rw[W];exact (HM.o x).2 f)
   have NH:ai (out.length≤ns.length):=ah (by rw[HL.o];exact hI.len)
   have hq:=HQ.o;subst hq;clear hI hG W;go_wp2;go_ret2;exact .inl ⟨NF,out,_,_,rfl,N7,NH,HO.mono H.size,H.trans (Q.mono H.size)⟩
end Sp
namespace Tr
open Sp Rw
def gu (a b:ByteArray):Int:=Lib.compareBytes a.data.toList b.data.toList
theorem FV:∀ a b:List UInt8,Lib.compareBytes a b<0↔Op.bytesLess a b=true
 | [],[]=>by simp[Lib.compareBytes,Op.bytesLess]
 | [],_::_=>by simp[Lib.compareBytes,Op.bytesLess]
 | _::_,[]=>by simp[Lib.compareBytes,Op.bytesLess]
 | x::a,y::b=>by
  have f:=FV a b;unfold Lib.compareBytes Op.bytesLess
  by_cases h:x<y
  ·simp[h]
  ·by_cases c:y<x
   ·have d:x≠y:=fun e=>by subst e;exact UInt8.lt_irrefl x c
    simp[h,c,d]
   ·have d:x=y:=UInt8.le_antisymm (UInt8.not_lt.1 c) (UInt8.not_lt.1 h)
    subst d;simp[h,f]
theorem cmpL_eq:∀ a b:List UInt8,Lib.compareBytes a b=0↔a=b
 | [],[]=>by simp[Lib.compareBytes]
 | [],_::_=>by simp[Lib.compareBytes]
 | _::_,[]=>by simp[Lib.compareBytes]
 | x::a,y::b=>by
  have f:=cmpL_eq a b;unfold Lib.compareBytes
  by_cases h:x<y
  ·have c:x≠y:=fun e=>by subst e;exact UInt8.lt_irrefl x h
   simp[h,c]
  ·by_cases d:y<x
   ·have c:x≠y:=fun e=>by subst e;exact UInt8.lt_irrefl x d
    simp[h,d,c]
   ·have c:x=y:=UInt8.le_antisymm (UInt8.not_lt.1 d) (UInt8.not_lt.1 h)
    subst c;simp[h,f]
theorem j5 (a b:ByteArray):gu a b<0↔cK a b:=by
 unfold gu cK;rw[nu,nu];exact FV _ _
theorem AB (a b:ByteArray):gu a b=0↔a=b:=by
 unfold gu;rw[cmpL_eq];constructor
 ·intro h
  exact qB (by rw[nu,nu];exact h)
 ·rintro rfl;rfl
set_option maxHeartbeats 1000000 in
set_option maxRecDepth 100000 in
theorem si (a b:ByteArray) (w:World):Calls Tryz.prog 141 #[.string a,.string b] w fun e w'=>e = .returned (.int .i64 (gu a b))∧w'=w:=by
 go_enter Tryz.func141,Tryz.ntmps141;go_wp2;rw[run_callFunc_extern Tryz.func170 (by kernel_rfl) (by kernel_rfl) (by kernel_rfl) (e:=Extern.BytealgCompare.compare) (by kernel_rfl),Lib.run_compareString];simp only[Result.andThen];rw[Oper.upon_value];go_wp2;go_ret;exact⟨rfl,rfl⟩
theorem pQ (a b:ByteArray) (w:World):Calls Tryz.prog 102 #[.string a,.string b] w fun e w'=>e = .returned (.int .i64 (gu a b))∧w'=w:=by
 go_enter Tryz.func102,Tryz.ntmps102;go_wp2_with (go_at_call 141;refine (si _ _ _).mono ?_;rintro e w' ⟨rfl,rfl⟩);go_ret;exact⟨rfl,rfl⟩
theorem MZ (x:ByteArray) (w:World):Calls Tryz.prog 220 #[.string x] w fun e w'=>e = .returned (.bool false)∧w'=w:=by
 go_enter Tryz.func220,Tryz.ntmps220;go_wp2;go_ret;exact⟨by simp,rfl⟩
theorem Bl (x:ByteArray) (w:World):Calls Tryz.prog 201 #[.string x] w fun e w'=>e = .returned (.bool false)∧w'=w:=by
 go_enter Tryz.func201,Tryz.ntmps201;go_wp2;go_ret;exact⟨by simp,rfl⟩
theorem Bc (x y:ByteArray) (b:Bool) (w:World) (a:Op.bytesLess x.toList y.toList=b):Calls Tryz.prog 200 #[.string x,.string y] w fun e w'=>e = .returned (.bool b)∧w'=w:=by
 go_enter Tryz.func200,Tryz.ntmps200;go_wp2_with (go_at_call 220;refine (MZ _ _).mono ?_;rintro e w' ⟨rfl,rfl⟩);go_ret;exact⟨by first | rfl | simp[a],rfl⟩
theorem oG (k key:ByteArray) (A B:Option Addr) (n m c d:Nat) (w:World):Calls Tryz.prog 101 #[.agg #[.string k,.slice A n c,.slice B m d],.string key] w fun e w'=>e = .returned (.int .i64 (gu k key))∧av w w':=by
 go_enter Tryz.func101,Tryz.ntmps101;go_wp2_with (go_at_call 102;refine (pQ _ _ _).mono ?_;rintro e w' ⟨rfl,rfl⟩);go_ret;exact⟨rfl,Dt.ay _ _ _⟩
end Tr
namespace Cs
open Tr Cx Sp
abbrev yN (e:E):Value:=.agg #[.int .i64 e.a,.int .i64 e.n,.string e.s,.int .i64 e.v]
theorem KO {x y:E} (h:zO x y):(if Dt.mq x.v y.v=0 then gu x.s y.s else Dt.mq x.v y.v)<0:=by
 rcases h with h | ⟨h,a⟩
 ·rw[Dt.wu h];simp
 ·rw[h,Dt.vZ,if_pos rfl]
  exact (j5 _ _).2 a
theorem Ja {x y:E} (h:¬zO x y):¬(if Dt.mq x.v y.v=0 then gu x.s y.s else Dt.mq x.v y.v)<0:=by
 intro c
 apply h
 rcases Dt.KL x.v y.v with ⟨a,b⟩ | ⟨a,b⟩ | ⟨a,b⟩
 ·exact .inl a
 ·rw[b,if_pos rfl]at c
  exact .inr ⟨a,(j5 _ _).1 c⟩
 ·rw[b,if_neg (by omega)]at c
  omega
theorem gH (w:World) (x y z:Array Value) (t u v:TypeId):av w (((w.alloc (.cells x t)).alloc (.cells y u)).alloc (.cells z v)):=(((bN).alloc (bG) _).alloc (by simp) _).alloc (by simp;omega) _
set_option maxRecDepth 100000 in
set_option maxHeartbeats 1000000 in
theorem Co (x y:E) (w:World):Calls Tryz.prog 182 #[yN x,yN y] w fun e w'=>e = .returned (yN (sF x y))∧av w w':=by
 obtain⟨c,H⟩:∃ c,c=Dt.mq x.v y.v:=⟨_,rfl⟩;obtain⟨d,hd⟩:∃ d,d=gu x.s y.s:=⟨_,rfl⟩
 obtain⟨r,M⟩:∃ r,r=(if c=0 then d else c):=⟨_,rfl⟩
 have G:ai ((zO x y∧decide (r<0)=true∧sF x y=y)∨(¬zO x y∧decide (r<0)=false∧sF x y=x)):=by
  unfold ai;rw[M,H,hd]
  rcases oH x y with ⟨h,e⟩ | ⟨h,e⟩
  ·exact .inl ⟨h,aJ (KO h),e⟩
  ·exact .inr ⟨h,aM (Ja h),e⟩
 obtain⟨z,hz⟩:∃ z,sF x y=z:=⟨_,rfl⟩;rw[hz]at G ⊢;obtain⟨B,C,m,n⟩:=x;obtain⟨D,F,q,t⟩:=y;dsimp only at H hd
 have S:∀ W,ai (Calls Tryz.prog 166 #[.int .i64 n,.int .i64 t] W fun e w'=>e = .returned (.int .i64 c)∧w'=W):=fun W=>by rw[H];exact (Dt.zq n t W).mono fun _ _ h=>⟨h.1,h.2.symm⟩
 have U:∀ W,ai (Calls Tryz.prog 102 #[.string m,.string q] W fun e w'=>e = .returned (.int .i64 d)∧w'=W):=fun W=>by rw[hd];exact pQ m q W
 have V:=ah M;clear H hd M hz;dsimp only[yN];go_enter Tryz.func182,Tryz.ntmps182;go_wp2_with fail;have J:=ah (gH w #[.int .i64 B,.int .i64 C,.string m,.int .i64 n] #[.int .i64 D,.int .i64 F,.string q,.int .i64 t] #[.int .i64 0,.int .i64 0,.string ⟨#[]⟩,.int .i64 0] 97 97 97);obtain⟨p,l⟩:∃ p,p=w.heap.size:=⟨_,rfl⟩;obtain⟨W,k⟩:∃ W,W=((w.alloc (.cells #[.int .i64 B,.int .i64 C,.string m,.int .i64 n] 97)).alloc (.cells #[.int .i64 D,.int .i64 F,.string q,.int .i64 t] 97)).alloc (.cells #[.int .i64 0,.int .i64 0,.string ⟨#[]⟩,.int .i64 0] 97):=⟨_,rfl⟩
 have K:Kept [(⟨p,0,none⟩,.int .i64 B),(⟨p,1,none⟩,.int .i64 C),(⟨p,2,none⟩,.string m),(⟨p,3,none⟩,.int .i64 n),(⟨p+1,0,none⟩,.int .i64 D),(⟨p+1,1,none⟩,.int .i64 F),(⟨p+1,2,none⟩,.string q),(⟨p+1,3,none⟩,.int .i64 t)] w W:=by
  have h0:=Kept.a_ J.o;rw[← k]at h0
  refine (((((((h0.af ?_).af ?_).af ?_).af ?_).af ?_).af ?_).af ?_).af ?_ <;> (rw[k,l];go_simp)
 have X:ai (aA (p+2) W):=by
  refine⟨?_,fun j=>?_⟩
  ·rw[k,l];simp
  ·rw[k,l];go_simp
 have j0:W.cell? ⟨p+2,0,none⟩=some (.int .i64 0):=by rw[k,l];go_simp
 have j1:W.cell? ⟨p+2,1,none⟩=some (.int .i64 0):=by rw[k,l];go_simp
 have j2:W.cell? ⟨p+2,2,none⟩=some (.string ⟨#[]⟩):=by rw[k,l];go_simp
 have j3:W.cell? ⟨p+2,3,none⟩=some (.int .i64 0):=by rw[k,l];go_simp
 rw[← k]at J ⊢;rw[← l];have k2:=K.c2;have k3:=K.c3;have k6:=K.c6;have k7:=K.c7;have Z:=ah ((((K.af j3).af j2).af j1).af j0);have Y:=ah l;clear k l K j0 j1 j2 j3;refine wp_region_still_tail 10 (by kernel_rfl) (by kernel_rfl) ?_;simp only[List.take_succ_cons,List.take_zero,List.drop_succ_cons,List.drop_zero]
 still_step
 still_step
 still_step
 still_step
 still_call (S _).o
 still_step
 still_step
 still_step
 still_step
 still_call (U _).o
 refine wpStill_nil ?_
 change wpList _ _ _ _ _ W.drew
 have a:=ah ((Z.drew).alloc (.cells #[.int .i64 c,.int .i64 d] 3));have g:=ah ((X.drew).alloc (.cells #[.int .i64 c,.int .i64 d] 3));clear S U k2 k3 k6 k7 J Z X
 generalize W.drew=W2 at *
 rcases G.o with ⟨_,L,rfl⟩ | ⟨_,L,rfl⟩
 ·have z0:=a.c0
  have z1:=a.c1;have z2:=a.c2;have z3:=a.c3;have m0:=g.2 0;have m1:=g.2 1;have m2:=g.2 2;have m3:=g.2 3;have y0:=a.t8.c0;have y1:=a.t8.c1;have y2:=a.t8.c2;have y3:=a.t8.c3;obtain⟨i,b⟩:∃ W,W=((((W2.alloc (.cells #[.int .i64 c,.int .i64 d] 3)).setCell ⟨p+2,0,none⟩ (.int .i64 D)).setCell ⟨p+2,1,none⟩ (.int .i64 F)).setCell ⟨p+2,2,none⟩ (.string q)).setCell ⟨p+2,3,none⟩ (.int .i64 t):=⟨_,rfl⟩
  have f:w.heap.size≤p+2:=by have:=Y.o;omega
  have u:ai (av w i):=by
   unfold ai;rw[b];exact (((a.below.setCell (p:=⟨p+2,0,none⟩) f _).setCell (p:=⟨p+2,1,none⟩) f _).setCell (p:=⟨p+2,2,none⟩) f _).setCell (p:=⟨p+2,3,none⟩) f _
  have N:i.cell? ⟨p+2,0,none⟩=some (.int .i64 D):=by rw[b];go_simp
  have O:i.cell? ⟨p+2,1,none⟩=some (.int .i64 F):=by rw[b];go_simp
  have Q:i.cell? ⟨p+2,2,none⟩=some (.string q):=by rw[b];go_simp
  have R:i.cell? ⟨p+2,3,none⟩=some (.int .i64 t):=by rw[b];go_simp
  have A:=ah b;clear b;go_wp2_with (go_at_call 164;refine (Dt.Fa W2.heap.size c d _ (by go_simp) (by go_simp)).mono ?_;rw[← V.o];rintro e w3 ⟨rfl,rfl⟩);rw[← A.o];refine bodyPost_ret (v:=.agg #[.int .i64 D,.int .i64 F,.string q,.int .i64 t]) (by simp[results,Tryz.results182,go_sem,N,O,Q,R]) rfl ⟨rfl,u⟩
 ·have z0:=a.c0
  have z1:=a.c1;have z2:=a.c2;have z3:=a.c3;have m0:=g.2 0;have m1:=g.2 1;have m2:=g.2 2;have m3:=g.2 3;have y0:=a.tail.tail.tail.tail.c0;have y1:=a.tail.tail.tail.tail.c1;have y2:=a.tail.tail.tail.tail.c2;have y3:=a.tail.tail.tail.tail.c3;obtain⟨i,b⟩:∃ W,W=((((W2.alloc (.cells #[.int .i64 c,.int .i64 d] 3)).setCell ⟨p+2,0,none⟩ (.int .i64 B)).setCell ⟨p+2,1,none⟩ (.int .i64 C)).setCell ⟨p+2,2,none⟩ (.string m)).setCell ⟨p+2,3,none⟩ (.int .i64 n):=⟨_,rfl⟩
  have f:w.heap.size≤p+2:=by have:=Y.o;omega
  have u:ai (av w i):=by
   unfold ai;rw[b];exact (((a.below.setCell (p:=⟨p+2,0,none⟩) f _).setCell (p:=⟨p+2,1,none⟩) f _).setCell (p:=⟨p+2,2,none⟩) f _).setCell (p:=⟨p+2,3,none⟩) f _
  have N:i.cell? ⟨p+2,0,none⟩=some (.int .i64 B):=by rw[b];go_simp
  have O:i.cell? ⟨p+2,1,none⟩=some (.int .i64 C):=by rw[b];go_simp
  have Q:i.cell? ⟨p+2,2,none⟩=some (.string m):=by rw[b];go_simp
  have R:i.cell? ⟨p+2,3,none⟩=some (.int .i64 n):=by rw[b];go_simp
  have A:=ah b;clear b;go_wp2_with (go_at_call 164;refine (Dt.Fa W2.heap.size c d _ (by go_simp) (by go_simp)).mono ?_;rw[← V.o];rintro e w3 ⟨rfl,rfl⟩);rw[← A.o];refine bodyPost_ret (v:=.agg #[.int .i64 B,.int .i64 C,.string m,.int .i64 n]) (by simp[results,Tryz.results182,go_sem,N,O,Q,R]) rfl ⟨rfl,u⟩
theorem l9 (x y:E) (w:World):Calls Tryz.prog 178 #[yN x,yN y] w fun e w'=>e = .returned (.int .i64 (Dt.lH x.a x.n y.a y.n))∧av w w':=by
 obtain⟨f,g,h,i⟩:=x;obtain⟨j,k,l,m⟩:=y;dsimp only[yN];have d:=ah (Dt.bC w #[.int .i64 f,.int .i64 g,.string h,.int .i64 i] #[.int .i64 j,.int .i64 k,.string l,.int .i64 m] 97 97);go_enter Tryz.func178,Tryz.ntmps178;go_wp2_with (go_at_call 134;refine (Dt.pO _ _ _ _ _).mono ?_;rintro e w' ⟨rfl,b⟩;have c:=ah b;clear b);go_ret;exact⟨rfl,d.trans (c.mono d.size)⟩
theorem l_ (x y:ByteArray) (A B:Option Addr) (n m c d:Nat) (a b:Option Addr) (h g c2 f:Nat) (w:World):Calls Tryz.prog 183 #[.agg #[.string x,.slice A n c,.slice B m d],.agg #[.string y,.slice a h c2,.slice b g f]] w fun e w'=>e = .returned (.int .i64 (gu x y))∧av w w':=by
 have i:=ah (Dt.bC w #[.string x,.slice A n c,.slice B m d] #[.string y,.slice a h c2,.slice b g f] 134 134);go_enter Tryz.func183,Tryz.ntmps183;go_wp2_with (go_at_call 102;refine (pQ _ _ _).mono ?_;rintro e w' ⟨rfl,rfl⟩);go_ret;exact⟨rfl,i⟩
end Cs
namespace Tr
open Rw Sp
structure RO (w:World) (ok:Nat→Prop) (sz:Nat) (A:Option Addr) (n c:Nat) (xs:List Value):Prop where
 len:xs.length=n*sz
 cap:n≤c
 one:∀ u∈xs,u.oneCell'=true
 at_:0<n→∃ b o,A=some ⟨b,o,none⟩∧ok b∧b<w.heap.size∧(∀ j,w.frozen? ⟨b,j,none⟩=false)∧∀ j u,xs[j]?=some u→w.cell? ⟨b,o+j,none⟩=some u
namespace RO
variable {w w':World} {ok ok':Nat→Prop} {sz n c:Nat} {A:Option Addr} {xs:List Value}
theorem nil (w:World) (ok:Nat→Prop) (sz:Nat) (A:Option Addr) (c:Nat):RO w ok sz A 0 c []:=⟨by simp,Nat.zero_le _,by simp,fun h=>absurd h (by omega)⟩
theorem rd (h:RO w ok sz A n c xs):Rd w w.heap.size sz A n c xs:=⟨h.len,h.cap,h.one,fun f=>by obtain⟨b,o,e,_,a,_,d⟩:=h.at_ f;exact⟨b,o,e,a,d⟩⟩
theorem mono (h:RO w ok sz A n c xs) (j:∀ b,ok b→b<w.heap.size→ok' b):RO w ok' sz A n c xs:=
 ⟨h.len,h.cap,h.one,fun i=>by obtain⟨b,o,e,d,a,f,g⟩:=h.at_ i;exact⟨b,o,e,j b d a,a,f,g⟩⟩
theorem keep (h:RO w ok sz A n c xs) (m:w.heap.size≤w'.heap.size) (g:∀ b,ok b→b<w.heap.size→w'.heap[b]?=w.heap[b]?):RO w' ok sz A n c xs:=
 ⟨h.len,h.cap,h.one,fun l=>by
  obtain⟨b,o,e,d,f,i,k⟩:=h.at_ l
  exact⟨b,o,e,d,cO f m,fun j=>(Eb (a:=⟨b,j,none⟩) (g b d f)).trans (i j),fun j u hu=>(bU (a:=⟨b,o+j,none⟩) (g b d f)).trans (k j u hu)⟩⟩
theorem b_ {base e:Nat} (h:Own w base e sz A n c xs):RO w (fun b=>base≤b∧(Value.slice A n c).ownBlock=some b) sz A n c xs:=
 ⟨h.rd.len,h.rd.cap,h.one,fun k=>by
  obtain⟨g,rfl,a,d,f,i⟩:=Sp.Own.place h k
  exact⟨g,0,rfl,⟨a,by simp[Value.ownBlock]⟩,d,f,fun j u hu=>by rw[Nat.zero_add];exact i j u hu⟩⟩
end RO
def aX (w:World) (ok:Nat→Prop):T→SV→SV→Prop
 | .mk es ks,se,sk=>es.length=se.n∧RO w ok 4 se.A se.n se.c (bV es)∧ks.length=sk.n∧∃ xs:List Value,RO w ok 3 sk.A sk.n sk.c xs ∧
   ∀ (i:Nat) (h:i<ks.length),∃ se' sk':SV,xs[i*3]?=some (.string (ks[i]).1)∧xs[i*3+1]?=some (.slice se'.A se'.n se'.c)∧xs[i*3+2]?=some (.slice sk'.A sk'.n sk'.c)∧aX w ok (ks[i]).2 se' sk'
termination_by t=>SizeOf.sizeOf t
decreasing_by exact IV h es
theorem kQ (w:World) (ok:Nat→Prop) (es:List E) (ks:List (ByteArray×T)) (se d:SV):aX w ok (.mk es ks) se d↔(es.length=se.n∧RO w ok 4 se.A se.n se.c (bV es)∧ks.length=d.n∧∃ xs:List Value,RO w ok 3 d.A d.n d.c xs ∧
   ∀ (i:Nat) (h:i<ks.length),∃ a b:SV,xs[i*3]?=some (.string (ks[i]).1)∧xs[i*3+1]?=some (.slice a.A a.n a.c)∧xs[i*3+2]?=some (.slice b.A b.n b.c)∧aX w ok (ks[i]).2 a b):=by
 rw[aX]
theorem aX.rd {w:World} {ok:Nat→Prop} : ∀ (t:T) {se b:SV},aX w ok t se b→aF w w.heap.size t se b:=by
 intro t
 induction t using T.ind with
 | h es ks ih=>
  intro se b h;rw[kQ]at h;rw[gL];obtain⟨l,m,p,xs,q,r⟩:=h;refine⟨l,m.rd,p,xs,q.rd,fun i hi=>?_⟩;obtain⟨a,d,f,g,j,k⟩:=r i hi;exact⟨a,d,f,g,j,ih _ (bT hi) k⟩
theorem aX.mono {w:World} {ok ok':Nat→Prop} (g:∀ b,ok b→b<w.heap.size→ok' b):∀ (t:T) {se d:SV},aX w ok t se d→aX w ok' t se d:=by
 intro t
 induction t using T.ind with
 | h es ks ih=>
  intro se d h;rw[kQ]at h ⊢;obtain⟨p,q,r,xs,s,u⟩:=h;refine⟨p,q.mono g,r,xs,s.mono g,fun i hi=>?_⟩;obtain⟨a,f,j,k,l,m⟩:=u i hi;exact⟨a,f,j,k,l,ih _ (bT hi) m⟩
theorem aX.keep {w w':World} {ok:Nat→Prop} (j:w.heap.size≤w'.heap.size) (g:∀ b,ok b→b<w.heap.size→w'.heap[b]?=w.heap[b]?):∀ (t:T) {se d:SV},aX w ok t se d→aX w' ok t se d:=by
 intro t
 induction t using T.ind with
 | h es ks ih=>
  intro se d h;rw[kQ]at h ⊢;obtain⟨q,r,s,xs,u,v⟩:=h;refine⟨q,r.keep j g,s,xs,u.keep j g,fun i hi=>?_⟩;obtain⟨a,f,k,l,m,p⟩:=v i hi;exact⟨a,f,k,l,m,ih _ (bT hi) p⟩
theorem aX.later {w w':World} {ok:Nat→Prop} {t:T} {se f:SV} (h:aX w ok t se f) (d:av w w'):aX w' ok t se f:=aX.keep d.size (fun b _ a=>d.block b a) t h
instance {ok:Nat→Prop} {t:T} {se sk:SV} {v v':World} : fE v v' (aX v ok t se sk) (aX v' ok t se sk):=⟨fun h hb=>aX.later h hb⟩
theorem aX.none (w:World) (ok:Nat→Prop) (A A':Option Addr) (c c':Nat):aX w ok none_ ⟨A,0,c⟩ ⟨A',0,c'⟩:=by
 unfold none_;rw[kQ];exact⟨rfl,RO.nil _ _ _ _ _,rfl,[],RO.nil _ _ _ _ _,fun i hi=>by simp at hi⟩
def nM (k:ByteArray×SV×SV):List Value:=[.string k.1,.slice k.2.1.A k.2.1.n k.2.1.c,.slice k.2.2.A k.2.2.n k.2.2.c]
theorem xh (k:ByteArray×SV×SV):(nM k).length=3:=rfl
theorem sK (k:ByteArray×SV×SV):∀ u∈nM k,u.oneCell'=true:=by
 intro u hu;simp[nM]at hu
 rcases hu with rfl | rfl | rfl <;> rfl
structure bK (w:World) (base e:Nat) (A:Option Addr) (n c:Nat) (ks:List (ByteArray×T)) (kr:List (ByteArray×SV×SV)):Prop where
 len:ks.length=n
 lenr:kr.length=n
 own:Own w base e 3 A n c (kr.flatMap nM)
 yH:∀ (i:Nat) (h:i<ks.length) (h':i<kr.length),kr[i].1=ks[i].1∧aX w (fun b=>base≤b∧(Value.slice A n c).ownBlock≠some b) ks[i].2 kr[i].2.1 kr[i].2.2
namespace bK
variable {w w':World} {base e n c:Nat} {A:Option Addr} {ks:List (ByteArray×T)} {kr:List (ByteArray×SV×SV)}
theorem nil (w:World) (base e:Nat):bK w base e none 0 0 [] []:=⟨rfl,rfl,⟨iy _ _ _ _,by simp⟩,fun i h=>by simp at h⟩
theorem later (h:bK w base e A n c ks kr) (b:av w w'):bK w' base e A n c ks kr:=
 ⟨h.len,h.lenr,aG h.own b,fun i hi a=>⟨(h.yH i hi a).1,(h.yH i hi a).2.later b⟩⟩
theorem tree (h:bK w base e A n c ks kr) {ok:Nat→Prop} (f:∀ b,base≤b→b<w.heap.size→ok b) {es:List E} {se:SV} (j:es.length=se.n) (k:RO w ok 4 se.A se.n se.c (bV es)):aX w ok (.mk es ks) se ⟨A,n,c⟩:=by
 rw[kQ];refine⟨j,k,h.len,kr.flatMap nM,(RO.b_ h.own).mono fun b g d=>f b g.1 d,fun i hi=>?_⟩
 have a:i<kr.length:=by have h1:=h.len;have h2:=h.lenr;omega
 obtain⟨l,m⟩:=h.yH i hi a;have p:=mG xh kr i 0 a (by omega);have q:=mG xh kr i 1 a (by omega);have r:=mG xh kr i 2 a (by omega);refine⟨kr[i].2.1,kr[i].2.2,?_,q,r,aX.mono (fun b g d=>f b g.1 d) _ m⟩;rw[← l];exact p
theorem push {t g:Nat} {z:Value} (J:Tryz.prog.underlying t=some (.slice e)) (hi:(Tryz.prog.info? e).map (fun i=>(i.zero,i.size,i.bytes))=some (some z,3,g)) (O:z.cells.size=3) (F:g≤1000000)
  (h:bK w base e A n c ks kr) (p:Nat) (W:w.heap.size=p) (d:base≤w.heap.size) {k:ByteArray×SV×SV} {u:T} (hu:aX w (fun b=>base≤b∧(Value.slice A n c).ownBlock≠some b) u k.2.1 k.2.2) (hn:n≤900000) (Q:Array Value) (G:Q=(nM k).toArray) :
  ∃ A' c' w',(Builtin.append_ #[t,t] t #[.slice A n c,.slice (some ⟨p,0,none⟩) 1 1]).run Tryz.prog (w.alloc (.cells Q e)) = .ok (.slice A' (n+1) c') w' ∧
   bK w' base e A' (n+1) c' (ks++[(k.1,u)]) (kr++[k])∧Below base w w'∧∀ b,(Value.slice A n c).ownBlock≠some b→b<w.heap.size→w'.heap[b]?=w.heap[b]?:=by
 subst W;subst G;obtain⟨X,H,L,M,N⟩:=dO hi;have f:=h.own.row
 obtain⟨v',w',Y,Z,x,v⟩:=iq (P:=Tryz.prog) (w.alloc (.cells (nM k).toArray e)) base t t e X z 3 g J H L M N O (by omega)
  (f.alloc _) (B:=w.heap.size+1) (A:=some ⟨w.heap.size,0,none⟩) (m:=1) (c:=1) (news:=nM k)
  ⟨rfl,by omega,sK k,fun _=>⟨_,_,rfl,by omega,fun j u hu=>by
   rw[Nat.zero_add,cell_of_row _ _ j _ _ (0,0) (heap_alloc_new _ _)]
   simpa using hu⟩⟩ (by omega) F (by simp;omega)
 obtain⟨A',c',rfl,V⟩:=Own.gX Z (fun u hu=>by
  rcases fO.1 hu with hu | hu
  ·exact h.own.one u hu
  ·exact sK k u hu)
 have q:Below base w w':=((Below.refl base w).alloc d _).grown x (by simp;omega) (fun k U=>(f.lt k U).1)
 have l:w.heap.size≤w'.heap.size:=by have:=x.size;simp at this;omega
 have r:∀ b,(base≤b∧(Value.slice A n c).ownBlock≠some b)→b<w.heap.size→base≤b∧(Value.slice A' (n+1) c').ownBlock≠some b:=fun b d a=>⟨d.1,fun R=>by
  rcases v with v | v
  ·exact d.2 (v.symm.trans R)
  ·have:some b=some (w.alloc (.cells (nM k).toArray e)).heap.size:=R.symm.trans v
   injection this with this
   simp at this
   omega⟩
 have s:∀ {t:T} {se sk:SV},aX w (fun b=>base≤b∧(Value.slice A n c).ownBlock≠some b) t se sk→aX w' (fun b=>base≤b∧(Value.slice A' (n+1) c').ownBlock≠some b) t se sk:=fun {t se sk} J=>
  aX.keep l (fun b d a=>(x.block b (by simp;omega) (fun e=>d.2.2 e.symm)).trans (heap_alloc_old w _ a)) t (aX.mono (ok':=fun b=>(base≤b∧(Value.slice A' (n+1) c').ownBlock≠some b)∧(base≤b∧(Value.slice A n c).ownBlock≠some b)) (fun b d a=>⟨r b d a,d⟩) t J) |> aX.mono (fun b d _=>d.1) t
 refine⟨A',c',w',Y,⟨by simp[h.len],by simp[h.lenr],?_,fun i hi hi'=>?_⟩,q,fun b d a=>(x.block b (by simp;omega) (fun e=>d e.symm)).trans (heap_alloc_old w _ a)⟩
 ·have y:(kr++[k]).flatMap nM=kr.flatMap nM++nM k:=by simp
  rw[y];exact V
 ·by_cases a:i<n
  ·have C:i<ks.length:=by rw[h.len];exact a
   have D:i<kr.length:=by rw[h.lenr];exact a
   rw[BL C,BL D];exact⟨(h.yH i C D).1,s (h.yH i C D).2⟩
  ·have e0:i=n:=by simp[h.len]at hi;omega
   have y:(ks++[(k.1,u)])[i]=(k.1,u):=by rw[BM (by rw[h.len];omega)];simp
   have S:(kr++[k])[i]=k:=by rw[BM (by rw[h.lenr];omega)];simp
   rw[y,S];exact⟨rfl,s hu⟩
end bK
end Tr
end
section
open Go.Shelf
namespace Tr
def yU:Go.Shelf.Ren:=⟨fun | 54=>149 | 64=>176 | 65=>175 | 78=>211 | 79=>212 | 80=>203 | 81=>204 | 82=>205 | 83=>206 | 84=>207 | 85=>208 | 61=>200 | 86=>209 | 87=>210 | 93=>221 | 89=>222 | 90=>223 | 94=>224 | 95=>225 | 69=>220 | 97=>235 | n=>n,fun | 25=>25 | 26=>9 | 3=>3 | 51=>163 | 0=>0 | 67=>232 | 69=>234 | 4=>4 | 61=>226 | 60=>225 | 44=>131 | 5=>5 | 9=>9 | 75=>243 | 79=>247 | 83=>255 | 84=>256 | n=>n,fun | n=>n⟩
theorem Af:Go.Proofs.SlLaysN.n54 Tryz.prog yU:={
 mixed:=by kernel_rfl
 f54:=⟨Tryz.f149.name,by decide,Tryz.func149.trans (congrArg some (by kernel_rfl))⟩
 f61:=⟨Tryz.f200.name,by decide,Tryz.func200.trans (congrArg some (by kernel_rfl))⟩
 f64:=Tryz.func176.trans (congrArg some (by kernel_rfl))
 f65:=⟨Tryz.f175.name,by decide,Tryz.func175.trans (congrArg some (by kernel_rfl))⟩
 f69:=⟨Tryz.f220.name,by decide,Tryz.func220.trans (congrArg some (by kernel_rfl))⟩
 f78:=Tryz.func211.trans (congrArg some (by kernel_rfl))
 f79:=Tryz.func212.trans (congrArg some (by kernel_rfl))
 f80:=⟨Tryz.f203.name,by decide,Tryz.func203.trans (congrArg some (by kernel_rfl))⟩
 f81:=⟨Tryz.f204.name,by decide,Tryz.func204.trans (congrArg some (by kernel_rfl))⟩
 f82:=⟨Tryz.f205.name,by decide,Tryz.func205.trans (congrArg some (by kernel_rfl))⟩
 f83:=⟨Tryz.f206.name,by decide,Tryz.func206.trans (congrArg some (by kernel_rfl))⟩
 f84:=⟨Tryz.f207.name,by decide,Tryz.func207.trans (congrArg some (by kernel_rfl))⟩
 f85:=⟨Tryz.f208.name,by decide,Tryz.func208.trans (congrArg some (by kernel_rfl))⟩
 f86:=⟨Tryz.f209.name,by decide,Tryz.func209.trans (congrArg some (by kernel_rfl))⟩
 f87:=⟨Tryz.f210.name,by decide,Tryz.func210.trans (congrArg some (by kernel_rfl))⟩
 f89:=Tryz.func222.trans (congrArg some (by kernel_rfl))
 f90:=Tryz.func223.trans (congrArg some (by kernel_rfl))
 f93:=⟨Tryz.f221.name,by decide,Tryz.func221.trans (congrArg some (by kernel_rfl))⟩
 f94:=⟨Tryz.f224.name,by decide,Tryz.func224.trans (congrArg some (by kernel_rfl))⟩
 f95:=⟨Tryz.f225.name,by decide,Tryz.func225.trans (congrArg some (by kernel_rfl))⟩
 f97:=⟨Tryz.f235.name,by decide,Tryz.func235.trans (congrArg some (by kernel_rfl))⟩
 t0:=Tryz.underlying0
 a0:=Tryz.isAgg0
 z0:=Tryz.sizeOf0
 v0:=Tryz.zeroValue0
 t3:=Tryz.underlying3
 a3:=Tryz.isAgg3
 z3:=Tryz.sizeOf3
 v3:=Tryz.zeroValue3
 t4:=Tryz.underlying4
 a4:=Tryz.isAgg4
 z4:=Tryz.sizeOf4
 v4:=Tryz.zeroValue4
 t5:=Tryz.underlying5
 a5:=Tryz.isAgg5
 z5:=Tryz.sizeOf5
 v5:=Tryz.zeroValue5
 t9:=Tryz.underlying9
 a9:=Tryz.isAgg9
 z9:=Tryz.sizeOf9
 v9:=Tryz.zeroValue9
 t25:=Tryz.underlying25
 a25:=Tryz.isAgg25
 z25:=Tryz.sizeOf25
 v25:=Tryz.zeroValue25
 t26:=Tryz.underlying9
 a26:=Tryz.isAgg9
 z26:=Tryz.sizeOf9
 v26:=Tryz.zeroValue9
 t44:=Tryz.underlying131
 a44:=Tryz.isAgg131
 z44:=Tryz.sizeOf131
 v44:=Tryz.zeroValue131
 t51:=Tryz.underlying163
 a51:=Tryz.isAgg163
 z51:=Tryz.sizeOf163
 v51:=Tryz.zeroValue163
 t60:=Tryz.underlying225
 a60:=Tryz.isAgg225
 z60:=Tryz.sizeOf225
 v60:=Tryz.zeroValue225
 t61:=Tryz.underlying226
 a61:=Tryz.isAgg226
 z61:=Tryz.sizeOf226
 v61:=Tryz.zeroValue226
 t67:=Tryz.underlying232
 a67:=Tryz.isAgg232
 z67:=Tryz.sizeOf232
 v67:=Tryz.zeroValue232
 t69:=Tryz.underlying234
 a69:=Tryz.isAgg234
 z69:=Tryz.sizeOf234
 v69:=Tryz.zeroValue234
 t75:=Tryz.underlying243
 a75:=Tryz.isAgg243
 z75:=Tryz.sizeOf243
 v75:=Tryz.zeroValue243
 t79:=Tryz.underlying247
 a79:=Tryz.isAgg247
 z79:=Tryz.sizeOf247
 v79:=Tryz.zeroValue247
 t83:=Tryz.underlying255
 a83:=Tryz.isAgg255
 z83:=Tryz.sizeOf255
 v83:=Tryz.zeroValue255
 t84:=Tryz.underlying256
 a84:=Tryz.isAgg256
 z84:=Tryz.sizeOf256
 v84:=Tryz.zeroValue256 }
end Tr
end
section
open ChangeShapes WideShapes ChangeAt RowKit
namespace Tr
open Sp Rw
theorem dJ {a b:ByteArray} (h:¬a=b):(a.toList==b.toList)=false:=by
 rw[gP];exact fun c=>h (qB c)
def gF {α:Type} (l m:List α) (k:Nat):Prop:=∀ (i:Nat) (h:i<l.length) (h':i<m.length),i<k→l[i]=m[i]
theorem gF.zero {α:Type} (l m:List α):gF l m 0:=fun _ _ _ h=>absurd h (Nat.not_lt_zero _)
theorem gF.succ {α:Type} {l m:List α} {k:Nat} (h:gF l m k) (d:∀ (a:k<l.length) (b:k<m.length),l[k]=m[k]):gF l m (k+1):=fun i hi c hlt=>by
 by_cases e:i=k
 ·subst e;exact d hi c
 ·exact h i hi c (by omega)
theorem gF.all {α:Type} {l m:List α} {k:Nat} (h:gF l m k) (hl:l.length=k) (hm:m.length=k):l=m:=List.ext_getElem (by omega) fun i a b=>h i a b (by omega)
end Tr
end
section
open ChangeShapes WideShapes ChangeAt RowKit Go.Joins
namespace Dt
set_option maxRecDepth 100000
end Dt
end
end Go.Proofs.YtgeafpaognhokaaGreat
