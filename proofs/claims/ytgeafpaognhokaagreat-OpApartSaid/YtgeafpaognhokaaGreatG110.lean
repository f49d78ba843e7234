/- Layer 15's laws: acts in memory; short; the beginning. -/
import Derived.Test.YtgeafpaognhokaaGreatOpStep
import Derived.Test.YtgeafpaognhokaaGreatG80
import Derived.Test.YtgeafpaognhokaaGreatG50
namespace Go.Proofs.YtgeafpaognhokaaGreat
open Go.ChangeShapes Go.WideShapes Go.ChangeAt Go.RowKit
namespace Cs
open Tr Cx Sp Rw Classical
structure ActP where
 wh:Int
 fr:Int
 he:Bool
 o:OpM
 p:SV
def aC (x:ActP):List Value:=[.int .u8 x.wh,.int .u8 x.fr,.bool x.he,.slice x.p.A x.p.n x.p.c,.int .i64 x.o.act,.string x.o.s,.int .i64 x.o.n]
structure ActRd (w:World) (B:Nat) (A:Option Addr) (n c:Nat) (l:List ActP):Prop where
 len:l.length=n
 row:Rd w B 7 A n c (l.flatMap aC)
 each:∀ x∈l,Rd w B 1 x.p.A x.p.n x.p.c (Tr.strs x.o.path)∧(0≤x.wh∧x.wh≤255)∧(0≤x.fr∧x.fr≤255)
theorem ActRd.later {w w':World} {A:Option Addr} {n c:Nat} {l:List ActP} (h:ActRd w w.heap.size A n c l) (hb:Below w.heap.size w w'):ActRd w' w'.heap.size A n c l:=⟨h.len,h.row.later hb,fun x hx=>⟨((h.each x hx).1.below hb).more hb.size,(h.each x hx).2⟩⟩
def zeroS:SM:=⟨fun _=>⟨noneK,⟨none,0,0⟩,⟨none,0,0⟩,⟨none,0,0⟩⟩,fun _=>0,[],none,0,0⟩
theorem StK.zero:StK zeroS:=⟨⟨List.Pairwise.nil,fun _ h=>(by cases h),fun _ h=>(by cases h)⟩,fun _ _=>Knows.none_,fun _ h=>(by cases h),fun _=>Nat.le_refl _,fun _ h=>(by cases h)⟩
theorem noc_zero (w:World) (ok:Nat→Prop):NoC w ok ⟨noneK,⟨none,0,0⟩,⟨none,0,0⟩,⟨none,0,0⟩⟩:=⟨RdO.none _ _ _ _ _ _,rfl,RO.nil _ _ _ _ _⟩
theorem StM.zero (w:World):StM w.heap.size w zeroS (w.alloc (.cells #[.slice none 0 0,.slice none 0 0,.slice none 0 0,.slice none 0 0,.slice none 0 0,.slice none 0 0,.slice none 0 0,.slice none 0 0,.slice none 0 0,.int .i64 0,.int .i64 0,.int .i64 0,.slice none 0 0] 67)):=by
 have hb:Below w.heap.size w (w.alloc (.cells #[.slice none 0 0,.slice none 0 0,.slice none 0 0,.slice none 0 0,.slice none 0 0,.slice none 0 0,.slice none 0 0,.slice none 0 0,.slice none 0 0,.int .i64 0,.int .i64 0,.int .i64 0,.slice none 0 0] 67)):=Dt.box_below _ _ _;refine⟨Nat.le_refl _,hb,⟨by simp,fun j=>by go_simp⟩,fun i hi=>?_,fun i hi=>?_,(by show _=some (Value.slice none 0 0);go_simp),fun _ _=>noc_zero _ _,⟨World.ownsRow_nil _ _ _ _,by simp[zeroS]⟩,rfl,fun _ h=>(by cases h),fun _ h=>(by cases h)⟩
 ·rcases (by omega:i=0∨i=1∨i=2)with rfl | rfl | rfl <;> refine⟨?_,?_,?_⟩ <;> (show _=some (Value.slice none 0 0);go_simp)
 ·rcases (by omega:i=0∨i=1∨i=2)with rfl | rfl | rfl <;> (show _=some (Value.int .i64 0);go_simp)
theorem read_ex (x:T) (kd:Nat):∃ v,ReadOk x kd v∧v.l.length≤nodes x:=by
 have hl:(elemsT x).length≤x.ks.length:=by unfold elemsT;rw[List.length_map];exact List.length_filter_le _ _
 have hn:x.es.length≤nodes x∧x.ks.length≤nodes x:=by
  have h1:=nodes_es x.es x.ks;rw[T.eta]at h1;omega
 obtain⟨m,hm,hml⟩:=sort_ex (x.es.map E.s);rw[List.length_map]at hml
 by_cases h2:kd=2
 ·exact⟨⟨kd,decide (kd=1∧0<x.es.length),if kd=3 then sumE x.es else 0,elemsT x⟩,⟨rfl,rfl,rfl,fun _=>rfl,fun h=>absurd h (by omega),fun h=>absurd h (by omega),fun h=>absurd (.inl h2) h⟩,by show (elemsT x).length≤_;omega⟩
 by_cases h4:kd=4
 ·exact⟨⟨kd,decide (kd=1∧0<x.es.length),if kd=3 then sumE x.es else 0,m⟩,⟨rfl,rfl,rfl,fun h=>absurd h h2,fun _=>hm,fun h=>absurd h (by omega),fun h=>absurd (.inr (.inl h4)) h⟩,by show m.length≤_;omega⟩
 by_cases h5:kd=5
 ·exact⟨⟨kd,decide (kd=1∧0<x.es.length),if kd=3 then sumE x.es else 0,keysOf x.ks⟩,⟨rfl,rfl,rfl,fun h=>absurd h h2,fun h=>absurd h h4,fun _=>rfl,fun h=>absurd (.inr (.inr h5)) h⟩,by show (keysOf x.ks).length≤_;unfold keysOf;rw[List.length_map];omega⟩
 ·exact⟨⟨kd,decide (kd=1∧0<x.es.length),if kd=3 then sumE x.es else 0,[]⟩,⟨rfl,rfl,rfl,fun h=>absurd h h2,fun h=>absurd h h4,fun h=>absurd h h5,fun _=>rfl⟩,by simp⟩
end Cs
end Go.Proofs.YtgeafpaognhokaaGreat
