/- Changes: what is read: the document's. -/
import Derived.Test.YtgeafpaognhokaaGreatG00
import Derived.Test.YtgeafpaognhokaaGreatG60
import Derived.Test.YtgeafpaognhokaaGreatG20
import Derived.Test.YtgeafpaognhokaaGreatG50
import Derived.Test.YtgeafpaognhokaaGreatTreeRefRight
namespace Go.Proofs.YtgeafpaognhokaaGreat
open ChangeShapes WideShapes ChangeAt RowKit
namespace Cs
open Tr Cx Sp Rw Classical
structure Vw where
 kd:Nat
 on:Bool
 n:Int
 l:List ByteArray
def zeroV:Vw:=⟨0,false,0,[]⟩
noncomputable def vM (t:T) (p:List ByteArray):Int:=if Tr.ak 5 t=false then 1 else jk p
structure uh (x:T) (k9:Nat) (v:Vw):Prop where
 kd:v.kd=k9
 on:v.on=decide (k9=1∧0<x.es.length)
 n:v.n=if k9=3 then g_ x.es else 0
 l2:k9=2→v.l=jd x
 l4:k9=4→lF (x.es.map E.s) v.l
 l5:k9=5→v.l=keysOf x.ks
 l0:¬(k9=2∨k9=4∨k9=5)→v.l=[]
def Ma (v:Vw) (er:Int) (w:World) (e:Ending) (w':World):Prop:=∃ (A:Option Addr) (c:Nat),e = .returned (.tuple #[.agg #[.int .i64 v.kd,.bool v.on,.int .i64 v.n,.slice A v.l.length c],.int .i64 er])∧ai (Rd w' w'.heap.size 1 A v.l.length c (Tr.strs v.l))∧av w w'
theorem JE (k:ByteArray):d_ k≤5:=by
 unfold d_
 split <;> omega
theorem Ig {p:List ByteArray} {m:Nat} (h:f_ p) (b:p.length=m+1):1≤bD p∧bD p≤5:=by
 have a:m<p.length:=by omega
 rw[nO a b];exact⟨Nat.pos_of_ne_zero (h.each _ (bT a)).2,JE _⟩
theorem MO (w:World) (Ae Ak:Option Addr) (ne nk ce ck:Nat):∃ (W:World) (a r:Nat),ai (W=(w.alloc (.cells #[.slice Ae ne ce,.slice Ak nk ck] 35)).alloc (.cells #[.int .i64 0,.bool false,.int .i64 0,.slice none 0 0] 51))∧ai (a=w.heap.size)∧ai (r=a+1)∧ai (Kept [(⟨a,0,none⟩,.slice Ae ne ce),(⟨a,1,none⟩,.slice Ak nk ck)] w W)∧ai (Kept [(⟨r,0,none⟩,.int .i64 0),(⟨r,1,none⟩,.bool false),(⟨r,2,none⟩,.int .i64 0),(⟨r,3,none⟩,.slice none 0 0)] w W)∧ai (aA r W):=by
 refine⟨_,_,_,rfl,rfl,rfl,?_,?_,⟨by simp,fun j=>by go_simp⟩⟩
 ·have b:=Kept.a_ (show av w ((w.alloc (.cells #[.slice Ae ne ce,.slice Ak nk ck] 35)).alloc (.cells #[.int .i64 0,.bool false,.int .i64 0,.slice none 0 0] 51)) from ((bN).alloc (bG) _).alloc (by simp) _)
  refine (b.af ?_).af ?_ <;> go_simp
 ·have b:=Kept.a_ (show av w ((w.alloc (.cells #[.slice Ae ne ce,.slice Ak nk ck] 35)).alloc (.cells #[.int .i64 0,.bool false,.int .i64 0,.slice none 0 0] 51)) from ((bN).alloc (bG) _).alloc (by simp) _)
  refine (((b.af ?_).af ?_).af ?_).af ?_ <;> go_simp
end Cs
end Go.Proofs.YtgeafpaognhokaaGreat
