/- Counters: what holds within the law of several centers. -/
import Derived.Test.YtolanjimmbpijaaGreatG130
import Derived.Test.YtolanjimmbpijaaGreatG150
import Derived.Test.YtolanjimmbpijaaGreatG90
import Derived.Test.YtolanjimmbpijaaGreatG20
namespace Go.Proofs.YtolanjimmbpijaaGreat
open Go.ChangeShapes Go.WideShapes Go.ChangeAt Go.RowKit
namespace Tr
theorem RO.later {w w' : World} {ok : Nat → Prop} {sz n c : Nat} {A : Option Addr} {xs : List Value} (h : RO w ok sz A n c xs) (hb : Below w.heap.size w w') : RO w' ok sz A n c xs := h.keep hb.size fun b _ hlt => hb.block b hlt
end Tr
namespace Cs
open Tr Cx Sp Rw Classical
def MidF (v : World) (g : Nat) (p : CP) (w : World) : Prop := v.heap.size ≤ g ∧ NoC w (fun b => v.heap.size ≤ b ∧ b ≠ g) p ∧ Kept [(⟨g, 0, none⟩, .slice p.e.A p.e.n p.e.c), (⟨g, 1, none⟩, .slice p.d.A p.d.n p.d.c), (⟨g, 2, none⟩, .slice p.c.A p.c.n p.c.c)] v w
def G2 (ga gb : Nat) (b : Nat) : Prop := b = ga ∨ b = gb
structure MidK (u : List S3) (v : World) (se sk : SV) (m ga gb : Nat) (Ba Bb : Option Addr) (da db : Nat) (w : World) : Prop where
 ne : ga ≠ gb
 la : v.heap.size ≤ ga
 lb : v.heap.size ≤ gb
 fa : Free ga w
 fb : Free gb w
 ra : RO w (fun b => v.heap.size ≤ b ∧ b ≠ ga ∧ b ≠ gb) 3 Ba m da (spsC u)
 rb : RO w (fun b => v.heap.size ≤ b ∧ b ≠ ga ∧ b ≠ gb) 3 Bb m db (spsC u)
 cells : Kept [(⟨ga, 0, none⟩, .slice se.A se.n se.c), (⟨ga, 1, none⟩, .slice sk.A sk.n sk.c), (⟨ga, 2, none⟩, .slice Ba m da), (⟨gb, 0, none⟩, .slice se.A se.n se.c), (⟨gb, 1, none⟩, .slice sk.A sk.n sk.c), (⟨gb, 2, none⟩, .slice Bb m db)] v w
structure InvL (vb : World) (c : K) (li : List Int) (k : Nat) (Ab : Option Addr) (cb : Nat) (ps : List CP) (w : World) : Prop where
 below : Below vb.heap.size vb w
 len : ps.length = k
 made : Made c li (ps.map CP.k)
 row : Own w vb.heap.size 34 3 Ab k cb (ps.flatMap cpV)
 each : ∀ p ∈ ps, NoC w (fun b => vb.heap.size ≤ b ∧ (Value.slice Ab k cb).ownBlock ≠ some b) p ∧ p.c.n ≤ 4
theorem InvL.zero (vb : World) (c : K) (li : List Int) : InvL vb c li 0 none 0 [] vb := ⟨Below.refl _ _, rfl, Made.nil _ _, ⟨World.ownsRow_nil _ _ _ _, by simp⟩, by simp⟩
theorem InvL.later {vb w w' : World} {c : K} {li : List Int} {k cb : Nat} {Ab : Option Addr} {ps : List CP} (h : InvL vb c li k Ab cb ps w) (hb : Below w.heap.size w w') : InvL vb c li k Ab cb ps w' :=
 ⟨h.below.trans (hb.mono h.below.size), h.len, h.made, own_later h.row hb, fun p hp => ⟨(h.each p hp).1.later hb, (h.each p hp).2⟩⟩
theorem InvL.push {vb w v0 : World} {c : K} {li : List Int} {k cb g : Nat} {Ab : Option Addr} {ps : List CP} (h : InvL vb c li k Ab cb ps w) (hk : k < li.length) (hk8 : k ≤ 1000) {p : CP} (hv : ∀ b, (Value.slice Ab k cb).ownBlock = some b → b < v0.heap.size) (hv0 : vb.heap.size ≤ v0.heap.size) (hn : NoC w (fun b => v0.heap.size ≤ b ∧ b ≠ g) p)
  (hp : p.k = oneK ⟨cA k, cN k, ⟨#[]⟩, li[k]⟩) (hc4 : p.c.n ≤ 4) (he : RightE ⟨cA k, cN k, ⟨#[]⟩, li[k]⟩) (hno : hasC c.2 (cA k) (cN k) = false) :
  ∃ A' c' w', (Builtin.append_ #[44, 44] 44 #[.slice Ab k cb, .slice (some ⟨w.heap.size, 0, none⟩) 1 1]).run Tryz.prog (w.alloc (.cells #[.slice p.e.A p.e.n p.e.c, .slice p.d.A p.d.n p.d.c, .slice p.c.A p.c.n p.c.c] 34)) = .ok (.slice A' (k + 1) c') w' ∧ InvL vb c li (k + 1) A' c' (ps ++ [p]) w' := by
 obtain ⟨A', c', w', h1, h2, h3, h4, h5⟩ := push_cau h.row h.below.size p hk8; refine ⟨A', c', w', h1, h.below.trans h3, by rw [List.length_append, h.len]; rfl, ?_, h2, fun q hq => ?_⟩
 ·rw [List.map_append]
  have hl : (ps.map CP.k).length = k := by rw [List.length_map, h.len]
  subst hl; exact h.made.snoc hk hp he hno
 ·rcases List.mem_append.1 hq with hq | hq
  ·obtain ⟨g1, g2⟩ := h.each q hq
   exact ⟨((g1.mono (ok' := fun b => (vb.heap.size ≤ b ∧ (Value.slice Ab k cb).ownBlock ≠ some b) ∧ (Value.slice A' (k + 1) c').ownBlock ≠ some b) (fun b hb hlt => ⟨hb, (h5 b hlt hb.2).2⟩)).keep h4 (fun b hb hlt => (h5 b hlt hb.1.2).1)).mono (fun b hb _ => ⟨hb.1.1, hb.2⟩), g2⟩
  ·obtain rfl := List.mem_singleton.1 hq
   have ho : ∀ b, v0.heap.size ≤ b → (Value.slice Ab k cb).ownBlock ≠ some b := fun b hb e => by have := hv b e; omega
   exact ⟨((hn.mono (ok' := fun b => v0.heap.size ≤ b ∧ (Value.slice A' (k + 1) c').ownBlock ≠ some b) (fun b hb hlt => ⟨hb.1, (h5 b hlt (ho b hb.1)).2⟩)).keep h4 (fun b hb hlt => (h5 b hlt (ho b hb.1)).1)).mono (fun b hb _ => ⟨Nat.le_trans hv0 hb.1, hb.2⟩), hc4⟩
theorem InvL.cells {vb w : World} {c : K} {li : List Int} {k cb : Nat} {Ab : Option Addr} {ps : List CP} (h : InvL vb c li k Ab cb ps w) (hk : 0 < k) : ∃ b o, Ab = some ⟨b, o, none⟩ ∧ vb.heap.size ≤ b ∧ b < w.heap.size ∧ ∀ (j : Nat) (hj : j < ps.length), w.cell? ⟨b, o + j * 3, none⟩ = some (.slice ps[j].e.A ps[j].e.n ps[j].e.c) ∧ w.cell? ⟨b, o + j * 3 + 1, none⟩ = some (.slice ps[j].d.A ps[j].d.n ps[j].d.c) ∧ w.cell? ⟨b, o + j * 3 + 2, none⟩ = some (.slice ps[j].c.A ps[j].c.n ps[j].c.c) := by
 obtain ⟨b, o, e, hb, hc⟩ := rd_elem cpV_len h.row.rd (m := 0) hk; obtain ⟨b2, o2, e2, hb2, hlt, _⟩ := (RO.of_own h.row).at_ hk; rw [e] at e2; injection e2 with e3; injection e3 with e4; subst e4; exact ⟨b, o, e, hb2.1, hlt, fun k hk => ⟨hc k hk 0 _ rfl, hc k hk 1 _ rfl, hc k hk 2 _ rfl⟩⟩
structure InvM (vc w0 : World) (ga gb : Nat) (c : K) (li : List Int) (xs : List K) (k N M : Nat) (pa pb : CP) (w : World) : Prop where
 below : Below w0.heap.size w0 w
 size : vc.heap.size ≤ w.heap.size
 same : ∀ b, b < vc.heap.size → ¬ G2 ga gb b → w.heap[b]? = vc.heap[b]?
 fa : Free ga w
 fb : Free gb w
 cells : Kept [(⟨ga, 0, none⟩, .slice pa.e.A pa.e.n pa.e.c), (⟨ga, 1, none⟩, .slice pa.d.A pa.d.n pa.d.c), (⟨ga, 2, none⟩, .slice pa.c.A pa.c.n pa.c.c), (⟨gb, 0, none⟩, .slice pb.e.A pb.e.n pb.e.c), (⟨gb, 1, none⟩, .slice pb.d.A pb.d.n pb.d.c), (⟨gb, 2, none⟩, .slice pb.c.A pb.c.n pb.c.c)] w0 w
 ra : Firm (G2 ga gb) w pa
 rb : Firm (G2 ga gb) w pb
 fore : Fore c li xs k pa.k
 back : AllJ (xs.drop (xs.length - k) ++ [c]) pb.k
 na : nodes pa.k.1 ≤ N + k ∧ pa.c.n ≤ M + 4 * k
 nb : nodes pb.k.1 ≤ N + k ∧ pb.c.n ≤ M + 4 * k
theorem isj_nodes {a b x : K} (h : IsJ a b x) : nodes x.1 ≤ nodes a.1 + nodes b.1 := by
 rw [h.tree]; exact joinT_nodes _ _ _ _ _
theorem InvM.step {vc w0 w w4 : World} {ga gb : Nat} {c : K} {li : List Int} {xs : List K} {k N M : Nat} {pa pb pq pr : CP} (h : InvM vc w0 ga gb c li xs k N M pa pb w) (hne : ga ≠ gb) (hla : w0.heap.size ≤ ga) (hlb : w0.heap.size ≤ gb) (hb : Below w.heap.size w w4)
  (hq : Firm (G2 ga gb) w4 pq) (hr : Firm (G2 ga gb) w4 pr) (hm : Made c li xs) (hk : k < xs.length) (hl : xs.length ≤ li.length) (jq : IsJ pa.k xs[k] pq.k) (jr : IsJ (xs[xs.length - 1 - k]'(by omega)) pb.k pr.k) (h1 : nodes (xs[k]).1 ≤ 1) (h2 : nodes (xs[xs.length - 1 - k]'(by omega)).1 ≤ 1) (hqn : pq.c.n ≤ pa.c.n + 4) (hrn : pr.c.n ≤ pb.c.n + 4) :
  InvM vc w0 ga gb c li xs (k + 1) N M pq pr ((((((w4.setCell ⟨ga, 0, none⟩ (.slice pq.e.A pq.e.n pq.e.c)).setCell ⟨ga, 1, none⟩ (.slice pq.d.A pq.d.n pq.d.c)).setCell ⟨ga, 2, none⟩ (.slice pq.c.A pq.c.n pq.c.c)).setCell ⟨gb, 0, none⟩ (.slice pr.e.A pr.e.n pr.e.c)).setCell ⟨gb, 1, none⟩ (.slice pr.d.A pr.d.n pr.d.c)).setCell ⟨gb, 2, none⟩ (.slice pr.c.A pr.c.n pr.c.c)) := by
 have hc := h.cells.later hb; have z0 := hc.c0; have z1 := hc.c1; have z2 := hc.c2; have z3 := hc.c3; have z4 := hc.c4; have z5 := hc.c5; have fa4 := h.fa.later hb; have fb4 := h.fb.later hb; have m0 := fa4.2 0; have m1 := fa4.2 1; have m2 := fa4.2 2; have m3 := fb4.2 0; have m4 := fb4.2 1; have m5 := fb4.2 2; have hb0 : Below w0.heap.size w0 w4 := h.below.trans (hb.mono h.below.size); have hgn := hne.symm; obtain ⟨w5, hw5⟩ : ∃ W, W = ((w4.setCell ⟨ga, 0, none⟩ (.slice pq.e.A pq.e.n pq.e.c)).setCell ⟨ga, 1, none⟩ (.slice pq.d.A pq.d.n pq.d.c)).setCell ⟨ga, 2, none⟩ (.slice pq.c.A pq.c.n pq.c.c) := ⟨_, rfl⟩; obtain ⟨w6, hw6⟩ : ∃ W, W = ((w5.setCell ⟨gb, 0, none⟩ (.slice pr.e.A pr.e.n pr.e.c)).setCell ⟨gb, 1, none⟩ (.slice pr.d.A pr.d.n pr.d.c)).setCell ⟨gb, 2, none⟩ (.slice pr.c.A pr.c.n pr.c.c) := ⟨_, rfl⟩; rw [← hw5, ← hw6]
 have hs5 : w5.heap.size = w4.heap.size := by rw [hw5, cells3]
 have hs6 : w6.heap.size = w4.heap.size := by rw [hw6, cells3, hs5]
 have hq6 : Firm (G2 ga gb) w6 pq := by
  rw [hw6, hw5]; exact (hq.set3 (.inl rfl) _ _ _).set3 (.inr rfl) _ _ _
 have hr6 : Firm (G2 ga gb) w6 pr := by
  rw [hw6, hw5]; exact (hr.set3 (.inl rfl) _ _ _).set3 (.inr rfl) _ _ _
 have hb6 : Below w0.heap.size w0 w6 := by
  rw [hw6, hw5]; exact (((((hb0.setCell (p := ⟨ga, 0, none⟩) hla _).setCell (p := ⟨ga, 1, none⟩) hla _).setCell (p := ⟨ga, 2, none⟩) hla _).setCell (p := ⟨gb, 0, none⟩) hlb _).setCell (p := ⟨gb, 1, none⟩) hlb _).setCell (p := ⟨gb, 2, none⟩) hlb _
 have hsame : ∀ b, b ≠ ga → b ≠ gb → w6.heap[b]? = w4.heap[b]? := fun b h1 h2 => by
  rw [hw6, cells3_at b h2, hw5, cells3_at b h1]
 have hcells : Kept [(⟨ga, 0, none⟩, .slice pq.e.A pq.e.n pq.e.c), (⟨ga, 1, none⟩, .slice pq.d.A pq.d.n pq.d.c), (⟨ga, 2, none⟩, .slice pq.c.A pq.c.n pq.c.c), (⟨gb, 0, none⟩, .slice pr.e.A pr.e.n pr.e.c), (⟨gb, 1, none⟩, .slice pr.d.A pr.d.n pr.d.c), (⟨gb, 2, none⟩, .slice pr.c.A pr.c.n pr.c.c)] w0 w6 := by
  have h0 := Kept.nil_of hb6
  refine (((((h0.cons_of ?_).cons_of ?_).cons_of ?_).cons_of ?_).cons_of ?_).cons_of ?_ <;> (rw [hw6, hw5]; go_simp)
 refine ⟨hb6, by have := h.size; have := hb.size; omega, fun b hlt hn => ?_, ?_, ?_, hcells, hq6, hr6, Fore.step hm h.fore hk hl jq, back_step h.back hk (hm.right hl _ (by omega)) jr, ?_, ?_⟩
 ·rw [hsame b (fun e => hn (.inl e)) (fun e => hn (.inr e)), hb.block b (by have := h.size; omega)]
  exact h.same b hlt hn
 ·exact ⟨by rw [hs6]; exact fa4.1, fun j => by rw [hw6, hw5]; simp only [World.frozen?_setCell]; exact fa4.2 j⟩
 ·exact ⟨by rw [hs6]; exact fb4.1, fun j => by rw [hw6, hw5]; simp only [World.frozen?_setCell]; exact fb4.2 j⟩
 ·have := isj_nodes jq
  have := h.na; omega
 ·have := isj_nodes jr
  have := h.nb; omega
end Cs
end Go.Proofs.YtolanjimmbpijaaGreat
