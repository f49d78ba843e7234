/- Layer 18: both Opens, whatever stands on the tape. -/
import Derived.Test.YtcffbgehopjgpaaJournalMid
import Derived.Test.YtcffbgehopjgpaaJournalOn
namespace Go.Proofs.Ytcffbgehopjgpaa
open Go.ChangeShapes Go.WideShapes Go.ChangeAt Go.RowKit
namespace Jrn
open By Tpe Frm
set_option maxRecDepth 100000
set_option maxHeartbeats 2000000
theorem scans_from {x : Rec} : ∀ (d : Nat) (l : List Rec) (k : Nat), x.length - k ≤ d → Upto x l k → ∃ l' k', Scans x l' k' := by
  intro d
  induction d with
  | zero => exact fun l k hd h => ⟨l, k, scans_end h (by omega)⟩
  | succ d ih =>
    intro l k hd h
    by_cases hb : Beg (x.drop k)
    · obtain ⟨h1, h2⟩ := h.more hb
      exact ih _ _ (by omega) h1
    · exact ⟨l, k, h, hb⟩
/-- of any bytes something is told -/
theorem scans_ex (x : Rec) : ∃ l k, Scans x l k := scans_from x.length [] 0 (Nat.sub_le _ _) (Upto.zero _)
/-- what Open makes of a tape -/
theorem opn_good {s : S} {b : Rec} {l : List Rec} {k : Nat} (hs : Ok s 65535) (hc : s.cap ≤ 65535) : Ok (opn s b l k).1 65535 ∧ (opn s b l k).1.cap = s.cap ∧ ((opn s b l k).2 ≠ 0 → (opn s b l k).1.bs = s.bs) ∧ (s.bs.length ≤ s.cap → (opn s b l k).1.bs.length ≤ s.cap) := by
  have h1 := hs.cap
  have h2 := hs.len
  have h3 := hs.sf
  have h4 := hs.fu
  have h5 := less_ok h4
  unfold opn
  split
  · exact ⟨hs, rfl, fun _ => rfl, id⟩
  split
  · exact ⟨hs, rfl, fun _ => rfl, id⟩
  split
  · unfold rep
    repeat' split
    · exact ⟨hs, rfl, fun _ => rfl, id⟩
    · exact ⟨hs, rfl, fun _ => rfl, id⟩
    · exact ⟨⟨h1, h2, h3, by dsimp only; omega⟩, rfl, fun _ => rfl, id⟩
    · exact ⟨⟨h1, by dsimp only; omega, Nat.le_refl _, by dsimp only; omega⟩, rfl, fun h => absurd rfl h, fun _ => by dsimp only; omega⟩
  · exact ⟨hs, rfl, fun _ => rfl, id⟩
section
variable {w : World} {ok : Nat → Prop} {A Ab : Option Addr} {n c nb cb : Nat} {b : List UInt8} {s : S}
theorem refopen_any (hok : ∀ x, w.heap.size ≤ x → ok x) (h : Rk w ok A n c s.bs) (hs : Ok s 65535) (hrb : Rd w w.heap.size 1 Ab nb cb (u8s b)) (hb : nb ≤ 60000) (hlo : s.lo = false) {l : List Rec} {k : Nat} (hsc : Scans s.bs l k) (s1 : S) (e1 : Int) (ho : opn s b l k = (s1, e1)) :
    Calls Try.prog 29 #[docV s A n c, .slice Ab nb cb] w fun e w' => (e1 ≠ 0 → Fails ok s1 e1 w e w') ∧ (e1 = 0 → Opens ok s1 (kept l b) w e w') := by
  have hlb := len8 hrb
  have hl60 : ¬ (60000 < b.length) := by omega
  have hlow : ¬ (s.lo = true) := by rw [hlo]; simp
  have hcnt := hsc.count
  have hle := hsc.le
  have hln := h.len
  have hn : n ≤ 70000 := by have := hs.len; omega
  unfold opn at ho
  rw [if_neg hl60, if_neg hlow] at ho
  by_cases hl : l = []
  · subst hl
    have hk : k = 0 := by have h1 := hsc.eq; have h3 := congrArg List.length h1; rw [frms_nil, List.length_take] at h3; simp at h3; omega
    have hkp : kept [] b = [b] := by unfold kept; rw [if_pos rfl]
    rw [if_pos (.inl hk), hkp] at ho
    rw [hkp]
    exact refopen_new hok h hs.cap hs.fu hrb (by omega) hlo hn hsc s1 e1 ho
  · have hkp : kept l b = l := by unfold kept; rw [if_neg hl]
    rw [hkp] at ho ⊢
    have hpos : 0 < l.length := List.length_pos_iff.2 hl
    by_cases hk : k < s.bs.length
    · rw [if_pos (.inr hk)] at ho
      exact refopen_cut hok h hs.cap hs.fu (by omega) hlo hn hsc (by omega) hl s1 e1 ho
    · have hk0 : ¬ (k = 0 ∨ k < s.bs.length) := by omega
      rw [if_neg hk0] at ho
      obtain rfl : k = n := by omega
      injection ho with h1 h2
      subst h1; subst h2
      exact (refopen_kept h (by omega) hlo hn hsc hl).mono fun e w' h => ⟨fun h0 => absurd rfl h0, fun _ => h⟩
end
section
variable {X V : World} {r : Nat} {a0 a1 a2 a3 a4 a5 : Value} {s s0 : S} {A A0 : Option Addr} {n c n0 c0 : Nat} {N N0 : Int}
/-- the result's box is written -/
theorem two_st6 (h : Two r none V X) : Two r none V ((((((X.setCell ⟨r, 0, none⟩ a0).setCell ⟨r, 1, none⟩ a1).setCell ⟨r, 2, none⟩ a2).setCell ⟨r, 3, none⟩ a3).setCell ⟨r, 4, none⟩ a4).setCell ⟨r, 5, none⟩ a5) :=
  (((((h.setCell 0 _).setCell 1 _).setCell 2 _).setCell 3 _).setCell 4 _).setCell 5 _
theorem box_st6 (h : BoxJ X r s0 A0 n0 c0 N0) : BoxJ ((((((X.setCell ⟨r, 0, none⟩ (.int .i64 s.cap)).setCell ⟨r, 1, none⟩ (.slice A n c)).setCell ⟨r, 2, none⟩ (.int .i64 s.sf)).setCell ⟨r, 3, none⟩ (.int .i64 s.fu)).setCell ⟨r, 4, none⟩ (.bool s.lo)).setCell ⟨r, 5, none⟩ (.int .i64 N)) r s A n c N := by
  obtain ⟨⟨l0, l1, l2, l3, l4, l5⟩, ht⟩ := st6 (W := ((((((X.setCell ⟨r, 0, none⟩ (.int .i64 s.cap)).setCell ⟨r, 1, none⟩ (.slice A n c)).setCell ⟨r, 2, none⟩ (.int .i64 s.sf)).setCell ⟨r, 3, none⟩ (.int .i64 s.fu)).setCell ⟨r, 4, none⟩ (.bool s.lo)).setCell ⟨r, 5, none⟩ (.int .i64 N))) rfl h
  exact ⟨l0, l1, l2, l3, l4, l5, Nat.lt_of_lt_of_le h.free.1 ht.size, fun j => by have := h.free.2 j; go_simp⟩
end
/-- what both Opens come to, together -/
structure OpnsAt (lo g : Nat) (ob : Option Nat) (P : Nat → Prop) (s s' : S) (w w' : World) (jp : Option Nat) (A : Option Addr) (n c : Nat) (N : Int) (ob' : Option Nat) : Prop where
  good : Ok s' 65535
  cap : s'.cap = s.cap
  fitc : s.bs.length ≤ s.cap → s'.bs.length ≤ s.cap
  tp : Tp w' lo g ob' s'
  two : Two g ob w w'
  fresh : Fresh ob ob' w
  len : s'.bs.length = n
  rk : Rk w' (fun b => b ≠ g ∧ some b ≠ ob' ∧ some b ≠ jp ∧ P b) A n c s'.bs
  cnt : 0 ≤ N ∧ N ≤ 10000
  none_ : jp = none → N = 0 ∧ s'.bs = s.bs
  some_ : ∀ p, jp = some p → JnAt w' p g N ∧ w.heap.size ≤ p ∧ p ≠ g ∧ some p ≠ ob'
def OpensIs (lo g : Nat) (ob : Option Nat) (P : Nat → Prop) (s : S) (w : World) (e : Ending) (w' : World) : Prop :=
  ∃ (s' : S) (jp : Option Nat) (A : Option Addr) (n c : Nat) (N : Int) (ob' : Option Nat), e = .returned (.tuple #[.pointer (jp.map fun p => ⟨p, 0, none⟩), docJ s' A n c N, .bool true]) ∧ OpnsAt lo g ob P s s' w w' jp A n c N ob'
end Jrn
end Go.Proofs.Ytcffbgehopjgpaa
