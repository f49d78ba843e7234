/- The law CodecTakes: what the walk says. -/
import Derived.Test.YtgjojcigcbenmaaCodecArgs
import Derived.Test.YtgjojcigcbenmaaCodecRef3
import Derived.Deep.DeepCutAuto
namespace Go.Proofs.Ytgjojcigcbenmaa.lawCodecTakes
open Go.ChangeShapes Go.WideShapes Go.ChangeAt Go.RowKit Codec
/-- both take the same text -/
theorem text_both (bs : List UInt8) (bad : Bool) (most : Int) (hn : bad = true → bs = []) (hs : bs.length ≤ 900000) (h1 : -9223372036854775808 ≤ most) (h2 : most ≤ 9223372036854775807) :
    ∃ (s rest : List UInt8) (bad2 : Bool), Hid (∀ (W : World) (B : Nat) (A : Option Addr) (c : Nat), B ≤ W.heap.size → Rd W B 1 A bs.length c (u8s bs) → Calls Try.prog 16 #[.agg #[.slice A bs.length c, .bool bad], .int .i64 most] W fun e w' =>
        ∃ A2 c2, e = .returned (.tuple #[.string (strOf s), .agg #[.slice A2 rest.length c2, .bool bad2]]) ∧ Rd w' B 1 A2 rest.length c2 (u8s rest) ∧ Below W.heap.size W w') ∧
      Hid (∀ (W : World) (a : Nat), InAt W a bs bad → Calls Try.prog 17 #[.pointer (some ⟨a, 0, none⟩), .int .i64 most] W fun e w' => e = .returned (.string (strOf s)) ∧ InAt w' a rest bad2 ∧ W.grownBy w' (some a)) ∧
      Hid ((bad2 = true → rest = []) ∧ rest.length ≤ bs.length) := by
  by_cases hx : ∃ s rest, bs = textB s ++ rest ∧ (s.length : Int) ≤ most
  · obtain ⟨s, rest, e, hm⟩ := hx
    have hb : bad = false := by
      cases bad with
      | false => rfl
      | true =>
        rw [hn rfl] at e
        have h3 := congrArg List.length e
        have h4 := numB_pos (s.length : Int)
        unfold textB at h3
        simp only [List.length_append, List.length_nil] at h3; omega
    subst hb
    refine ⟨s, rest, false, fun W B A c hB hr => (rtext_any bs bs.length A c false most W rfl hs hB hr h1 h2).mono fun en w' hh => ?_, fun W a h => (itext_any h most h1 h2).mono fun en w' hh => ?_, ⟨fun h => Bool.noConfusion h, ?_⟩⟩
    · obtain ⟨hb, ⟨_, s', rest', A2, c2, e', _, he, hrd⟩ | ⟨hno, _⟩⟩ := hh
      · have e3 := e.symm.trans e'
        unfold textB at e3
        rw [List.append_assoc, List.append_assoc] at e3
        obtain ⟨hl, e4⟩ := numB_prefix e3
        have hl' : s.length = s'.length := by omega
        obtain ⟨rfl, rfl⟩ := List.append_inj e4 hl'
        exact ⟨A2, c2, he, hrd, hb⟩
      · rcases hno with h | h
        · cases h
        · exact absurd e (h s rest hm)
    · rcases hh with ⟨s', rest', e', _, he, hi, hg⟩ | ⟨hno, _⟩
      · have e3 := e.symm.trans e'
        unfold textB at e3
        rw [List.append_assoc, List.append_assoc] at e3
        obtain ⟨hl, e4⟩ := numB_prefix e3
        have hl' : s.length = s'.length := by omega
        obtain ⟨rfl, rfl⟩ := List.append_inj e4 hl'
        exact ⟨he, hi, hg⟩
      · exact absurd e (hno s rest hm)
    · rw [e, List.length_append]; omega
  · refine ⟨[], [], true, fun W B A c hB hr => (rtext_any bs bs.length A c bad most W rfl hs hB hr h1 h2).mono fun en w' hh => ?_, fun W a h => (itext_any h most h1 h2).mono fun en w' hh => ?_, ⟨fun _ => rfl, Nat.zero_le _⟩⟩
    · obtain ⟨hb, ⟨_, s', rest', A2, c2, e', hm, _⟩ | ⟨_, he⟩⟩ := hh
      · exact absurd ⟨s', rest', e', hm⟩ hx
      · exact ⟨none, 0, he, Rd.nil _, hb⟩
    · rcases hh with ⟨s', rest', e', hm, _⟩ | ⟨_, he, hf⟩
      · exact absurd ⟨s', rest', e', hm⟩ hx
      · exact ⟨he, hf⟩
/-- both take the same number -/
theorem num_both (bs : List UInt8) (bad : Bool) (most : Int) (hn : bad = true → bs = []) (hs : bs.length ≤ 900000) (h1 : -9223372036854775808 ≤ most) (h2 : most ≤ 9223372036854775807) :
    ∃ (v : Int) (rest : List UInt8) (bad2 : Bool), Hid (∀ (W : World) (B : Nat) (A : Option Addr) (c : Nat), B ≤ W.heap.size → Rd W B 1 A bs.length c (u8s bs) → Calls Try.prog 18 #[.agg #[.slice A bs.length c, .bool bad], .int .i64 most] W fun e w' =>
        ∃ A2 c2, e = .returned (.tuple #[.int .i64 v, .agg #[.slice A2 rest.length c2, .bool bad2]]) ∧ Rd w' B 1 A2 rest.length c2 (u8s rest) ∧ Below W.heap.size W w') ∧
      Hid (∀ (W : World) (a : Nat), InAt W a bs bad → Calls Try.prog 19 #[.pointer (some ⟨a, 0, none⟩), .int .i64 most] W fun e w' => e = .returned (.int .i64 v) ∧ InAt w' a rest bad2 ∧ W.grownBy w' (some a)) ∧
      Hid ((bad2 = true → rest = []) ∧ rest.length ≤ bs.length) := by
  by_cases hx : ∃ v rest, bs = numB v ++ rest ∧ -most ≤ v ∧ v ≤ most
  · obtain ⟨v, rest, e, hm1, hm2⟩ := hx
    have hb : bad = false := by
      cases bad with
      | false => rfl
      | true =>
        rw [hn rfl] at e
        have h3 := congrArg List.length e
        have h4 := numB_pos v
        simp only [List.length_append, List.length_nil] at h3; omega
    subst hb
    refine ⟨v, rest, false, fun W B A c hB hr => (rnum_any bs bs.length A c false most W rfl hs hB hr h1 h2).mono fun en w' hh => ?_, fun W a h => (inum_any h most h1 h2).mono fun en w' hh => ?_, ⟨fun h => Bool.noConfusion h, ?_⟩⟩
    · obtain ⟨hb, ⟨_, v', rest', A2, c2, e', _, _, he, hrd⟩ | ⟨hno, _⟩⟩ := hh
      · obtain ⟨rfl, rfl⟩ := numB_prefix (e.symm.trans e')
        exact ⟨A2, c2, he, hrd, hb⟩
      · rcases hno with h | h
        · cases h
        · exact absurd e (h v rest hm1 hm2)
    · rcases hh with ⟨v', rest', e', _, _, he, hi, hg⟩ | ⟨hno, _⟩
      · obtain ⟨rfl, rfl⟩ := numB_prefix (e.symm.trans e')
        exact ⟨he, hi, hg⟩
      · exact absurd e (hno v rest hm1 hm2)
    · rw [e, List.length_append]; omega
  · refine ⟨0, [], true, fun W B A c hB hr => (rnum_any bs bs.length A c bad most W rfl hs hB hr h1 h2).mono fun en w' hh => ?_, fun W a h => (inum_any h most h1 h2).mono fun en w' hh => ?_, ⟨fun _ => rfl, Nat.zero_le _⟩⟩
    · obtain ⟨hb, ⟨_, v', rest', A2, c2, e', hm1, hm2, _⟩ | ⟨_, he⟩⟩ := hh
      · exact absurd ⟨v', rest', e', hm1, hm2⟩ hx
      · exact ⟨none, 0, he, Rd.nil _, hb⟩
    · rcases hh with ⟨v', rest', e', hm1, hm2, _⟩ | ⟨_, he, hf⟩
      · exact absurd ⟨v', rest', e', hm1, hm2⟩ hx
      · exact ⟨he, hf⟩
/-- what is left, in both -/
def Same (w : World) (a x : Nat) (bs : List UInt8) (bad : Bool) (A : Option Addr) (c : Nat) (wr : World) : Prop :=
  InAt wr a bs bad ∧ Rd wr w.heap.size 1 A bs.length c (u8s bs) ∧ wr.cell? ⟨x, 0, none⟩ = some (.slice A bs.length c) ∧ wr.cell? ⟨x, 1, none⟩ = some (.bool bad) ∧ wr.frozen? ⟨x, 0, none⟩ = false ∧ wr.frozen? ⟨x, 1, none⟩ = false
/-- what the document's own In leaves: the new In lies at y -/
def Mid (w wr : World) (rest : List UInt8) (bad2 : Bool) (y : Nat) (A2 : Option Addr) (c2 : Nat) (wx : World) : Prop :=
  wx.cell? ⟨y, 0, none⟩ = some (.slice A2 rest.length c2) ∧ wx.cell? ⟨y, 1, none⟩ = some (.bool bad2) ∧ Rd wx w.heap.size 1 A2 rest.length c2 (u8s rest) ∧ Below wr.heap.size wr wx ∧ wr.heap.size ≤ y
section
variable {w wr w4 wc w6 : World} {rest bs : List UInt8} {bad bad2 : Bool} {a x y : Nat} {A A2 : Option Addr} {c c2 : Nat}
theorem mid_new (hr2 : Rd w4 w.heap.size 1 A2 rest.length c2 (u8s rest)) (hb5 : Below wr.heap.size wr w4) (hB : w.heap.size ≤ wr.heap.size) :
    Hid (Mid w wr rest bad2 w4.heap.size A2 c2 (w4.alloc (.cells #[.slice A2 rest.length c2, .bool bad2] 39))) :=
  ⟨by go_simp, by go_simp, hr2.alloc (Nat.le_trans hB hb5.size) _, hb5.alloc hb5.size _, hb5.size⟩
theorem mid_old (hr2 : Rd w4 w.heap.size 1 A2 rest.length c2 (u8s rest)) (hb5 : Below wr.heap.size wr w4) (hB : w.heap.size ≤ wr.heap.size) (hy0 : w4.cell? ⟨wr.heap.size, 0, none⟩ = some (.slice none 0 0)) (hy1 : w4.cell? ⟨wr.heap.size, 1, none⟩ = some (.bool false)) :
    Hid (Mid w wr rest bad2 wr.heap.size A2 c2 ((w4.setCell ⟨wr.heap.size, 0, none⟩ (.slice A2 rest.length c2)).setCell ⟨wr.heap.size, 1, none⟩ (.bool bad2))) :=
  ⟨by go_simp, by go_simp, (hr2.setCell (p := ⟨wr.heap.size, 0, none⟩) hB _).setCell (p := ⟨wr.heap.size, 1, none⟩) hB _, (hb5.setCell (p := ⟨wr.heap.size, 0, none⟩) (Nat.le_refl _) _).setCell (p := ⟨wr.heap.size, 1, none⟩) (Nat.le_refl _) _, Nat.le_refl _⟩
theorem after_take (hS : Same w a x bs bad A c wr) (hM : Mid w wr rest bad2 y A2 c2 wc) (hg : wc.grownBy w6 (some a)) (hi : InAt w6 a rest bad2) (hax : a < x) (haw : w.heap.size ≤ a) (hxw : x < wr.heap.size) (hB : Below w.heap.size w wr) :
    w6.cell? ⟨y, 0, none⟩ = some (.slice A2 rest.length c2) ∧ w6.cell? ⟨y, 1, none⟩ = some (.bool bad2) ∧ w6.cell? ⟨x, 0, none⟩ = some (.slice A bs.length c) ∧ w6.cell? ⟨x, 1, none⟩ = some (.bool bad) ∧ w6.frozen? ⟨x, 0, none⟩ = false ∧ w6.frozen? ⟨x, 1, none⟩ = false ∧
      Hid (Same w a x rest bad2 A2 c2 ((w6.setCell ⟨x, 0, none⟩ (.slice A2 rest.length c2)).setCell ⟨x, 1, none⟩ (.bool bad2)) ∧ Below w.heap.size w ((w6.setCell ⟨x, 0, none⟩ (.slice A2 rest.length c2)).setCell ⟨x, 1, none⟩ (.bool bad2))) := by
  obtain ⟨s1, s2, s3, s4, s5, s6⟩ := hS
  obtain ⟨m1, m2, m3, m4, m5⟩ := hM
  have hsz := m4.size
  have hsz6 := hg.size
  have hyw : y < wc.heap.size := World.block_lt_of_cell? wc _ m1
  have ex : w6.heap[x]? = wr.heap[x]? := (hg.block x (by omega) (fun e => by injection e with e; omega)).trans (m4.block x hxw)
  have ey : w6.heap[y]? = wc.heap[y]? := hg.block y hyw (fun e => by injection e with e; omega)
  have k0 := (World.cell?_of_block (a := ⟨y, 0, none⟩) ey).trans m1
  have k1 := (World.cell?_of_block (a := ⟨y, 1, none⟩) ey).trans m2
  have k2 := (World.cell?_of_block (a := ⟨x, 0, none⟩) ex).trans s3
  have k3 := (World.cell?_of_block (a := ⟨x, 1, none⟩) ex).trans s4
  have k4 := (World.frozen?_of_block (a := ⟨x, 0, none⟩) ex).trans s5
  have k5 := (World.frozen?_of_block (a := ⟨x, 1, none⟩) ex).trans s6
  have hB6 : Below w.heap.size w w6 := (hB.trans (m4.mono hB.size)).grown hg (Nat.le_trans hB.size hsz) (by intro k hk; injection hk with hk; omega)
  have hB7 : Below w.heap.size w ((w6.setCell ⟨x, 0, none⟩ (.slice A2 rest.length c2)).setCell ⟨x, 1, none⟩ (.bool bad2)) := (hB6.setCell (p := ⟨x, 0, none⟩) (show w.heap.size ≤ x by omega) _).setCell (p := ⟨x, 1, none⟩) (show w.heap.size ≤ x by omega) _
  refine ⟨k0, k1, k2, k3, k4, k5, ⟨?_, ?_, by go_simp, by go_simp, by go_simp, by go_simp⟩, hB7⟩
  · refine hi.keepx fun k hk => ?_
    exact (Below.heap_setCell _ ⟨x, 1, none⟩ _ k (by show k ≠ x; omega)).trans (Below.heap_setCell _ ⟨x, 0, none⟩ _ k (by show k ≠ x; omega))
  · have h6 : Rd w6 w.heap.size 1 A2 rest.length c2 (u8s rest) := m3.keep fun p hp => World.cell?_of_block (hg.block p.block (by omega) (fun e => by injection e with e; omega))
    exact (h6.setCell (p := ⟨x, 0, none⟩) (show w.heap.size ≤ x by omega) _).setCell (p := ⟨x, 1, none⟩) (show w.heap.size ≤ x by omega) _
theorem same_later {wr' : World} (h : Same w a x bs bad A c wr ∧ Below w.heap.size w wr) (hb : Below wr.heap.size wr wr') : Hid ((Same w a x bs bad A c wr') ∧ Below w.heap.size w wr') := by
  obtain ⟨⟨s1, s2, s3, s4, s5, s6⟩, hB⟩ := h
  have hx : x < wr.heap.size := World.block_lt_of_cell? wr _ s3
  exact ⟨⟨s1.below hb, s2.keep fun p hp => hb.cell (by have := hB.size; omega), (hb.cell (p := ⟨x, 0, none⟩) hx).trans s3, (hb.cell (p := ⟨x, 1, none⟩) hx).trans s4, (hb.frozen (p := ⟨x, 0, none⟩) hx).trans s5, (hb.frozen (p := ⟨x, 1, none⟩) hx).trans s6⟩, hB.trans (hb.mono hB.size)⟩
end
set_option maxRecDepth 100000 in
set_option maxHeartbeats 20000000 in
theorem takes_any (bs0 : List UInt8) (A0 : Option Addr) (c0 : Nat) (l : List Asked) (AL : Option Addr) (cl : Nat) (w : World) (hb : Rd w w.heap.size 1 A0 bs0.length c0 (u8s bs0)) (hl : Rd w w.heap.size 2 AL l.length cl (askC l)) :
    Calls Try.prog 4 #[.slice A0 bs0.length c0, .slice AL l.length cl] w fun e w' => e = .returned (.bool true) ∧ Below w.heap.size w w' := by
  have HB := Lib.hid hb
  have HL := Lib.hid hl
  clear hb hl
  by_cases hok : bs0.length ≤ 70000 ∧ l.length ≤ 200
  · obtain ⟨hb7, hl2⟩ := hok
    have f1 : decide ((70000 : Int) < bs0.length) = false := by simp; omega
    have f2 : decide ((200 : Int) < l.length) = false := by simp; omega
    have f3 : decide (70000 < bs0.length) = false := by simp; omega
    have f4 : decide (200 < l.length) = false := by simp; omega
    go_enter Try.func4, Try.ntmps4
    go_wp2_with (first
      | (go_at_call 10; refine (awake_any _).mono ?_; rintro e w1 ⟨rfl, hb1⟩)
      | (go_at_call 15; refine (newin_any bs0 bs0.length A0 c0 _ rfl (by omega) (HB.out.later hb1)).mono ?_; rintro e w2 ⟨a, rfl, ha, hin, hb2⟩; have HI := Lib.hid hin; clear hin))
    obtain ⟨x, hx⟩ : ∃ x, x = w2.heap.size := ⟨_, rfl⟩
    rw [← hx]
    have hwx : w.heap.size ≤ x := by rw [hx]; exact Nat.le_trans hb1.size hb2.size
    have hax : a < x := by rw [hx]; exact HI.out.lt
    have haw : w.heap.size ≤ a := Nat.le_trans hb1.size ha
    have hB2 : Below w.heap.size w (w2.alloc (.cells #[.slice A0 bs0.length c0, .bool false] 39)) := (hb1.trans (hb2.mono hb1.size)).alloc (by omega) _
    have hS2 : Hid (Same w a x bs0 false A0 c0 (w2.alloc (.cells #[.slice A0 bs0.length c0, .bool false] 39))) := by
      refine ⟨HI.out.below ((Below.refl _ _).alloc (Nat.le_refl _) _), HB.out.below hB2, ?_, ?_, ?_, ?_⟩ <;> (rw [hx]; go_simp)
    have HX := Lib.hid hx
    clear hx hb1 hb2 ha HI
    go_loopw [31] (fun q wr => ∃ (k : Nat) (bs : List UInt8) (bad : Bool) (A : Option Addr) (c : Nat), q = .int .i64 k ∧ k ≤ l.length ∧ Below w.heap.size w wr ∧ bs.length ≤ bs0.length ∧ Hid (Same w a x bs bad A c wr)) (fun q _ => (l.length - intOf q).toNat)
    case atStart => exact ⟨0, bs0, false, A0, c0, rfl, Nat.zero_le _, hB2, Nat.le_refl _, hS2⟩
    case round =>
      obtain ⟨k, bs, bad, A, c, rfl, hk, hB, hbl, hS⟩ := hrel
      clear hB2 hS2
      by_cases hlt : k < l.length
      · obtain ⟨b, o, rfl, hbw, hcl⟩ := HL.out.at_ (by omega)
        have kT : wr.cell? ⟨b, o + k * 2, none⟩ = some (.bool l[k].text) := (hB.cell (p := ⟨b, o + k * 2, none⟩) hbw).trans (hcl _ _ (flat_get Asked.cells 2 (fun _ => rfl) l k hlt 0 (by omega)))
        have kM : wr.cell? ⟨b, o + k * 2 + 1, none⟩ = some (.int .i64 l[k].most) := (hB.cell (p := ⟨b, o + (k * 2 + 1), none⟩) hbw).trans (hcl _ _ (flat_get Asked.cells 2 (fun _ => rfl) l k hlt 1 (by omega)))
        have hlo := l[k].lo
        have hhi := l[k].hi
        obtain ⟨most, hmost⟩ : ∃ m, m = l[k].most := ⟨_, rfl⟩
        obtain ⟨tx, htx⟩ : ∃ t, t = l[k].text := ⟨_, rfl⟩
        rw [← hmost] at kM hlo hhi
        rw [← htx] at kT
        have hki : (k : Int) < l.length := by omega
        have hxw : x < wr.heap.size := World.block_lt_of_cell? wr _ hS.out.2.2.1
        have hbx : b < wr.heap.size := by omega
        have x0 := hS.out.2.2.1
        have x1 := hS.out.2.2.2.1
        have KM := Lib.hid kM
        clear hcl hmost htx
        cases tx with
        | true =>
          obtain ⟨s, rest, bad2, HRT, HCT, HQ⟩ := text_both bs bad most hS.out.1.none_ (by have := hS.out.1.small; omega) hlo hhi
          have hrt := HRT.out wr.drew w.heap.size A c hB.size hS.out.2.1.drew
          have hrt2 := HRT.out (wr.alloc (.cells #[.slice none 0 0, .bool false] 39)).drew w.heap.size A c (Nat.le_trans hB.size (by simp)) (hS.out.2.1.alloc hB.size _).drew
          have HRT1 := Lib.hid hrt
          have HRT2 := Lib.hid hrt2
          clear hrt hrt2
          go_wp2_with fail
          go_cut [8, 9] (fun s8 s9 wx => ∃ (y : Nat) (A2 : Option Addr) (c2 : Nat), s8 = .string (strOf s) ∧ s9 = .pointer (some ⟨y, 0, none⟩) ∧ Hid (Mid w wr rest bad2 y A2 c2 wx))
          case first =>
            go_region_law (go_simp; go_at_call 16; first
              | ((with_reducible refine HRT1.out.mono ?_); rintro e w4 ⟨A2, c2, rfl, hr2, hb4⟩; (have hb5 : Below wr.heap.size wr w4 := (Below.refl wr.heap.size wr).drew.trans hb4))
              | ((with_reducible refine HRT2.out.mono ?_); rintro e w4 ⟨A2, c2, rfl, hr2, hb4⟩; (have hb5 : Below wr.heap.size wr w4 := ((Below.refl _ _).alloc (Nat.le_refl _) _).drew.trans (hb4.mono (by simp))); (have hy0 : w4.cell? ⟨wr.heap.size, 0, none⟩ = some (.slice none 0 0) := (hb4.cell (p := ⟨wr.heap.size, 0, none⟩) (by simp)).trans (by go_simp)); (have hy1 : w4.cell? ⟨wr.heap.size, 1, none⟩ = some (.bool false) := (hb4.cell (p := ⟨wr.heap.size, 1, none⟩) (by simp)).trans (by go_simp)); (have hz0 : w4.frozen? ⟨wr.heap.size, 0, none⟩ = false := (hb4.frozen (p := ⟨wr.heap.size, 0, none⟩) (by simp)).trans (by go_simp)); (have hz1 : w4.frozen? ⟨wr.heap.size, 1, none⟩ = false := (hb4.frozen (p := ⟨wr.heap.size, 1, none⟩) (by simp)).trans (by go_simp))))
            all_goals
              go_wp2_with fail
              go_meet
              exact ⟨_, A2, c2, rfl, rfl, (by first | exact mid_new hr2 hb5 hB.size | exact mid_old hr2 hb5 hB.size hy0 hy1)⟩
          case rest =>
            obtain ⟨y, A2, c2, rfl, rfl, hmid⟩ := hcut
            have hbc : Below wr.heap.size wr wc := hmid.out.2.2.2.1
            have kM2 : wc.cell? ⟨b, o + k * 2 + 1, none⟩ = some (.int .i64 most) := (hbc.cell (p := ⟨b, o + k * 2 + 1, none⟩) hbx).trans KM.out
            have HC := Lib.hid (HCT.out wc a (hS.out.1.below hbc))
            clear hbc kM kT x0 x1
            go_wp2_with (go_at_call 17; refine HC.out.mono ?_; rintro e w6 ⟨rfl, hi6, hg6⟩; obtain ⟨y0, y1, x0, x1, z0, z1, hS7⟩ := after_take hS.out hmid.out hg6 hi6 hax haw hxw hB; clear hi6 hg6)
            obtain ⟨w7, hw7⟩ : ∃ w7, w7 = ((w6.setCell ⟨x, 0, none⟩ (.slice A2 rest.length c2)).setCell ⟨x, 1, none⟩ (.bool bad2)) := ⟨_, rfl⟩
            rw [← hw7] at hS7 ⊢
            have HW7 := Lib.hid hw7
            clear hw7 y0 y1 x0 x1 z0 z1 hmid HC
            obtain ⟨d, hd⟩ : ∃ d, d = (!bad2 && rest.isEmpty) := ⟨_, rfl⟩
            have hd2 : (!bad2 && ((rest.length : Int) == 0)) = d := by rw [hd]; cases rest <;> simp; omega
            have HDI : Hid (∀ W, InAt W a rest bad2 → Calls Try.prog 22 #[.pointer (some ⟨a, 0, none⟩)] W fun e w' => e = .returned (.bool d) ∧ W = w') := by
              intro W h; rw [hd]; exact done_any h
            have HDR : Hid (∀ W, Calls Try.prog 23 #[.agg #[.slice A2 rest.length c2, .bool bad2]] W fun e w' => e = .returned (.bool d) ∧ Below W.heap.size W w') := by
              intro W; rw [← hd2]; exact rdone_any _ _ _ _ _
            clear hd hd2
            have x0 := hS7.out.1.2.2.1
            have x1 := hS7.out.1.2.2.2.1
            have hxw7 : x < w7.heap.size := World.block_lt_of_cell? w7 _ x0
            have hi7 : InAt w7.drew a rest bad2 := hS7.out.1.1.below (Below.refl _ _).drew
            have HI7 := Lib.hid hi7
            have HL7 := Lib.hid (left_any hi7)
            have HBd7 := Lib.hid (bad_any hi7)
            have HD7 := Lib.hid (HDI.out _ hi7)
            clear hi7
            go_cut [98] (fun s98 wx => s98 = .bool false ∧ Hid (Same w a x rest bad2 A2 c2 wx ∧ Below w.heap.size w wx))
            case first =>
             go_region_law (go_simp; first
              | (go_at_call 20; refine HL7.out.mono ?_; rintro e w' ⟨rfl, rfl⟩)
              | (go_at_call 21; refine HBd7.out.mono ?_; rintro e w' ⟨rfl, rfl⟩)
              | (go_at_call 22; first | ((with_reducible refine HD7.out.mono ?_); rintro e w' ⟨rfl, rfl⟩) | ((with_reducible refine HD8.out.mono ?_); rintro e w' ⟨rfl, rfl⟩))
              | (go_at_call 23; refine (HDR.out _).mono ?_; rintro e w8 ⟨rfl, hb8⟩; (have x08 : w8.cell? ⟨x, 0, none⟩ = some (.slice A2 rest.length c2) := (hb8.cell (p := ⟨x, 0, none⟩) hxw7).trans x0); (have x18 : w8.cell? ⟨x, 1, none⟩ = some (.bool bad2) := (hb8.cell (p := ⟨x, 1, none⟩) hxw7).trans x1); (have HD8 := Lib.hid (HDI.out w8 (HI7.out.below hb8))); (have HF8 := same_later hS7.out ((Below.refl w7.heap.size w7).drew.trans hb8)); clear hb8))
             all_goals
              go_wp2_with fail
              go_meet
              exact ⟨rfl, HF8.out⟩
            case rest =>
             obtain ⟨rfl, HF8⟩ := hcut
             go_wp2
             go_roundw
             case rel => first | exact ⟨k + 1, rest, bad2, A2, c2, by go_num, by omega, HF8.out.2, Nat.le_trans HQ.out.2 hbl, HF8.out.1⟩ | ((repeat apply Exists.intro); exact ⟨⟨k + 1, rest, bad2, A2, c2, by go_num, by omega, HF8.out.2, Nat.le_trans HQ.out.2 hbl, HF8.out.1⟩, rfl⟩)
             case measure => simp [intOf]; omega
        | false =>
          obtain ⟨v, rest, bad2, HRT, HCT, HQ⟩ := num_both bs bad most hS.out.1.none_ (by have := hS.out.1.small; omega) hlo hhi
          have hrt := HRT.out wr.drew w.heap.size A c hB.size hS.out.2.1.drew
          have hrt2 := HRT.out (wr.alloc (.cells #[.slice none 0 0, .bool false] 39)).drew w.heap.size A c (Nat.le_trans hB.size (by simp)) (hS.out.2.1.alloc hB.size _).drew
          have HRT1 := Lib.hid hrt
          have HRT2 := Lib.hid hrt2
          clear hrt hrt2
          go_wp2_with fail
          go_cut [10, 11] (fun s8 s9 wx => ∃ (y : Nat) (A2 : Option Addr) (c2 : Nat), s8 = .int .i64 v ∧ s9 = .pointer (some ⟨y, 0, none⟩) ∧ Hid (Mid w wr rest bad2 y A2 c2 wx))
          case first =>
            go_region_law (go_simp; go_at_call 18; first
              | ((with_reducible refine HRT1.out.mono ?_); rintro e w4 ⟨A2, c2, rfl, hr2, hb4⟩; (have hb5 : Below wr.heap.size wr w4 := (Below.refl wr.heap.size wr).drew.trans hb4))
              | ((with_reducible refine HRT2.out.mono ?_); rintro e w4 ⟨A2, c2, rfl, hr2, hb4⟩; (have hb5 : Below wr.heap.size wr w4 := ((Below.refl _ _).alloc (Nat.le_refl _) _).drew.trans (hb4.mono (by simp))); (have hy0 : w4.cell? ⟨wr.heap.size, 0, none⟩ = some (.slice none 0 0) := (hb4.cell (p := ⟨wr.heap.size, 0, none⟩) (by simp)).trans (by go_simp)); (have hy1 : w4.cell? ⟨wr.heap.size, 1, none⟩ = some (.bool false) := (hb4.cell (p := ⟨wr.heap.size, 1, none⟩) (by simp)).trans (by go_simp)); (have hz0 : w4.frozen? ⟨wr.heap.size, 0, none⟩ = false := (hb4.frozen (p := ⟨wr.heap.size, 0, none⟩) (by simp)).trans (by go_simp)); (have hz1 : w4.frozen? ⟨wr.heap.size, 1, none⟩ = false := (hb4.frozen (p := ⟨wr.heap.size, 1, none⟩) (by simp)).trans (by go_simp))))
            all_goals
              go_wp2_with fail
              go_meet
              exact ⟨_, A2, c2, rfl, rfl, (by first | exact mid_new hr2 hb5 hB.size | exact mid_old hr2 hb5 hB.size hy0 hy1)⟩
          case rest =>
            obtain ⟨y, A2, c2, rfl, rfl, hmid⟩ := hcut
            have hbc : Below wr.heap.size wr wc := hmid.out.2.2.2.1
            have kM2 : wc.cell? ⟨b, o + k * 2 + 1, none⟩ = some (.int .i64 most) := (hbc.cell (p := ⟨b, o + k * 2 + 1, none⟩) hbx).trans KM.out
            have HC := Lib.hid (HCT.out wc a (hS.out.1.below hbc))
            clear hbc kM kT x0 x1
            go_wp2_with (go_at_call 19; refine HC.out.mono ?_; rintro e w6 ⟨rfl, hi6, hg6⟩; obtain ⟨y0, y1, x0, x1, z0, z1, hS7⟩ := after_take hS.out hmid.out hg6 hi6 hax haw hxw hB; clear hi6 hg6)
            obtain ⟨w7, hw7⟩ : ∃ w7, w7 = ((w6.setCell ⟨x, 0, none⟩ (.slice A2 rest.length c2)).setCell ⟨x, 1, none⟩ (.bool bad2)) := ⟨_, rfl⟩
            rw [← hw7] at hS7 ⊢
            have HW7 := Lib.hid hw7
            clear hw7 y0 y1 x0 x1 z0 z1 hmid HC
            obtain ⟨d, hd⟩ : ∃ d, d = (!bad2 && rest.isEmpty) := ⟨_, rfl⟩
            have hd2 : (!bad2 && ((rest.length : Int) == 0)) = d := by rw [hd]; cases rest <;> simp; omega
            have HDI : Hid (∀ W, InAt W a rest bad2 → Calls Try.prog 22 #[.pointer (some ⟨a, 0, none⟩)] W fun e w' => e = .returned (.bool d) ∧ W = w') := by
              intro W h; rw [hd]; exact done_any h
            have HDR : Hid (∀ W, Calls Try.prog 23 #[.agg #[.slice A2 rest.length c2, .bool bad2]] W fun e w' => e = .returned (.bool d) ∧ Below W.heap.size W w') := by
              intro W; rw [← hd2]; exact rdone_any _ _ _ _ _
            clear hd hd2
            have x0 := hS7.out.1.2.2.1
            have x1 := hS7.out.1.2.2.2.1
            have hxw7 : x < w7.heap.size := World.block_lt_of_cell? w7 _ x0
            have hi7 : InAt w7.drew a rest bad2 := hS7.out.1.1.below (Below.refl _ _).drew
            have HI7 := Lib.hid hi7
            have HL7 := Lib.hid (left_any hi7)
            have HBd7 := Lib.hid (bad_any hi7)
            have HD7 := Lib.hid (HDI.out _ hi7)
            clear hi7
            go_cut [98] (fun s98 wx => s98 = .bool false ∧ Hid (Same w a x rest bad2 A2 c2 wx ∧ Below w.heap.size w wx))
            case first =>
             go_region_law (go_simp; first
              | (go_at_call 20; refine HL7.out.mono ?_; rintro e w' ⟨rfl, rfl⟩)
              | (go_at_call 21; refine HBd7.out.mono ?_; rintro e w' ⟨rfl, rfl⟩)
              | (go_at_call 22; first | ((with_reducible refine HD7.out.mono ?_); rintro e w' ⟨rfl, rfl⟩) | ((with_reducible refine HD8.out.mono ?_); rintro e w' ⟨rfl, rfl⟩))
              | (go_at_call 23; refine (HDR.out _).mono ?_; rintro e w8 ⟨rfl, hb8⟩; (have x08 : w8.cell? ⟨x, 0, none⟩ = some (.slice A2 rest.length c2) := (hb8.cell (p := ⟨x, 0, none⟩) hxw7).trans x0); (have x18 : w8.cell? ⟨x, 1, none⟩ = some (.bool bad2) := (hb8.cell (p := ⟨x, 1, none⟩) hxw7).trans x1); (have HD8 := Lib.hid (HDI.out w8 (HI7.out.below hb8))); (have HF8 := same_later hS7.out ((Below.refl w7.heap.size w7).drew.trans hb8)); clear hb8))
             all_goals
              go_wp2_with fail
              go_meet
              exact ⟨rfl, HF8.out⟩
            case rest =>
             obtain ⟨rfl, HF8⟩ := hcut
             go_wp2
             go_roundw
             case rel => first | exact ⟨k + 1, rest, bad2, A2, c2, by go_num, by omega, HF8.out.2, Nat.le_trans HQ.out.2 hbl, HF8.out.1⟩ | ((repeat apply Exists.intro); exact ⟨⟨k + 1, rest, bad2, A2, c2, by go_num, by omega, HF8.out.2, Nat.le_trans HQ.out.2 hbl, HF8.out.1⟩, rfl⟩)
             case measure => simp [intOf]; omega
      · go_wp2
        go_ret
        exact ⟨rfl, hB⟩
  · have hg : decide ((70000 : Int) < bs0.length) = true ∨ (decide ((70000 : Int) < bs0.length) = false ∧ decide ((200 : Int) < l.length) = true) := by
      by_cases g1 : bs0.length ≤ 70000
      · exact .inr ⟨by simp; omega, by simp; omega⟩
      · exact .inl (by simp; omega)
    clear hok
    rcases hg with g1 | ⟨g1, g2⟩
    all_goals
      go_enter Try.func4, Try.ntmps4
      go_wp2_with (first
        | (go_at_call 10; refine (awake_any w).mono ?_; rintro e w1 ⟨rfl, hb1⟩)
        | (go_at_call 10; refine (awake_any w1).mono ?_; rintro e w2 ⟨rfl, hb2⟩))
      go_ret
      exact ⟨rfl, hb1.trans (hb2.mono hb1.size)⟩
end Go.Proofs.Ytgjojcigcbenmaa.lawCodecTakes
