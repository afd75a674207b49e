/-
  A note as bytes, as the program and as the specification lay it. Condition: the length that every text has, and at most 3000000 entries.
-/
import Derived.Test.YtaefjifcnoiplaaGreatNS2
namespace Go.Proofs.YtaefjifcnoiplaaGreat.Gen
open Go.ChangeShapes Go.WideShapes Go.ChangeAt Go.RowKit Go.Joins Go.Deep Base
set_option linter.unusedVariables false
set_option linter.unusedSimpArgs false
def noteO (kind term vote prev : Int) (l : List En) (snap : ByteArray) : List UInt8 := if noteB kind term vote prev l snap = true then frameB (bodyB kind term vote prev l snap) else []
theorem bodyB_le {kind term vote prev : Int} {l : List En} {snap : ByteArray} (h : NtR kind term vote prev l snap) : (bodyB kind term vote prev l snap).length <= 40000 := by
  have h1 := numsB_le [kind, term, vote + 1, prev]
  have h2 := ensB_le h.en
  have h3 := numB_le (n := snap.size) (by have := h.s; omega)
  have := h.s
  have := h.len
  simp only [bodyB, List.length_append, txtB_length, List.length_cons, List.length_nil] at h1 ⊢
  omega
theorem frameB_le {L : List UInt8} (h : L.length <= 40000) : (frameB L).length <= 41000 := by
  have h1 := numB_le (n := L.length) (by omega)
  simp only [frameB, List.length_append, sumB_length]
  omega
theorem noteO_le (kind term vote prev : Int) (l : List En) (snap : ByteArray) : (noteO kind term vote prev l snap).length <= 41000 := by
  unfold noteO
  split
  . exact frameB_le (bodyB_le (note_ranges ‹_›))
  . simp
theorem Pt.of_at {α : Type} [Cel α] {P : Nat -> Prop} {w W : World} {A : Option Addr} {L : List α} (h : At w A L) (g : Below w.heap.size w W) (hP : ∀ k, k < w.heap.size -> P k) : Pt P W A L := by
  refine ⟨h.below g, ?_⟩
  rcases h with e | ⟨b, o, e, hb, _⟩
  . exact .inl e
  . exact .inr fun k o' e' => by rw [e] at e'; cases e'; exact hP b hb
set_option maxRecDepth 100000 in
theorem note1_any (z : Nat) (P : Nat -> Prop) (y : Nat) (kind term vote prev : Int) (snap : ByteArray) (A : Option Addr) (cap : Nat) (l : List En) (hR : NtR kind term vote prev l snap) (W : World) (hz : Blk W z 67 #[.int .i64 kind, .int .i64 term, .int .i64 vote, .int .i64 prev, .slice A l.length cap, .string snap]) (hA : Pt P W A l) (h : Wr P y W []) : Writes 55 #[.pointer (some ⟨z, 0, none⟩)] (some (bodyB kind term vote prev l snap)) P y W := by
  unfold Writes
  have HW := hidP h
  have HA := hidP hA
  have HRR := hidP hR
  show Calls Tryz.prog 55 #[.pointer (some ⟨y, 0, none⟩), .pointer (some ⟨z, 0, none⟩)] W _
  obtain ⟨c0, c1, c2, c3, c4, c5⟩ := hz.row6n
  clear h hz hA hR
  go_enter Tryz.func55, Tryz.ntmps55
  go_wp2_with fail
  refine (wnote_any P y kind term vote prev snap A cap l ⟨by have := HRR.out.k; omega, HRR.out.k.2⟩ HRR.out.t HRR.out.v HRR.out.p HRR.out.s HRR.out.len HRR.out.en _ HA.out HW.out).mono ?_
  rintro e w' ⟨rfl, t1, h1⟩
  go_wp2
  go_end0
  exact ⟨t1, rfl, h1⟩
set_option maxRecDepth 100000 in
theorem note2_any (z : Nat) (P : Nat -> Prop) (y : Nat) (A : Option Addr) (cap : Nat) (L : List UInt8) (hL : L.length <= 3000000) (W : World) (hz : Blk W z 37 #[.slice A L.length cap]) (hA : Pt P W A L) (h : Wr P y W []) : Writes 57 #[.pointer (some ⟨z, 0, none⟩)] (some (frameB L)) P y W := by
  unfold Writes
  have HW := hidP h
  have HA := hidP hA
  show Calls Tryz.prog 57 #[.pointer (some ⟨y, 0, none⟩), .pointer (some ⟨z, 0, none⟩)] W _
  have c0 := hz.row1
  clear h hz hA
  go_enter Tryz.func57, Tryz.ntmps57
  go_wp2_with fail
  refine (framed_any P y A cap L hL _ HA.out HW.out).mono ?_
  rintro e w' ⟨rfl, t1, h1⟩
  go_wp2
  go_end0
  exact ⟨t1, rfl, h1⟩
set_option maxRecDepth 100000 in
set_option maxHeartbeats 1000000 in
theorem implNoteBytes_any (kind term vote prev : Int) (snap : ByteArray) (hs : snap.size <= 9223372036854775807) (A : Option Addr) (cap : Nat) (l : List En) (hl : l.length <= 3000000) (hr : ∀ x ∈ l, x.fit) (w : World) (hA : At w A l) :
    Calls Tryz.prog 22 #[.agg #[.int .i64 kind, .int .i64 term, .int .i64 vote, .int .i64 prev, .slice A l.length cap, .string snap]] w fun e w' => ∃ a' c', e = .returned (.slice a' (noteO kind term vote prev l snap).length c') /\ Below w.heap.size w w' /\ w'.ownsRow w.heap.size 5 1 (.slice a' (noteO kind term vote prev l snap).length c') (noteO kind term vote prev l snap).length (flat (noteO kind term vote prev l snap)) := by
  have hmf : ∀ (fn : Fn) (first cap : Array Value) (w : World), (Instr.makeFunc fn first cap).run Tryz.prog w = .ok (.func fn first cap) w := fun _ _ _ _ => rfl
  have Hp := hidP (Blk.new w 67 #[.int .i64 kind, .int .i64 term, .int .i64 vote, .int .i64 prev, .slice A l.length cap, .string snap])
  have B0 : Below w.heap.size w (w.alloc (.cells #[.int .i64 kind, .int .i64 term, .int .i64 vote, .int .i64 prev, .slice A l.length cap, .string snap] 67)) := alloc0 (Below.refl _ w) _
  have HA := hidP hA
  have HF := hidP hr
  clear hA hr
  go_enter Tryz.func22, Tryz.ntmps22
  go_wp2_with fail
  refine (implNoteOk_any kind term vote prev snap hs A cap l hl HF.out _ (HA.out.below B0)).mono ?_
  rintro e w1 ⟨rfl, g1⟩
  have p1 := Hp.out.below g1 Hp.out.lt
  have B1 := via0 g1 B0
  have q1 := p1.lt
  cases hok : noteB kind term vote prev l snap with
  | false =>
    have hO : Hid (noteO kind term vote prev l snap = []) := by show _ = _; unfold noteO; rw [hok]; rfl
    clear g1 p1
    go_wp2
    go_ret
    rw [hO.out]
    exact ⟨none, 0, rfl, B1, World.ownsRow_nil _ _ _ _⟩
  | true =>
    have hO : Hid (noteO kind term vote prev l snap = frameB (bodyB kind term vote prev l snap)) := by show _ = _; unfold noteO; rw [hok]; rfl
    have hR := note_ranges hok
    have hbl := hidP (bodyB_le hR)
    have hwr := hidP (written_any 55 #[.pointer (some ⟨w.heap.size, 0, none⟩)] (some (bodyB kind term vote prev l snap)) w1 (fun p W => by simp [go_sem])
      (fun W hb P y hP h => note1_any w.heap.size P y kind term vote prev snap A cap l hR W (p1.below hb p1.lt) (Pt.of_at (HA.out.below B1) hb hP) h))
    clear g1 p1 hR
    simp only [Option.getD_some] at hwr
    generalize bodyB kind term vote prev l snap = L at *
    go_wp2_with fail
    refine hwr.out.mono ?_
    rintro e w2 ⟨a2, c2, rfl, g2, o2⟩
    have B2 := via0 g2 B1
    have hat2 := (fresh_owns o2).at
    have p3 := Blk.new w2 37 #[.slice a2 L.length c2]
    have B3 : Below w.heap.size w (w2.alloc (.cells #[.slice a2 L.length c2] 37)) := alloc0 B2 _
    have hat3 := hat2.below (alloc0 (Below.refl _ w2) (.cells #[.slice a2 L.length c2] 37))
    have hwr2 := hidP (written_any 57 #[.pointer (some ⟨w2.heap.size, 0, none⟩)] (some (frameB L)) (w2.alloc (.cells #[.slice a2 L.length c2] 37)) (fun p W => by simp [go_sem])
      (fun W hb P y hP h => note2_any w2.heap.size P y a2 c2 L (by have := hbl.out; omega) W (p3.below hb p3.lt) (Pt.of_at hat3 hb hP) h))
    simp only [Option.getD_some] at hwr2
    clear hwr hat2 hat3 p3 g2 o2
    go_wp2_with fail
    refine hwr2.out.mono ?_
    rintro e w' ⟨a', c', rfl, hb, ho⟩
    have hb' := via0 hb B3
    have ho' := hidP (owns_mono (C := w.heap.size) ho B3.size)
    clear hb ho hwr2
    go_wp2
    go_ret
    rw [hO.out]
    exact ⟨a', c', rfl, hb', ho'.out⟩
set_option maxRecDepth 100000 in
set_option maxHeartbeats 1000000 in
theorem specNoteBytes_any (kind term vote prev : Int) (snap : ByteArray) (hs : snap.size <= 9223372036854775807) (A : Option Addr) (cap : Nat) (l : List En) (hl : l.length <= 3000000) (hr : ∀ x ∈ l, x.fit) (w : World) (hA : At w A l) :
    Calls Tryz.prog 37 #[.agg #[.int .i64 kind, .int .i64 term, .int .i64 vote, .int .i64 prev, .slice A l.length cap, .string snap]] w fun e w' => ∃ a' c', e = .returned (.slice a' (noteO kind term vote prev l snap).length c') /\ Below w.heap.size w w' /\ w'.ownsRow w.heap.size 5 1 (.slice a' (noteO kind term vote prev l snap).length c') (noteO kind term vote prev l snap).length (flat (noteO kind term vote prev l snap)) := by
  have Hp := hidP (Blk.new w 67 #[.int .i64 kind, .int .i64 term, .int .i64 vote, .int .i64 prev, .slice A l.length cap, .string snap])
  have B0 : Below w.heap.size w (w.alloc (.cells #[.int .i64 kind, .int .i64 term, .int .i64 vote, .int .i64 prev, .slice A l.length cap, .string snap] 67)) := alloc0 (Below.refl _ w) _
  have HA := hidP hA
  have HF := hidP hr
  clear hA hr
  go_enter Tryz.func37, Tryz.ntmps37
  go_wp2_with fail
  refine (specNoteOk_any kind term vote prev snap hs A cap l hl HF.out _ (HA.out.below B0)).mono ?_
  rintro e w1 ⟨rfl, g1⟩
  have p1 := Hp.out.below g1 Hp.out.lt
  have B1 := via0 g1 B0
  have q1 := p1.lt
  cases hok : noteB kind term vote prev l snap with
  | false =>
    have hO : Hid (noteO kind term vote prev l snap = []) := by show _ = _; unfold noteO; rw [hok]; rfl
    clear g1 p1
    go_wp2
    go_ret
    rw [hO.out]
    exact ⟨_, _, rfl, alloc0 B1 _, ⟨by simp [flat], .inr ⟨w1.heap.size, 0, #[], rfl, B1.size, Blk.new w1 5 #[], Nat.le_refl _, by simp [maxLen], rfl, rfl⟩⟩⟩
  | true =>
    have hO : Hid (noteO kind term vote prev l snap = frameB (bodyB kind term vote prev l snap)) := by show _ = _; unfold noteO; rw [hok]; rfl
    have hR := hidP (note_ranges hok)
    have hbl := hidP (bodyB_le hR.out)
    obtain ⟨d0, d1, d2, d3, d4, d5⟩ := p1.row6n
    clear g1 p1
    go_wp2_with fail
    refine (l9Body_any kind term vote prev snap A cap l hR.out HF.out _ (HA.out.below B1)).mono ?_
    rintro e w2 ⟨a2, c2, rfl, g2, o2⟩
    have B2 := hidP (via0 g2 B1)
    have hat2 := hidP (fresh_owns o2).at
    generalize bodyB kind term vote prev l snap = L at *
    clear g2 o2 hR d0 d1 d2 d3 d4 d5 q1
    go_wp2_with fail
    refine (specPutNum_any (L.length : Int) _).mono ?_
    rintro e w3 ⟨a3, c3, rfl, g3, o3⟩
    have J3 : Jo w2 w3 a3 c3 (numI (L.length : Int)) := ⟨g3, o3⟩
    obtain ⟨a4, c4, w4, hr4, K4, _⟩ := J3.app (c1 := c2) (Below.refl _ _) (hat2.out.below g3) (by have := numI_le (L.length : Int); have := hbl.out; omega)
    have EX : Hid (numI (L.length : Int) ++ L ++ sumB 4 (sumN L) = frameB L) := by show _ = _; rw [numI_nat (by have := hbl.out; omega)]; simp [frameB, List.append_assoc]
    have LX : Hid ((numI (L.length : Int) ++ L).length <= 41000) := by show _ <= _; rw [List.length_append]; have := numI_le (L.length : Int); have := hbl.out; omega
    generalize numI (L.length : Int) ++ L = X at *
    have J4 := hidP K4
    have hat4 := hidP (hat2.out.below J4.out.bl)
    clear K4 J3 g3 o3
    go_wp2_with (at_builtin; refine wpList_append_is rfl _ _ _ rfl _ _ _ rfl rfl hr4 ?_)
    refine (l9Sum_any a2 c2 L (by have := hbl.out; omega) _ hat4.out).mono ?_
    rintro e w5 ⟨rfl, g5, hy5⟩
    obtain ⟨a6, c6, w6, hr6, K6, _⟩ := J4.out.app (c1 := 4) g5 hy5 (by have := LX.out; rw [sumB_length]; omega)
    rw [sumB_length] at hr6
    generalize X ++ sumB 4 (sumN L) = Y at *
    have J6 := hidP K6
    clear K6 J4 g5 hy5 hr4
    go_wp2_with (at_builtin; refine wpList_append_is rfl _ _ _ rfl _ _ _ rfl rfl hr6 ?_)
    go_ret
    rw [hO.out, ← EX.out]
    exact ⟨a6, c6, rfl, via0 J6.out.bl B2.out, owns_mono J6.out.own B2.out.size⟩
end Go.Proofs.YtaefjifcnoiplaaGreat.Gen
