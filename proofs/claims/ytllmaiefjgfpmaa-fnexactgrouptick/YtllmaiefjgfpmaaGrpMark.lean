/-
  Groups in blocks of their own: marked, and held. No condition but that its lists have at most 2000000 numbers.
-/
import Derived.Test.YtllmaiefjgfpmaaFps
import Derived.Test.YtllmaiefjgfpmaaGroups
namespace Go.Proofs.Ytllmaiefjgfpmaa.Gen
open Go.ChangeShapes Go.WideShapes Go.ChangeAt Go.RowKit Go.Joins Go.Deep Base
set_option linter.unusedVariables false

/-- Three lists in blocks of their own: F are all of them. -/
def Gp (w : World) (a1 a2 a3 : Option Addr) (m b o : List Int) (F : List Nat) : Prop :=
  ∃ F1 F2 F3, F = F1 ++ (F2 ++ F3) ∧ Sl w a1 m F1 ∧ Sl w a2 b F2 ∧ Sl w a3 o F3 ∧ F.Nodup
theorem Gp.off {F G : List Nat} {w w1 : World} {a1 a2 a3 : Option Addr} {m b o : List Int} (h : Gp w a1 a2 a3 m b o F) (k : Off G w w1) (hd : ∀ x ∈ F, x ∉ G) : Gp w1 a1 a2 a3 m b o F := by
  obtain ⟨F1, F2, F3, rfl, s1, s2, s3, hn⟩ := h
  exact ⟨F1, F2, F3, rfl, s1.off k fun x hx => hd x (by simp [hx]), s2.off k fun x hx => hd x (by simp [hx]), s3.off k fun x hx => hd x (by simp [hx]), hn⟩
theorem Gp.below {F : List Nat} {w w1 : World} {a1 a2 a3 : Option Addr} {m b o : List Int} (h : Gp w a1 a2 a3 m b o F) (k : Below w.heap.size w w1) : Gp w1 a1 a2 a3 m b o F := h.off (Off.of_below k) (by simp)
theorem Gp.alloc {F : List Nat} {w : World} {a1 a2 a3 : Option Addr} {m b o : List Int} (h : Gp w a1 a2 a3 m b o F) (ob : Obj) : Gp (w.alloc ob) a1 a2 a3 m b o F := h.below (alloc0 (Below.refl _ _) _)
theorem Gp.lt {F : List Nat} {w : World} {a1 a2 a3 : Option Addr} {m b o : List Int} (h : Gp w a1 a2 a3 m b o F) : ∀ x ∈ F, x < w.heap.size := by
  obtain ⟨F1, F2, F3, rfl, s1, s2, s3, hn⟩ := h
  intro x hx
  simp only [List.mem_append] at hx
  rcases hx with h | h | h
  · exact s1.lt x h
  · exact s2.lt x h
  · exact s3.lt x h
theorem Gp.at1 {F : List Nat} {w : World} {a1 a2 a3 : Option Addr} {m b o : List Int} (h : Gp w a1 a2 a3 m b o F) : At w a1 m := by obtain ⟨_, _, _, _, s, _⟩ := h; exact s.at
theorem Gp.at2 {F : List Nat} {w : World} {a1 a2 a3 : Option Addr} {m b o : List Int} (h : Gp w a1 a2 a3 m b o F) : At w a2 b := by obtain ⟨_, _, _, _, _, s, _⟩ := h; exact s.at
theorem Gp.at3 {F : List Nat} {w : World} {a1 a2 a3 : Option Addr} {m b o : List Int} (h : Gp w a1 a2 a3 m b o F) : At w a3 o := by obtain ⟨_, _, _, _, _, _, s, _⟩ := h; exact s.at
theorem Three.gp {n : Nat} {w : World} {x y z : Nat} {m b o : List Int} (h : Three n w x y z m b o) : ∃ F, Gp w (some ⟨x, 0, none⟩) (some ⟨y, 0, none⟩) (some ⟨z, 0, none⟩) m b o F ∧ ∀ k ∈ F, n ≤ k := by
  refine ⟨[x] ++ ([y] ++ [z]), ⟨[x], [y], [z], rfl, .inr ⟨x, 0, rfl, rfl, Nat.lt_trans h.xy (Nat.lt_trans h.yz h.zs), h.im, h.tm⟩, .inr ⟨y, 0, rfl, rfl, Nat.lt_trans h.yz h.zs, h.ib, h.tb⟩, .inr ⟨z, 0, rfl, rfl, h.zs, h.io, h.to⟩, ?_⟩, ?_⟩
  · have := h.xy; have := h.yz
    simp; omega
  · have := h.nx; have := h.xy; have := h.yz
    simp; omega

theorem mark_sl (a : Option Addr) (cap : Nat) (l : List Int) (F : List Nat) (k : Int) (hk : 1 ≤ k) (hk' : k ≤ 100000000) (hl : l.length ≤ 2000000) (w : World) (h : Sl w a l F) :
    Calls Try.prog 38 #[.slice a l.length cap, .int .i64 k] w fun e w' => e = .returned (.int .i64 (k + (l.length : Int))) ∧ Off F w w' ∧ Sl w' a (marksInt l.length k) F := by
  rcases h with ⟨rfl, rfl⟩ | ⟨b, o, rfl, rfl, hb, hi, ht⟩
  · refine (markInt_none a cap k w).mono ?_
    rintro e w' ⟨rfl, rfl⟩
    exact ⟨by simp, Off.refl _ _, .inl ⟨rfl, rfl⟩⟩
  · refine (markInt_any b o cap l.length k hk hk' hl w hb ht).mono ?_
    rintro e w' ⟨rfl, ho, hin, hth⟩
    exact ⟨rfl, Off.of_only ho, .inr ⟨b, o, rfl, rfl, Nat.lt_of_lt_of_le hb ho.size, hin, by rw [marksInt_length]; exact hth⟩⟩

set_option maxRecDepth 100000 in
theorem markGroup_any (gen : Int) (a1 a2 a3 : Option Addr) (c1 c2 c3 : Nat) (m b o : List Int) (F : List Nat) (hm : m.length ≤ 2000000) (hb : b.length ≤ 2000000) (ho : o.length ≤ 2000000) (w : World) (h : Gp w a1 a2 a3 m b o F) :
    Calls Try.prog 11 #[.agg #[.int .i64 gen, .slice a1 m.length c1, .slice a2 b.length c2, .slice a3 o.length c3], .int .i64 1] w
      fun e w' => e = .returned (.int .i64 (1 + (m.length : Int) + (b.length : Int) + (o.length : Int))) ∧ Off F w w' ∧ Gp w' a1 a2 a3 (marksInt m.length 1) (marksInt b.length (1 + (m.length : Int))) (marksInt o.length (1 + (m.length : Int) + (b.length : Int))) F := by
  obtain ⟨F1, F2, F3, rfl, s1, s2, s3, hn⟩ := h
  have H1 := hidP s1
  have H2 := hidP s2
  have H3 := hidP s3
  have hd : Hid ((∀ x ∈ F1, x ∉ F2 ++ F3) ∧ (∀ x ∈ F2, x ∉ F3) ∧ F1.Nodup ∧ F2.Nodup ∧ F3.Nodup) := by
    rw [List.nodup_append] at hn
    obtain ⟨q1, q2, q3⟩ := hn
    rw [List.nodup_append] at q2
    exact ⟨fun x hx hy => q3 x hx x hy rfl, fun x hx hy => q2.2.2 x hx x hy rfl, q1, q2.1, q2.2.1⟩
  have Hn := hidP hn
  have hlt : Hid (w.heap.size ∉ F1 ++ (F2 ++ F3)) := by
    show w.heap.size ∉ F1 ++ (F2 ++ F3)
    intro hx
    simp only [List.mem_append] at hx
    rcases hx with hx | hx | hx
    · have := s1.lt _ hx; omega
    · have := s2.lt _ hx; omega
    · have := s3.lt _ hx; omega
  clear s1 s2 s3 hn
  have p0 := Blk.new w 26 #[.int .i64 gen, .slice a1 m.length c1, .slice a2 b.length c2, .slice a3 o.length c3]
  go_enter Try.func11, Try.ntmps11
  go_wp2_with fail
  refine (mark_sl a1 c1 m F1 1 (by omega) (by omega) hm _ (H1.out.below (by repeat (first | exact Below.refl _ _ | assumption | refine via0 (by assumption) ?_ | refine Below.drew ?_ | refine alloc0 ?_ _)))).mono ?_
  rintro e w1 ⟨rfl, f1, r1⟩
  have HF1 := hidP f1
  have R1 := hidP r1
  have p1 := p0.off f1 (fun hx => hlt.out (by simp [hx]))
  have R2 := hidP ((H2.out.below (alloc0 (Below.refl _ _) _)).off f1 (fun x hx hy => hd.out.1 x hy (by simp [hx])))
  have R3 := hidP ((H3.out.below (alloc0 (Below.refl _ _) _)).off f1 (fun x hx hy => hd.out.1 x hy (by simp [hx])))
  clear f1 r1
  obtain ⟨u0, u1, u2, u3⟩ := p1.row4
  go_wp2_with fail
  refine (mark_sl a2 c2 b F2 (1 + (m.length : Int)) (by omega) (by omega) hb _ R2.out).mono ?_
  rintro e w2 ⟨rfl, f2, r2⟩
  have HF2 := hidP f2
  have S2 := hidP r2
  have p2 := p1.off f2 (fun hx => hlt.out (by simp [hx]))
  have S1 := hidP (R1.out.off f2 (fun x hx hy => hd.out.1 x hx (by simp [hy])))
  have S3 := hidP (R3.out.off f2 (fun x hx hy => hd.out.2.1 x hy hx))
  clear f2 r2 u0 u1 u2 u3
  obtain ⟨u0, u1, u2, u3⟩ := p2.row4
  go_wp2_with fail
  refine (mark_sl a3 c3 o F3 (1 + (m.length : Int) + (b.length : Int)) (by omega) (by omega) ho _ S3.out).mono ?_
  rintro e w3 ⟨rfl, f3, r3⟩
  have HF3 := hidP f3
  have T3 := hidP r3
  have T1 := hidP (S1.out.off f3 (fun x hx hy => hd.out.1 x hx (by simp [hy])))
  have T2 := hidP (S2.out.off f3 (fun x hx hy => hd.out.2.1 x hx hy))
  clear f3 r3 u0 u1 u2 u3
  go_wp2
  go_ret
  refine ⟨rfl, ?_, F1, F2, F3, rfl, T1.out, T2.out, T3.out, Hn.out⟩
  have := (((Off.of_below (alloc0 (Below.refl _ w) _)).trans HF1.out).trans HF2.out).trans HF3.out
  simpa using this

set_option maxRecDepth 100000 in
theorem heldGroup_any (gen : Int) (a1 a2 a3 : Option Addr) (c1 c2 c3 nm nb no : Nat) (F : List Nat) (hm : nm ≤ 2000000) (hb : nb ≤ 2000000) (ho : no ≤ 2000000) (w : World) (h : Gp w a1 a2 a3 (marksInt nm 1) (marksInt nb (1 + (nm : Int))) (marksInt no (1 + (nm : Int) + (nb : Int))) F) :
    Calls Try.prog 12 #[.agg #[.int .i64 gen, .slice a1 nm c1, .slice a2 nb c2, .slice a3 no c3], .int .i64 1] w
      fun e w' => e = .returned (.int .i64 (1 + (nm : Int) + (nb : Int) + (no : Int))) ∧ Below w.heap.size w w' := by
  have H := hidP h
  clear h
  have aux : ∀ (a : Option Addr) (n : Nat) (k : Int) (W : World), At W a (marksInt n k) → n = 0 ∨ ∃ b o, a = some ⟨b, o, none⟩ ∧ b < W.heap.size ∧ In W b o (marksInt n k) := by
    intro a n k W hA
    rcases hA with h | h
    · left
      have := congrArg List.length h
      simpa [marksInt_length] using this
    · exact .inr h
  have Haux := hidP aux
  clear aux
  go_enter Try.func12, Try.ntmps12
  go_wp2_with fail
  have p0 := Blk.new w 26 #[.int .i64 gen, .slice a1 nm c1, .slice a2 nb c2, .slice a3 no c3]
  refine (heldInt_any a1 c1 nm 1 (by omega) (by omega) hm _ (Haux.out _ _ _ _ (H.out.at1.below (by repeat (first | exact Below.refl _ _ | assumption | refine via0 (by assumption) ?_ | refine Below.drew ?_ | refine alloc0 ?_ _))))).mono ?_
  rintro e w1 ⟨rfl, g1⟩
  have B1 : Below w.heap.size w w1 := by repeat (first | exact Below.refl _ _ | assumption | refine via0 (by assumption) ?_ | refine Below.drew ?_ | refine alloc0 ?_ _)
  have p1 := p0.below g1 p0.lt
  obtain ⟨u0, u1, u2, u3⟩ := p1.row4
  have k1 : ¬ (1 + (nm : Int) < 0) := by omega
  go_wp2_with fail
  refine (heldInt_any a2 c2 nb (1 + (nm : Int)) (by omega) (by omega) hb _ (Haux.out _ _ _ _ (H.out.at2.below B1))).mono ?_
  rintro e w2 ⟨rfl, g2⟩
  have B2 : Below w.heap.size w w2 := via0 g2 B1
  have p2 := p1.below g2 p1.lt
  clear u0 u1 u2 u3
  obtain ⟨u0, u1, u2, u3⟩ := p2.row4
  have k2 : ¬ (1 + (nm : Int) + (nb : Int) < 0) := by omega
  go_wp2_with fail
  refine (heldInt_any a3 c3 no (1 + (nm : Int) + (nb : Int)) (by omega) (by omega) ho _ (Haux.out _ _ _ _ (H.out.at3.below B2))).mono ?_
  rintro e w3 ⟨rfl, g3⟩
  have B3 : Below w.heap.size w w3 := via0 g3 B2
  have k3 : ¬ (1 + (nm : Int) + (nb : Int) + (no : Int) < 0) := by omega
  go_wp2
  go_ret
  exact ⟨rfl, B3⟩
end Go.Proofs.Ytllmaiefjgfpmaa.Gen
