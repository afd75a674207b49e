/-
  A region that draws its order, of parts that each lie in memory of their own: in whatever order they are made, it comes to one end. No condition.
-/
import Derived.Test.YtmdaammalacifaaGreatSpC1
set_option linter.unusedVariables false
set_option linter.unusedSimpArgs false
set_option maxRecDepth 100000
set_option maxHeartbeats 8000000
namespace Go.Proofs.YtmdaammalacifaaGreat.Gen
open ChangeShapes WideShapes ChangeAt RowKit Joins Deep Base
structure Fm (Q : World -> (Nat -> Prop) -> Prop) : Prop where
  off : ∀ W W' S T, Q W S -> Offp T W W' -> (∀ z, S z -> ¬ T z) -> Q W' S
  mono : ∀ W S S', Q W S -> (∀ z, S z -> S' z) -> Q W S'
section
variable {n : Nat} {W W' : World} {Part : Nat -> Value -> World -> (Nat -> Prop) -> Prop} {m : Nat -> Bool} {v : Nat -> Value}
end
theorem any_meet {Pg : Program} {md : Region.Mode} {ops : Array Oper} {Q : Go.Exit -> Act -> World -> Prop} {S : World -> Prop} {n0 : Nat} {l0 : Array Bool} {a0 : Act} {w0 : World} (n1 : Nat) (l1 : Array Bool) (T : Act -> World -> Prop) (tail : ∀ a w, T a w -> S w -> wpAnyH Pg md ops Q S n1 l1 a w)
 (tree : (∀ a w, T a w -> S w -> wpAnyH Pg md ops Q S n1 l1 a w) -> wpAnyH Pg md ops Q S n0 l0 a0 w0) : wpAnyH Pg md ops Q S n0 l0 a0 w0 := tree tail
theorem any_at {Pg : Program} {md : Region.Mode} {ops : Array Oper} {Q : Go.Exit -> Act -> World -> Prop} {S : World -> Prop} {n1 : Nat} {l l1 : Array Bool} {T : Act -> World -> Prop} {a : Act} {w : World} (h : ∀ a w, T a w -> S w -> wpAnyH Pg md ops Q S n1 l1 a w) (hl : l = l1) (hT : T a w) (hS : S w) : wpAnyH Pg md ops Q S n1 l a w := hl ▸ h a w hT hS
end Go.Proofs.YtmdaammalacifaaGreat.Gen
namespace Go.Proofs.YtmdaammalacifaaGreat.Gen
open ChangeShapes WideShapes ChangeAt RowKit Joins Deep Base
theorem Qca {α : Type} [Cel α] (a : Option Addr) (l : List α) : Fm (fun W S => Sub W a l S) := ⟨fun _ _ _ _ h k d => h.offp k d, fun _ _ _ h s => h.mono s⟩
theorem fmK (x : KC) : Fm (fun W S => KOwn W x S) := ⟨fun _ _ _ _ h k d => h.offp k d, fun _ _ _ h s => h.mono s⟩
def Em (g : Nat) (t : TypeId) (W : World) (S : Nat -> Prop) : Prop := Blk W g t #[] /\ S g
theorem fmE (g : Nat) (t : TypeId) : Fm (Em g t) := ⟨fun _ _ _ _ h k d => ⟨h.1.offp k (d _ h.2), h.2⟩, fun _ _ _ h s => ⟨h.1, s _ h.2⟩⟩
def Tg (w W : World) (col : Nat -> Nat) (k z : Nat) : Prop := (w.heap.size + 2 <= z /\ z < W.heap.size) /\ col z = k
def updP (P : Nat -> World -> (Nat -> Prop) -> Prop) (k : Nat) (Q : World -> (Nat -> Prop) -> Prop) : Nat -> World -> (Nat -> Prop) -> Prop := fun j => if j = k then Q else P j
structure Cx (w W : World) (P : Nat -> World -> (Nat -> Prop) -> Prop) : Prop where
  fm : ∀ j, Fm (P j)
  hw : w.heap.size + 2 <= W.heap.size
  co : ∃ col, ∀ j, P j W (Tg w W col j)
section
variable {w W W' : World} {P : Nat -> World -> (Nat -> Prop) -> Prop}
theorem Cx.start (hw : w.heap.size + 2 <= W.heap.size) : Cx w W (fun _ _ _ => True) := ⟨fun _ => ⟨fun _ _ _ _ _ _ _ => trivial, fun _ _ _ _ _ => trivial⟩, hw, fun _ => 0, fun _ => trivial⟩
theorem Cx.fresh2 (C : Cx w W P) (g : Below W.heap.size W W') (cc : Nat -> Bool) (k k' : Nat) (hkk : k ≠ k') {Q Q' : World -> (Nat -> Prop) -> Prop} (hQ : Fm Q) (hQ' : Fm Q') (q : Q W' (fun z => (W.heap.size <= z /\ z < W'.heap.size) /\ cc z = true)) (q' : Q' W' (fun z => (W.heap.size <= z /\ z < W'.heap.size) /\ cc z = false)) : Cx w W' (updP (updP P k Q) k' Q') := by
 obtain ⟨fm, hw, col, co⟩ := C
 have hs := g.size
 refine ⟨fun j => ?_, by omega, fun z => if z < W.heap.size then col z else if cc z then k else k', fun j => ?_⟩
 . unfold updP; (repeat' split)<;>first | assumption | exact fm _
 . unfold updP
   split
   . rename_i e; subst e
     exact hQ'.mono _ _ _ q' (fun z hz => ⟨⟨by omega, hz.1.2⟩, by dsimp only; rw [if_neg (by omega), hz.2]; rfl⟩)
   . split
     . rename_i e; subst e
       exact hQ.mono _ _ _ q (fun z hz => ⟨⟨by omega, hz.1.2⟩, by dsimp only; rw [if_neg (by omega), hz.2]; rfl⟩)
     . exact (fm j).mono _ _ _ ((fm j).off _ _ _ (fun _ => False) (co j) (Offp.of_below g) (fun _ _ e => e)) (fun z hz => ⟨⟨hz.1.1, by have := hz.1.2; omega⟩, by dsimp only; rw [if_pos hz.1.2]; exact hz.2⟩)
theorem Cx.fresh (C : Cx w W P) (g : Below W.heap.size W W') (k : Nat) {Q : World -> (Nat -> Prop) -> Prop} (hQ : Fm Q) (q : Q W' (fun z => W.heap.size <= z /\ z < W'.heap.size)) : Cx w W' (updP P k Q) := by
 obtain ⟨fm, hw, col, co⟩ := C
 have hs := g.size
 refine ⟨fun j => ?_, by omega, fun z => if z < W.heap.size then col z else k, fun j => ?_⟩
 . unfold updP; split<;>first | assumption | exact fm _
 . unfold updP
   split
   . rename_i e; subst e
     exact hQ.mono _ _ _ q (fun z hz => ⟨⟨by omega, hz.2⟩, by dsimp only; rw [if_neg (by omega)]⟩)
   . exact (fm j).mono _ _ _ ((fm j).off _ _ _ (fun _ => False) (co j) (Offp.of_below g) (fun _ _ e => e)) (fun z hz => ⟨⟨hz.1.1, by have := hz.1.2; omega⟩, by dsimp only; rw [if_pos hz.1.2]; exact hz.2⟩)
theorem Cx.made (C : Cx w W P) (k : Nat) (t : TypeId) {g : Nat} (hg : W.heap.size = g) : Cx w (W.alloc (.cells #[] t)) (updP P k (Em g t)) := by
 subst hg
 exact C.fresh (Qab (Below.refl _ _) _) k (fmE _ _) ⟨Blk.new W _ _, Nat.le_refl _, by simp⟩
end
end Go.Proofs.YtmdaammalacifaaGreat.Gen
namespace Go.Proofs.YtmdaammalacifaaGreat.Gen
open ChangeShapes WideShapes ChangeAt RowKit Joins Deep Base
section
variable {w W W' : World} {P : Nat -> World -> (Nat -> Prop) -> Prop}
theorem Cx.app {α : Type} [Cel α] {pg : Program} {ts t : TypeId} {z : Value} {bytes : Nat} (hu : pg.underlying ts = some (.slice t)) (hinfo : (pg.info? t).map (fun i => (i.zero, i.size, i.bytes)) = some (some z, Cel.k α, bytes)) (hz : z.cells.size = Cel.k α) (hk : 0 < Cel.k α) (hby : bytes <= 1000)
 (C : Cx w W P) (k g : Nat) (hP : P k = Em g t) (A : Option Addr) (cap : Nat) (l : List α) (hA : At W A l) (hl : l.length <= 1048576) :
 ∃ a c W', (Builtin.append_ #[ts, ts] ts #[.slice (some ⟨g, 0, none⟩) 0 0, .slice A l.length cap]).run pg W = .ok (.slice a l.length c) W' /\ Cx w W' (updP P k (fun W S => Sub W a l S)) /\ ∀ t' zs vs, Bx2 w W t' zs vs -> Bx2 w W' t' zs vs := by
 obtain ⟨fm, hw, col, co⟩ := C
 have hg := co k
 rw [hP] at hg
 obtain ⟨hb, ⟨hg1, hg2⟩, hgc⟩ := hg
 have own : W.ownsRow g t (Cel.k α) (.slice (some ⟨g, 0, none⟩) 0 0) ([] : List α).length (flat ([] : List α)) := ⟨by simp [flat], .inr ⟨g, 0, #[], rfl, Nat.le_refl _, hb, Nat.le_refl _, by simp [maxLen], by simp, by simp [flat]⟩⟩
 obtain ⟨v, W', hr, hown, hgrow, hob⟩ := Qa0 (P := pg) hu hinfo hz hk hby g (.slice (some ⟨g, 0, none⟩) 0 0) ([] : List α) l A cap W (by omega) own hA (by simp; omega)
 simp only [List.length_nil, Nat.zero_add, List.nil_append] at hown
 obtain ⟨a, c, rfl, _⟩ := Qar hown
 have ko := Qcv hgrow
 have kg : Offp (fun z => z = g) W W' := ko.mono (fun z e => by simpa [Value.ownBlock] using e.symm)
 have hs := kg.size
 refine ⟨a, c, W', hr, ⟨fun j => ?_, by omega, fun z => if z < W.heap.size then col z else k, fun j => ?_⟩, fun t' zs vs b => ⟨b.bl.trans (kg.toBelow (fun z e => by omega) b.bl.size), b.p1.offp kg (by omega), b.p2.offp kg (by omega)⟩⟩
 . unfold updP; split<;>first | exact Qca _ _ | exact fm _
 . unfold updP
   split
   . rename_i e; subst e
     by_cases h0 : 0 < l.length
     . obtain ⟨b, h1, h2, h3⟩ := Pl.of_own hown h0
       have hbb : b = g ∨ b = W.heap.size := by
        rcases hob with e | e
        . rw [h3] at e; left; simpa [Value.ownBlock] using e
        . rw [h3] at e; right; simpa using e
       refine .inr ⟨b, 0, h1.a, ⟨⟨by omega, h1.lt⟩, ?_⟩, h1.lt, h1.i, h1.th⟩
       rcases hbb with e | e
       . subst e; simp only; rw [if_pos hg2]; exact hgc
       . subst e; simp
     . exact .inl (List.length_eq_zero_iff.1 (by omega))
   . rename_i hjk
     refine (fm j).mono _ _ _ ((fm j).off _ _ _ _ (co j) kg (fun z hz e => hjk (by subst e; rw [← hz.2, ← hgc]))) (fun z hz => ⟨⟨hz.1.1, by have := hz.1.2; omega⟩, by dsimp only; rw [if_pos hz.1.2]; exact hz.2⟩)
end
def NewG (w w' : World) (v : Value) (p : PC) : Prop := ∃ (q : PC) (B : Nat), v = .agg (Qaf q) /\ SameP q p /\ POwn w' ({ q with hs := [] } : PC) (fun z => w.heap.size <= z /\ z < B) /\ w.heap.size <= B /\ GU rpcP 64 B B w' q.hA q.hc q.hs
theorem POwn.hold2 {W : World} {q : PC} {S T : Nat -> Prop} {B : Nat} {a : Option Addr} {c : Nat} {hs' : List RpC} (h : POwn W q S) (hS : ∀ z, S z -> z < B) (hST : ∀ z, S z -> T z) (ho : Own rpcP W a hs' (fun z => B <= z /\ z < W.heap.size)) (hT : ∀ z, B <= z -> z < W.heap.size -> T z) :
 POwn W ({ q with hA := a, hc := c, hs := hs' } : PC) T := by
 obtain ⟨col, h⟩ := h
 have m : ∀ i z, S z /\ col z = i -> T z /\ (if z < B then col z else 8) = i := fun i z hz => ⟨hST z hz.1, by rw [if_pos (hS z hz.1)]; exact hz.2⟩
 exact ⟨fun z => if z < B then col z else 8, h.l.mono (m 1), h.x.mono (m 2), h.v.mono (m 3), h.n.mono (m 4), h.q.mono (m 5), h.y.mono (m 6), h.d.mono (m 7), ho.mono (fun z hz => ⟨hT z hz.1 hz.2, by rw [if_neg (by have := hz.1; omega)]⟩)⟩
theorem Cx.five {w W : World} {Q1 Q2 Q3 Q4 Q5 : World -> (Nat -> Prop) -> Prop} (f1 : Fm Q1) (f2 : Fm Q2) (f3 : Fm Q3) (f4 : Fm Q4) (f5 : Fm Q5) (hw : w.heap.size + 2 <= W.heap.size) (col : Nat -> Nat) (h1 : Q1 W (Tg w W col 1)) (h2 : Q2 W (Tg w W col 2)) (h3 : Q3 W (Tg w W col 3)) (h4 : Q4 W (Tg w W col 4)) (h5 : Q5 W (Tg w W col 5)) :
 Cx w W (updP (updP (updP (updP (updP (fun _ _ _ => True) 1 Q1) 2 Q2) 3 Q3) 4 Q4) 5 Q5) := by
 refine ⟨fun j => ?_, hw, col, fun j => ?_⟩
 . unfold updP; (repeat' split)<;>first | assumption | exact ⟨fun _ _ _ _ _ _ _ => trivial, fun _ _ _ _ _ => trivial⟩
 . unfold updP
   (repeat' split)<;>first | trivial | (rename_i e; subst e; assumption)
end Go.Proofs.YtmdaammalacifaaGreat.Gen
