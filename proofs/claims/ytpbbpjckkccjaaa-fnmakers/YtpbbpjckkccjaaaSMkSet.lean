/-
  The specification's MakerSet at this seat. No condition but that there are at most 1048576.
-/
import Derived.Test.YtpbbpjckkccjaaaMkRange
import Derived.Test.YtpbbpjckkccjaaaPutParts
import Derived.Test.YtpbbpjckkccjaaaMakList2
namespace Go.Proofs.Ytpbbpjckkccjaaa.Gen
open Go.ChangeShapes Go.WideShapes Go.ChangeAt Go.RowKit Go.Joins Go.Deep Base
set_option linter.unusedVariables false
set_option linter.unusedSimpArgs false

/-! ### What it comes to -/
def stepS (m : PM) (s : List PM × Bool) (x : PM) : List PM × Bool :=
  if x.row = m.row ∧ x.who = m.who then (if s.2 then s else (s.1 ++ [m], true))
  else if s.2 = false ∧ behK x.row x.who m.row m.who = true then (s.1 ++ [m] ++ [x], true) else (s.1 ++ [x], s.2)
def foldS (m : PM) (l : List PM) : List PM × Bool := l.foldl (stepS m) ([], false)
def setS (l : List PM) (m : PM) : List PM := if (foldS m l).2 then (foldS m l).1 else (foldS m l).1 ++ [m]
theorem foldS_snoc (m : PM) (l : List PM) (n : Nat) (h : n < l.length) : foldS m (l.take (n + 1)) = stepS m (foldS m (l.take n)) l[n] := by
  unfold foldS
  rw [List.take_succ_eq_append_getElem h, List.foldl_append]; rfl

/-! ### What is under way -/
structure Out (B : Nat) (W : World) (v : Value) (O : List MC) : Prop where
  own : W.ownsRow B 26 5 v O.length (flat O)
  each : ∀ x ∈ O, W.ownsRow B 61 2 (.slice x.A x.ms.length x.cap) x.ms.length (flat x.ms)
theorem Out.below {B : Nat} {W W' : World} {v : Value} {O : List MC} (h : Out B W v O) (k : Below W.heap.size W W') : Out B W' v O :=
  ⟨owns_offp h.own (Offp.of_below (S := fun _ => False) k) (fun _ _ e => e), fun x hx => owns_offp (h.each x hx) (Offp.of_below (S := fun _ => False) k) (fun _ _ e => e)⟩
theorem owns_two {B B' : Nat} {W : World} {v u : Value} {t t' : TypeId} {k k' n n' : Nat} {xs ys : List Value} (h : W.ownsRow B t k v n xs) (h' : W.ownsRow B' t' k' u n' ys) (ht : t ≠ t') : ∀ x, v.ownBlock = some x → u.ownBlock ≠ some x := by
  intro x hx hx'
  rcases h.2 with ⟨rfl, _⟩ | ⟨g, c, cur, rfl, _, hg, _⟩
  · cases hx
  rcases h'.2 with ⟨rfl, _⟩ | ⟨g', c', cur', rfl, _, hg', _⟩
  · cases hx'
  simp [Value.ownBlock] at hx hx'
  subst hx hx'
  rw [hg] at hg'
  cases hg'
  exact ht rfl
theorem owns_base {B : Nat} {W : World} {v : Value} {t : TypeId} {k n : Nat} {xs : List Value} (h : W.ownsRow B t k v n xs) : ∀ x, v.ownBlock = some x → B ≤ x ∧ x < W.heap.size := fun x hx => h.lt x hx
structure MS (w W : World) (xc : Array Value) (v : Value) (O : List MC) : Prop where
  bl : Below w.heap.size w W
  box : Blk W w.heap.size 26 xc
  out : Out (w.heap.size + 1) W v O
theorem MS.below {w W W' : World} {xc : Array Value} {v : Value} {O : List MC} (h : MS w W xc v O) (k : Below W.heap.size W W') : MS w W' xc v O := ⟨via0 k h.bl, h.box.below k h.box.lt, h.out.below k⟩
/-- One more, copied, appended. -/
theorem MS.app {w W w1 : World} {xs : Array Value} {v : Value} {O : List MC} (h : MS w W xs v O) (k : Below W.heap.size W w1) {row who epoch last : Int} {xa : Option Addr} {xcc : Nat} {ms : List Mk} (hm : w1.ownsRow W.heap.size 61 2 (.slice xa ms.length xcc) ms.length (flat ms)) (hO : O.length ≤ 2000000) :
    ∃ g c w2, (Builtin.append_ #[30, 30] 30 #[v, .slice (some ⟨w1.heap.size, 0, none⟩) 1 1]).run Try.prog (w1.alloc (.cells #[.int .i64 row, .int .i64 who, .int .i64 epoch, .int .i64 last, .slice xa ms.length xcc] 26)) = .ok (.slice (some ⟨g, 0, none⟩) (O.length + 1) c) w2 ∧
      MS w w2 xs (.slice (some ⟨g, 0, none⟩) (O.length + 1) c) (O ++ [⟨row, who, epoch, last, xa, xcc, ms⟩]) ∧ (∀ b ys, Blk W b 26 ys → v.ownBlock ≠ some b → Blk w2 b 26 ys ∧ g ≠ b) := by
  have k2 : Below W.heap.size W (w1.alloc (.cells #[.int .i64 row, .int .i64 who, .int .i64 epoch, .int .i64 last, .slice xa ms.length xcc] 26)) := alloc0 k _
  have h2 := h.below k2
  have hX : At (w1.alloc (.cells #[.int .i64 row, .int .i64 who, .int .i64 epoch, .int .i64 last, .slice xa ms.length xcc] 26)) (some ⟨w1.heap.size, 0, none⟩) [(⟨row, who, epoch, last, xa, xcc, ms⟩ : MC)] := by
    refine .inr ⟨_, 0, rfl, by simp, fun j u hu => ?_⟩
    rw [flat_one] at hu
    rw [Nat.zero_add]
    exact (Blk.new w1 26 _).cell (by simpa [Cel.cs] using hu)
  have hm2 := owns_offp hm (Offp.of_below (S := fun _ => False) (alloc0 (Below.refl _ w1) (.cells #[.int .i64 row, .int .i64 who, .int .i64 epoch, .int .i64 last, .slice xa ms.length xcc] 26))) (fun _ _ e => e)
  have hwB : w.heap.size + 1 ≤ W.heap.size := h.box.lt
  obtain ⟨v', w2, hr, hown, hgrow, hat⟩ := append_els (P := Try.prog) Try.underlying30 infoMC rfl (by decide) (by decide) (w.heap.size + 1) v O [(⟨row, who, epoch, last, xa, xcc, ms⟩ : MC)] (some ⟨w1.heap.size, 0, none⟩) 1 _ (by have := k2.size; simp at this ⊢; omega) h2.out.own hX (by simp; omega)
  simp only [List.length_cons, List.length_nil, Nat.zero_add] at hown hr
  obtain ⟨g, c, rfl, hB, hlt⟩ := hown.form (by omega)
  have ko := offp_grown hgrow
  have hbase := owns_base h2.out.own
  refine ⟨g, c, w2, hr, ⟨h2.bl.trans (ko.toBelow (fun x hx => by have := hbase x hx; omega) h2.bl.size), h2.box.offp ko (fun e => by have := hbase _ e; omega), ⟨owns_n (by simp) hown, ?_⟩⟩, ?_⟩
  · intro x hx
    rcases List.mem_append.1 hx with hx | hx
    · exact owns_offp (h2.out.each x hx) ko (owns_two (h2.out.each x hx) h2.out.own (by decide))
    · simp only [List.mem_singleton] at hx
      subst hx
      exact owns_mono (owns_offp hm2 ko (owns_two hm2 h2.out.own (by decide))) hwB
  · intro b ys hb hne
    refine ⟨((hb.below k hb.lt).alloc _).offp ko hne, fun e => ?_⟩
    subst e
    rcases hat with e | e
    · exact hne (e ▸ rfl)
    · have e2 : g = w1.heap.size + 1 := by simpa [Value.ownBlock] using e
      have := hb.lt; have := k.size; omega
end Go.Proofs.Ytpbbpjckkccjaaa.Gen
