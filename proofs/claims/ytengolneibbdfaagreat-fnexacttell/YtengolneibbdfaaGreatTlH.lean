/-
  For Tell: what the program's holding makes of a node at work. No condition but that there are at most 1048576.
-/
import Derived.Test.YtengolneibbdfaaGreatTlP
namespace Go.Proofs.YtengolneibbdfaaGreat.Gen
open Go.ChangeShapes Go.WideShapes Go.ChangeAt Go.RowKit Go.Joins Go.Deep Base
set_option linter.unusedVariables false
set_option linter.unusedSimpArgs false
def rpcC (r : RpC) : Array Value := #[.int .i64 r.kind, .int .i64 r.frm, .int .i64 r.too, .int .i64 r.term, .int .i64 r.index, .int .i64 r.iterm, .int .i64 r.commit, .slice r.A r.l.length r.cap, .bool r.ok, .string r.snap]
theorem rpcC_one (r : RpC) : (rpcC r).all (·.oneCell') = true := by simp [rpcC, Value.oneCell']
theorem at_one {W : World} {B : Nat} {t : TypeId} {r : RpC} (h : Blk W B t (rpcC r)) : At W (some ⟨B, 0, none⟩) [r] := by
  refine .inr ⟨_, 0, rfl, h.lt, fun j u hu => ?_⟩
  rw [flat_one] at hu
  rw [Nat.zero_add]
  exact h.cell (by rw [← Array.getElem?_toList]; exact hu)
def Okb (w : World) (P : Nat) (W : World) (z : Nat) : Prop := w.heap.size + 2 < z /\ z < W.heap.size /\ z ≠ P
theorem POwn.mono {W : World} {p : PC} {S T : Nat -> Prop} (h : POwn W p S) (s : ∀ b, S b -> T b) : POwn W p T := by
  obtain ⟨c, h⟩ := h
  exact ⟨c, h.l.mono (fun b hb => ⟨s b hb.1, hb.2⟩), h.x.mono (fun b hb => ⟨s b hb.1, hb.2⟩), h.v.mono (fun b hb => ⟨s b hb.1, hb.2⟩), h.n.mono (fun b hb => ⟨s b hb.1, hb.2⟩), h.q.mono (fun b hb => ⟨s b hb.1, hb.2⟩), h.y.mono (fun b hb => ⟨s b hb.1, hb.2⟩), h.d.mono (fun b hb => ⟨s b hb.1, hb.2⟩), h.h.mono (fun b hb => ⟨s b hb.1, hb.2⟩)⟩
theorem held_len {a b : List RpC} (h : a.map RpC.p = b.map RpC.p) : a.length = b.length := by have := congrArg List.length h; simpa using this
theorem held_fit {a b : List RpC} {N : Nat} (h : a.map RpC.p = b.map RpC.p) (hb : ∀ z ∈ b, z.l.length <= N) : ∀ z ∈ a, z.l.length <= N := by
  intro z hz
  have h1 : z.p ∈ b.map RpC.p := h ▸ List.mem_map_of_mem hz
  obtain ⟨y, hy, e⟩ := List.mem_map.1 h1
  have : y.l = z.l := congrArg RpP.l e
  rw [← this]; exact hb y hy
theorem POwn.hold {W w' : World} {q : PC} {S T : Nat -> Prop} {a : Option Addr} {c : Nat} {hs' : List RpC} (h : POwn W q S) (hS : ∀ z, S z -> z < W.heap.size) (hST : ∀ z, S z -> T z) (g : Below W.heap.size W w') (ho : Own rpcP w' a hs' (fun z => W.heap.size <= z /\ z < w'.heap.size)) (hT : ∀ z, W.heap.size <= z -> z < w'.heap.size -> T z) :
    POwn w' ({ q with hA := a, hc := c, hs := hs' } : PC) T := by
  obtain ⟨col, h⟩ := h
  have m : ∀ i z, S z /\ col z = i -> T z /\ (if z < W.heap.size then col z else 8) = i := fun i z hz => ⟨hST z hz.1, by rw [if_pos (hS z hz.1)]; exact hz.2⟩
  exact ⟨fun z => if z < W.heap.size then col z else 8, (h.l.below g).mono (m 1), (h.x.below g).mono (m 2), (h.v.below g).mono (m 3), (h.n.below g).mono (m 4), (h.q.below g).mono (m 5), (h.y.below g).mono (m 6), (h.d.below g).mono (m 7), ho.mono (fun z hz => ⟨hT z hz.1 hz.2, by rw [if_neg (by have := hz.1; omega)]⟩)⟩
set_option maxHeartbeats 1000000 in
theorem holdQ (w : World) (p q : PC) (r : RpC) (P B : Nat) (t : TypeId) (size : Int) (hf : PFit p) (hr : r.l.length <= 1048576) (W : World) (sq : SameP q p) (oq : POwn W q (Okb w P W)) (hP : P < W.heap.size) (hw : w.heap.size + 2 < W.heap.size) (hB : Blk W B t (rpcC r)) (ha : At W r.A r.l) :
    Calls Tryz.prog 50 #[.agg (nodeC q size (heldV q)), .slice (some ⟨B, 0, none⟩) 1 1] W fun e w' => ∃ q' : PC, e = .returned (.tuple #[.agg (nodeC q' size (heldV q')), .bool (decide (p.hs.length < 40))]) /\ SameP q' (tellP p r) /\ POwn w' q' (Okb w P w') /\ Below W.heap.size W w' := by
  have hl := held_len sq.hs
  have hfh := hf.hl
  refine (holding_any (nodeC q size (heldV q)) rfl (nodeC_one _ _ _ rfl) q.hA (some ⟨B, 0, none⟩) q.hc 1 q.hs [r] (nodeC_held _ _ _) (by omega) (by simp) (by simp) (fun x hx => ?_) W oq.at.ha (at_one hB) (fun x hx => ?_)).mono ?_
  . rcases List.mem_append.1 hx with h | h
    . exact held_fit sq.hs hf.hi x h
    . simp at h; subst h; exact hr
  . rcases List.mem_append.1 hx with h | h
    . exact oq.at.he x h
    . simp at h; subst h; exact ha
  . rintro e w' h
    unfold ToldHo at h
    by_cases hgt : 40 < (q.hs ++ [r]).length
    . rw [if_pos hgt] at h
      obtain ⟨rfl, g⟩ := h
      have h40 : 40 <= p.hs.length := by simp at hgt; omega
      refine ⟨q, by rw [decide_eq_false (by omega)], ?_, (oq.below g).mono (fun z hz => ⟨hz.1, Nat.lt_of_lt_of_le hz.2.1 g.size, hz.2.2⟩), g⟩
      unfold tellP
      rw [if_pos h40]
      exact sq
    . rw [if_neg hgt] at h
      obtain ⟨a, c, hs', rfl, g, hp, ho⟩ := h
      have h40 : ¬ 40 <= p.hs.length := by simp at hgt; omega
      have hl' := held_len hp
      refine ⟨{ q with hA := a, hc := c, hs := hs' }, ?_, ?_, oq.hold (fun z hz => hz.2.1) (fun z hz => ⟨hz.1, Nat.lt_of_lt_of_le hz.2.1 g.size, hz.2.2⟩) g ho (fun z h1 h2 => ⟨by omega, h2, by omega⟩), g⟩
      . rw [decide_eq_true (by omega), nodeC_set, ← hl']
        rfl
      . unfold tellP
        rw [if_neg h40]
        exact ⟨sq.id, sq.te, sq.vo, sq.base, sq.bt, sq.l, sq.x, sq.role, sq.vs, sq.ns, sq.ps, sq.com, sq.y, sq.db, sq.su, by show hs'.map RpC.p = (p.hs ++ [r]).map RpC.p; rw [hp, List.map_append, List.map_append, sq.hs]⟩
end Go.Proofs.YtengolneibbdfaaGreat.Gen
