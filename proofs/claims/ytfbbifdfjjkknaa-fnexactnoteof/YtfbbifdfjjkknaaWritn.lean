/-
  What is written by a function that is handed a writer: its bytes, in memory of their own; nothing where it panics. No condition.
-/
import Derived.Test.YtfbbifdfjjkknaaTried
namespace Go.Proofs.Ytfbbifdfjjkknaa.Gen
open Go.ChangeShapes Go.WideShapes Go.ChangeAt Go.RowKit Go.Joins Go.Deep Base
set_option linter.unusedVariables false

/-- What a function does with a writer: it writes L, or panics; what is kept stays. -/
def WEnd (P : Nat → Prop) (b : Nat) (W' : World) (e : Ending) : Option (List UInt8) → Prop
  | some L => e = .returned (.tuple #[]) ∧ Wr P b W' L
  | none => ∃ t v, e = .panicked [{ v := .iface t v, recovered := false }]
def Writes (f : FuncId) (cap : Array Value) (o : Option (List UInt8)) (P : Nat → Prop) (b : Nat) (W : World) : Prop :=
  Calls Try.prog f (#[.pointer (some ⟨b, 0, none⟩)] ++ cap) W fun e W' => Turn P W W' ∧ WEnd P b W' e o

theorem owns_baseB {B : Nat} {W : World} {v : Value} {t : TypeId} {k n : Nat} {xs : List Value} (h : W.ownsRow 0 t k v n xs) (hB : ∀ g, v.ownBlock = some g → B ≤ g) : W.ownsRow B t k v n xs := by
  refine ⟨h.1, ?_⟩
  rcases h.2 with ⟨rfl, rfl⟩ | ⟨g, c, cur, rfl, _, hg, hc, hm, hsz, ht⟩
  · exact .inl ⟨rfl, rfl⟩
  · exact .inr ⟨g, c, cur, rfl, hB g rfl, hg, hc, hm, hsz, ht⟩
theorem owns_onlyB {B b : Nat} {W W' : World} {v : Value} {t : TypeId} {k n : Nat} {xs : List Value} (h : W.ownsRow B t k v n xs) (hb : Only b W W') (hlt : b < B) : W'.ownsRow B t k v n xs := by
  refine ⟨h.1, ?_⟩
  rcases h.2 with ⟨rfl, rfl⟩ | ⟨g, c, cur, rfl, hB, hg, hc, hm, hsz, ht⟩
  · exact .inl ⟨rfl, rfl⟩
  · exact .inr ⟨g, c, cur, rfl, hB, Blk.only (show Blk W g t cur from hg) hb (by omega), hc, hm, hsz, ht⟩

theorem written1_any (f : FuncId) (cap : Array Value) (o : Option (List UInt8)) (P : Nat → Prop) (b z y : Nat) (W : World) (hcf : ∀ (p : Value) (W : World), (callFunc f (#[p] ++ cap)).run Try.prog W = .ok (.enter f (#[p] ++ cap)) W)
    (p : Blk W z 63 #[.func (.func f) #[] cap]) (q : Blk W y 61 #[.pointer (some ⟨b, 0, none⟩)]) (h : Writes f cap o P b W) :
    Calls Try.prog 55 #[.pointer (some ⟨z, 0, none⟩), .pointer (some ⟨y, 0, none⟩)] W fun e W' => Turn P W W' ∧ WEnd P b W' e o := by
  have HH := hidP h
  have c0 := p.row1
  have c1 := q.row1
  clear h p q
  go_enter Try.func55, Try.ntmps55
  go_wp2_with fail
  refine HH.out.mono ?_
  rintro e W' ⟨t1, h⟩
  cases o with
  | some L =>
    obtain ⟨rfl, h⟩ := h
    go_wp2
    go_end0
    exact ⟨t1, rfl, h⟩
  | none =>
    obtain ⟨t, v, rfl⟩ := h
    exact ⟨rfl, t1, t, v, rfl⟩

set_option maxRecDepth 100000 in
set_option maxHeartbeats 1000000 in
theorem written_any (f : FuncId) (cap : Array Value) (o : Option (List UInt8)) (w : World) (hcf : ∀ (p : Value) (W : World), (callFunc f (#[p] ++ cap)).run Try.prog W = .ok (.enter f (#[p] ++ cap)) W)
    (h : ∀ W, Below w.heap.size w W → ∀ (P : Nat → Prop) b, (∀ k, k < w.heap.size → P k) → Wr P b W [] → Writes f cap o P b W) :
    Calls Try.prog 37 #[.func (.func f) #[] cap] w fun e w' => ∃ a c, e = .returned (.slice a (o.getD []).length c) ∧ Below w.heap.size w w' ∧ w'.ownsRow w.heap.size 5 1 (.slice a (o.getD []).length c) (o.getD []).length (flat (o.getD [])) := by
  have hmf : ∀ (fn : Fn) (first cap : Array Value) (w : World), (Instr.makeFunc fn first cap).run Try.prog w = .ok (.func fn first cap) w := fun _ _ _ _ => rfl
  have hcf1 : ∀ W : World, (callFunc 55 #[.pointer (some ⟨w.heap.size, 0, none⟩), .pointer (some ⟨w.heap.size + 1 + 1, 0, none⟩)]).run Try.prog W = .ok (.enter 55 #[.pointer (some ⟨w.heap.size, 0, none⟩), .pointer (some ⟨w.heap.size + 1 + 1, 0, none⟩)]) W := fun W => by simp [go_sem]
  have pz := (((Blk.new w 63 #[.func (.func f) #[] cap]).alloc (.cells #[.slice none 0 0] 87)).alloc (.cells #[.pointer (some ⟨w.heap.size + 1, 0, none⟩)] 61)).alloc (.cells #[.bool false] 4)
  have pb := ((Blk.new (w.alloc (.cells #[.func (.func f) #[] cap] 63)) 87 #[.slice none 0 0]).alloc (.cells #[.pointer (some ⟨w.heap.size + 1, 0, none⟩)] 61)).alloc (.cells #[.bool false] 4)
  have py := (Blk.new ((w.alloc (.cells #[.func (.func f) #[] cap] 63)).alloc (.cells #[.slice none 0 0] 87)) 61 #[.pointer (some ⟨w.heap.size + 1, 0, none⟩)]).alloc (.cells #[.bool false] 4)
  have pd := Blk.new (((w.alloc (.cells #[.func (.func f) #[] cap] 63)).alloc (.cells #[.slice none 0 0] 87)).alloc (.cells #[.pointer (some ⟨w.heap.size + 1, 0, none⟩)] 61)) 4 #[.bool false]
  have hbl := alloc0 (alloc0 (alloc0 (alloc0 (Below.refl _ w) (.cells #[.func (.func f) #[] cap] 63)) (.cells #[.slice none 0 0] 87)) (.cells #[.pointer (some ⟨w.heap.size + 1, 0, none⟩)] 61)) (.cells #[.bool false] 4)
  simp only [World.size_alloc] at pb py pd
  generalize hW4 : (((w.alloc (.cells #[.func (.func f) #[] cap] 63)).alloc (.cells #[.slice none 0 0] 87)).alloc (.cells #[.pointer (some ⟨w.heap.size + 1, 0, none⟩)] 61)).alloc (.cells #[.bool false] 4) = W4 at *
  have s4 : W4.heap.size = w.heap.size + 4 := by rw [← hW4]; simp
  let P : Nat → Prop := fun k => k < w.heap.size + 4 ∧ k ≠ w.heap.size + 1
  have wr0 : Wr P (w.heap.size + 1) W4 [] := ⟨none, 0, pb, World.ownsRow_nil _ _ _ _, fun g hg => by simp [Value.ownBlock] at hg, fun h => h.2 rfl, fun k hk => by have := hk.1; omega⟩
  have hdo := written1_any f cap o P (w.heap.size + 1) w.heap.size (w.heap.size + 1 + 1) W4 hcf pz py (h W4 hbl P (w.heap.size + 1) (fun k hk => ⟨by omega, by omega⟩) wr0)
  have htr := tried_any 55 #[.pointer (some ⟨w.heap.size, 0, none⟩), .pointer (some ⟨w.heap.size + 1 + 1, 0, none⟩)] (((w.alloc (.cells #[.func (.func f) #[] cap] 63)).alloc (.cells #[.slice none 0 0] 87)).alloc (.cells #[.pointer (some ⟨w.heap.size + 1, 0, none⟩)] 61))
    (fun W => Turn P W4 W ∧ ∃ L, o = some L ∧ Wr P (w.heap.size + 1) W L) (fun W => Turn P W4 W ∧ o = none) hcf1 (by
      rw [hW4]
      refine hdo.mono fun e W' h1 => ?_
      obtain ⟨t1, h1⟩ := h1
      refine ⟨by simpa using pd.turn t1 ⟨by omega, by omega⟩, ?_⟩
      cases o with
      | some L => exact .inl ⟨h1.1, t1, L, rfl, h1.2⟩
      | none => obtain ⟨t, v, rfl⟩ := h1; exact .inr ⟨t, v, rfl, t1, rfl⟩)
  have HT := hidP htr
  have Hpy := hidP py
  have Hbl := hidP hbl
  have Hs4 := hidP s4
  have Pd : P (w.heap.size + 1 + 1) := ⟨by omega, by omega⟩
  have Pw : ∀ k, k < w.heap.size → P k := fun k hk => ⟨by omega, by omega⟩
  have Pg : ∀ g, ¬ P g ∧ g ≠ w.heap.size + 1 → w.heap.size + 4 ≤ g := fun g hg => Nat.le_of_not_lt fun q => hg.1 ⟨q, hg.2⟩
  clear_value P
  clear htr hdo wr0 pz pb pd h hcf hcf1 py hbl s4 hW4
  go_enter Try.func37, Try.ntmps37
  go_wp2_with fail
  refine HT.out.mono ?_
  rintro e W' ⟨W0, ho, hh⟩
  rcases hh with ⟨rfl, t1, L, rfl, hW⟩ | ⟨rfl, t1, rfl⟩
  · obtain ⟨a, c, p, hv, h3, h4, h5⟩ := hW
    simp only [World.size_alloc] at ho
    have p' := p.only ho (by omega)
    have y' := (Hpy.out.turn t1 Pd).only ho (by omega)
    have c0 := p'.row1
    have c1 := y'.row1
    have hfin : Hid (Below w.heap.size w W') := Hbl.out.trans ((t1.below Pw).trans (ho.toBelow (by omega) (by have := t1.size; have := Hs4.out; omega)))
    have hown := hidP (owns_mono (C := w.heap.size) (owns_onlyB (owns_baseB (B := w.heap.size + 4) hv (fun g hg => Pg g (h3 g hg))) ho (by omega)) (by omega))
    clear ho p p' y' hv t1 hmf h3 h4 h5
    go_wp2
    go_ret
    exact ⟨a, c, rfl, hfin.out, hown.out⟩
  · simp only [World.size_alloc] at ho
    have hfin : Hid (Below w.heap.size w W') := Hbl.out.trans ((t1.below Pw).trans (ho.toBelow (by omega) (by have := t1.size; have := Hs4.out; omega)))
    go_wp2
    go_ret
    exact ⟨none, 0, rfl, hfin.out, World.ownsRow_nil _ _ _ _⟩
end Go.Proofs.Ytfbbifdfjjkknaa.Gen
