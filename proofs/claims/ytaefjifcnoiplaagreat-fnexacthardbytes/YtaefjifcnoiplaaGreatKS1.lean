/-
  The specification's bytes of a keeper, under way: the keeper's box, the bytes so far, and those that are left. No condition.
-/
import Derived.Test.YtaefjifcnoiplaaGreatKBw4
import Derived.Test.YtaefjifcnoiplaaGreatKBp
namespace Go.Proofs.YtaefjifcnoiplaaGreat.Gen
open Go.ChangeShapes Go.WideShapes Go.ChangeAt Go.RowKit Go.Joins Go.Deep Base
open Items (It)
set_option linter.unusedVariables false
set_option linter.unusedSimpArgs false
structure KW (w W : World) (kx : Array Value) (v : Value) (xs R K : List UInt8) : Prop where
  bl : Below w.heap.size w W
  bx : Blk W w.heap.size 49 kx
  own : W.ownsRow (w.heap.size + 1) 5 1 v xs.length (flat xs)
  eq : xs ++ R = K
theorem KW.below {w W W' : World} {kx : Array Value} {v : Value} {xs R K : List UInt8} (h : KW w W kx v xs R K) (g : Below W.heap.size W W') : KW w W' kx v xs R K :=
  ⟨via0 g h.bl, h.bx.below g h.bx.lt, owns_below h.own g, h.eq⟩
theorem KW.rest {w W : World} {kx : Array Value} {v : Value} {xs R R' K : List UInt8} (h : KW w W kx v xs R K) (e : R = R') : KW w W kx v xs R' K := e ▸ h
theorem own_neB {B n k b : Nat} {W : World} {v : Value} {xs : List Value} {t : TypeId} {vs : Array Value} (h : W.ownsRow B 5 k v n xs) (hb : Blk W b t vs) (ht : t ≠ 5) : some b ≠ v.ownBlock := by
  rcases h.2 with ⟨rfl, _⟩ | ⟨g, c, cur, rfl, _, hg, _⟩
  . simp [Value.ownBlock]
  . intro e
    have e' : b = g := by simpa [Value.ownBlock] using e
    subst e'
    have := (show W.heap[b]? = _ from hb).symm.trans hg
    simp at this
    exact ht this.2
theorem KW.add {w W W1 : World} {kx : Array Value} {a a1 : Option Addr} {c c1 : Nat} {xs R K ys R' : List UInt8} (h : KW w W kx (.slice a xs.length c) xs R K) (hK : K.length <= 400000000) (hR : R = ys ++ R') (g : Below W.heap.size W W1) {B : Nat} (o : W1.ownsRow B 5 1 (.slice a1 ys.length c1) ys.length (flat ys)) :
    ∃ a2 c2 zs W2, (Builtin.append_ #[37, 37] 37 #[.slice a xs.length c, .slice a1 ys.length c1]).run Tryz.prog W1 = .ok (.slice a2 (List.length zs) c2) W2 /\ KW w W2 kx (.slice a2 zs.length c2) zs R' K /\ (∀ b t vs, Blk W b t vs -> t ≠ 5 -> Blk W2 b t vs) := by
  have h1 := h.below g
  have hl : xs.length + ys.length <= 1000000000 := by
    have := congrArg List.length h.eq
    rw [hR] at this
    simp at this
    omega
  obtain ⟨a2, c2, W2, hr, hown, hg⟩ := append_l (c' := c1) (B := w.heap.size + 1) (by have := h1.bx.lt; omega) h1.own (fresh_owns o).at hl
  have ko := offp_grown hg
  refine ⟨a2, c2, xs ++ ys, W2, hr, ⟨h1.bl.trans (ko.toBelow (fun x hx => by have := (h1.own.lt x hx).1; omega) h1.bl.size), h1.bx.offp ko (fun e => own_neB h1.own h1.bx (by decide) e.symm), hown, ?_⟩, ?_⟩
  . rw [← h.eq, hR, List.append_assoc]
  . intro b t vs hb ht
    exact (hb.below g hb.lt).offp ko (fun e => own_neB h1.own (hb.below g hb.lt) ht e.symm)
theorem fm_drop {α : Type} (f : α -> List UInt8) {l : List α} {n : Nat} (h : n < l.length) : (l.drop n).flatMap f = f l[n] ++ (l.drop (n + 1)).flatMap f := by
  rw [List.drop_eq_getElem_cons h, List.flatMap_cons]
theorem fm_end {α : Type} (f : α -> List UInt8) {l : List α} {n : Nat} (h : l.length <= n) : (l.drop n).flatMap f = [] := by
  rw [List.drop_eq_nil_of_le h]; rfl
theorem rc_split (y : RC) (T : List UInt8) : rcB y ++ T = numsB [y.start, y.next, (y.its.length : Int)] ++ (y.its.flatMap itB ++ T) := by
  simp [rcB, itsB, numsB, List.append_assoc]
theorem it_split (z : It) (T : List UInt8) : itB z ++ T = numI z.off ++ (txtB z.key ++ (txtB z.text ++ (numsB [z.who, z.time] ++ T))) := by simp [itB, List.append_assoc]
theorem mc_split (y : MC) (T : List UInt8) : mcB y ++ T = numsB [y.row, y.who, y.epoch, y.last + 1, (y.ms.length : Int)] ++ (y.ms.flatMap mkB ++ T) := by
  simp [mcB, mksB, numsB, List.append_assoc]
theorem gc_split (y : GC) (T : List UInt8) : gcB y ++ T = numsB [y.gen, (y.m.length : Int)] ++ (memB y.m y.b ++ (numsB y.o ++ T)) := by simp [gcB, List.append_assoc]
theorem an_split (d : Int) (y : An) (T : List UInt8) : (numI d ++ anB y) ++ T = numsB [d, y.code, y.n + 1] ++ (txtB y.key ++ (txtB y.text ++ T)) := by simp [anB, numsB, List.append_assoc]
theorem In.getItG {w : World} {b o : Nat} {l : List It} (h : In w b o l) (i : Nat) (hi : i < l.length) :
    w.cell? ⟨b, o + i * 5, none⟩ = some (.int .i64 l[i].off) /\ w.cell? ⟨b, o + i * 5 + 1, none⟩ = some (.string l[i].key) /\ w.cell? ⟨b, o + i * 5 + 2, none⟩ = some (.string l[i].text) /\ w.cell? ⟨b, o + i * 5 + 3, none⟩ = some (.int .i64 l[i].who) /\ w.cell? ⟨b, o + i * 5 + 4, none⟩ = some (.int .i64 l[i].time) :=
  ⟨h.cell i hi (f := 0) rfl, h.cell i hi (f := 1) rfl, h.cell i hi (f := 2) rfl, h.cell i hi (f := 3) rfl, h.cell i hi (f := 4) rfl⟩
theorem newN (W : World) (L : List Int) (cs : Array Value) {z : Nat} (hz : z = W.heap.size) (h : cs.toList = flat L) : At (W.alloc (.cells cs 3)) (some ⟨z, 0, none⟩) L := by subst hz; exact newL W L cs 3 h
end Go.Proofs.YtaefjifcnoiplaaGreat.Gen
