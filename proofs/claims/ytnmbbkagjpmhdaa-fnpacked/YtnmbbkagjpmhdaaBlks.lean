/-
  Blocks of one's own that are written: an item stored; what a round keeps.
-/
import Derived.Test.YtnmbbkagjpmhdaaImplRowOk
namespace Go.Proofs.Ytnmbbkagjpmhdaa.Items
open Go.ChangeShapes Go.WideShapes Go.ChangeAt Go.RowKit Go.Shelf Base
set_option linter.unusedVariables false

def It.cells (x : It) : Array Value := #[.int .i64 x.off, .string x.key, .string x.text, .int .i64 x.who, .int .i64 x.time]
theorem Blk.thaw {W : World} {B : Nat} {t : TypeId} {vs : Array Value} (h : Blk W B t vs) (i : Nat) : W.frozen? ⟨B, i, none⟩ = false := by simp [World.frozen?, show W.heap[B]? = _ from h]
theorem Blk.setAt {W : World} {B : Nat} {t : TypeId} {vs : Array Value} (h : Blk W B t vs) (i : Nat) (v : Value) : Blk (W.setCell ⟨B, i, none⟩ v) B t (vs.setIfInBounds i v) := by
  obtain ⟨hlt, hk⟩ := Array.getElem?_eq_some_iff.1 h
  show (W.heap.modify B _)[B]? = _
  rw [Array.getElem?_eq_getElem (by rw [Array.size_modify]; exact hlt), Array.getElem_modify_self, hk]
  rfl
theorem Blk.drew {W : World} {B : Nat} {t : TypeId} {vs : Array Value} (h : Blk W B t vs) : Blk W.drew B t vs := h

theorem ko_set {a b : World} (h : KeepsOthers a b) (p : Addr) (v : Value) : KeepsOthers a (b.setCell p v) := h.trans (KeepsOthers.setCell _ _ _)
theorem ko_alloc {a b : World} (h : KeepsOthers a b) (o : Obj) : KeepsOthers a (b.alloc o) := h.trans (KeepsOthers.alloc _ _)
theorem ko_drew {a b : World} (h : KeepsOthers a b) : KeepsOthers a b.drew := h.trans (KeepsOthers.drew _)
theorem ko_below {a b c : World} (h : KeepsOthers a b) (g : Below b.heap.size b c) : KeepsOthers a c := h.trans (keeps_below g)
theorem bl_alloc {n : Nat} {a b : World} (hn : n ≤ a.heap.size) (h : Below n a b) (o : Obj) : Below n a (b.alloc o) := h.alloc (Nat.le_trans hn h.size) o
theorem bl_below {n : Nat} {a b c : World} (hn : n ≤ a.heap.size) (g : Below b.heap.size b c) (h : Below n a b) : Below n a c := h.trans (g.mono (Nat.le_trans hn h.size))

/-- An item is stored into block B. -/
abbrev putIt (W : World) (B : Nat) (x : It) : World := ((((W.setCell ⟨B, 0, none⟩ (.int .i64 x.off)).setCell ⟨B, 1, none⟩ (.string x.key)).setCell ⟨B, 2, none⟩ (.string x.text)).setCell ⟨B, 3, none⟩ (.int .i64 x.who)).setCell ⟨B, 4, none⟩ (.int .i64 x.time)
theorem Blk.putIt {W : World} {B : Nat} {t : TypeId} {a b c d e : Value} (h : Blk W B t #[a, b, c, d, e]) (x : It) : Blk (putIt W B x) B t x.cells := ((((h.setAt 0 _).setAt 1 _).setAt 2 _).setAt 3 _).setAt 4 _
theorem Blk.putOther {W : World} {B C : Nat} {t : TypeId} {vs : Array Value} (h : Blk W B t vs) (hne : B ≠ C) (x : It) : Blk (Items.putIt W C x) B t vs := ((((h.other hne _ _).other hne _ _).other hne _ _).other hne _ _).other hne _ _
theorem ko_putIt {a b : World} (h : KeepsOthers a b) (B : Nat) (x : It) : KeepsOthers a (putIt b B x) := ko_set (ko_set (ko_set (ko_set (ko_set h _ _) _ _) _ _) _ _) _ _
theorem bl_set {n : Nat} {a b : World} (h : Below n a b) {B i : Nat} (hn : n ≤ B) (v : Value) : Below n a (b.setCell ⟨B, i, none⟩ v) := h.setCell (p := ⟨B, i, none⟩) hn v
theorem bl_putIt {n : Nat} {a b : World} (h : Below n a b) {B : Nat} (hn : n ≤ B) (x : It) : Below n a (putIt b B x) := bl_set (bl_set (bl_set (bl_set (bl_set h hn _) hn _) hn _) hn _) hn _

end Go.Proofs.Ytnmbbkagjpmhdaa.Items
