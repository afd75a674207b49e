/-
  Messages, and lists of them, each with its list of entries: how they lie, and that the laws' eq functions find the same the same. No condition but that there are as many as an int counts.
-/
import Derived.Test.YtenfinilhibmhaaEnt
import Derived.Test.YtenfinilhibmhaaRecs
namespace Go.Proofs.Ytenfinilhibmhaa.Gen
open Go.ChangeShapes Go.WideShapes Go.ChangeAt Go.RowKit Go.Joins Go.Deep Base
set_option linter.unusedVariables false
set_option linter.unusedSimpArgs false

/-- A message as it lies in a list: its entries lie elsewhere. -/
structure RpC where
  kind : Int
  frm : Int
  too : Int
  term : Int
  index : Int
  iterm : Int
  commit : Int
  A : Option Addr
  cap : Nat
  l : List En
  ok : Bool
  snap : ByteArray
/-- Its content alone. -/
structure RpP where
  kind : Int
  frm : Int
  too : Int
  term : Int
  index : Int
  iterm : Int
  commit : Int
  l : List En
  ok : Bool
  snap : ByteArray
instance : Inhabited RpC := ⟨⟨0, 0, 0, 0, 0, 0, 0, none, 0, [], false, ⟨#[]⟩⟩⟩
instance : Cel RpC where
  k := 10
  cs x := [Value.int .i64 x.kind, Value.int .i64 x.frm, Value.int .i64 x.too, Value.int .i64 x.term, Value.int .i64 x.index, Value.int .i64 x.iterm, Value.int .i64 x.commit, Value.slice x.A x.l.length x.cap, Value.bool x.ok, Value.string x.snap]
  len _ := rfl
  one x u hu := by simp at hu; rcases hu with rfl | rfl | rfl | rfl | rfl | rfl | rfl | rfl | rfl | rfl <;> rfl
def RpC.p (x : RpC) : RpP := ⟨x.kind, x.frm, x.too, x.term, x.index, x.iterm, x.commit, x.l, x.ok, x.snap⟩
def EachP (w : World) (l : List RpC) : Prop := ∀ x ∈ l, At w x.A x.l
theorem EachP.below {w w' : World} {l : List RpC} (h : EachP w l) (hw : Below w.heap.size w w') : EachP w' l := fun x hx => (h x hx).below hw
def rpcP (w : World) (x : RpC) (S : Nat → Prop) : Prop := Sub w x.A x.l S
theorem rpcP_firm : Firm rpcP := fun w w' x S T h k hd => Sub.offp h k hd
theorem rpcP_each {S : Nat → Prop} {w : World} {a : Option Addr} {l : List RpC} (h : Own rpcP w a l S) : EachP w l := h.each (fun x S hx => Sub.at hx)
theorem In.getRpC {w : World} {b o : Nat} {l : List RpC} (h : In w b o l) (i : Nat) (hi : i < l.length) :
    w.cell? ⟨b, o + i * 10, none⟩ = some (Value.int .i64 l[i].kind) ∧ w.cell? ⟨b, o + i * 10 + 1, none⟩ = some (Value.int .i64 l[i].frm) ∧ w.cell? ⟨b, o + i * 10 + 2, none⟩ = some (Value.int .i64 l[i].too) ∧ w.cell? ⟨b, o + i * 10 + 3, none⟩ = some (Value.int .i64 l[i].term) ∧ w.cell? ⟨b, o + i * 10 + 4, none⟩ = some (Value.int .i64 l[i].index) ∧ w.cell? ⟨b, o + i * 10 + 5, none⟩ = some (Value.int .i64 l[i].iterm) ∧ w.cell? ⟨b, o + i * 10 + 6, none⟩ = some (Value.int .i64 l[i].commit) ∧ w.cell? ⟨b, o + i * 10 + 7, none⟩ = some (Value.slice l[i].A l[i].l.length l[i].cap) ∧ w.cell? ⟨b, o + i * 10 + 8, none⟩ = some (Value.bool l[i].ok) ∧ w.cell? ⟨b, o + i * 10 + 9, none⟩ = some (Value.string l[i].snap) :=
  ⟨h.cell i hi (f := 0) rfl, h.cell i hi (f := 1) rfl, h.cell i hi (f := 2) rfl, h.cell i hi (f := 3) rfl, h.cell i hi (f := 4) rfl, h.cell i hi (f := 5) rfl, h.cell i hi (f := 6) rfl, h.cell i hi (f := 7) rfl, h.cell i hi (f := 8) rfl, h.cell i hi (f := 9) rfl⟩
theorem infoRpC : (Try.prog.info? 29).map (fun i => (i.zero, i.size, i.bytes)) = some (some (.agg #[.int .i64 0, .int .i64 0, .int .i64 0, .int .i64 0, .int .i64 0, .int .i64 0, .int .i64 0, .slice none 0 0, .bool false, .string ⟨#[]⟩]), 10, 104) := by kernel_rfl
theorem Blk.row10 {W : World} {B : Nat} {t : TypeId} {a b c d e f g h i j : Value} (p : Blk W B t #[a, b, c, d, e, f, g, h, i, j]) : W.cell? ⟨B, 0, none⟩ = some a ∧ W.cell? ⟨B, 1, none⟩ = some b ∧ W.cell? ⟨B, 2, none⟩ = some c ∧ W.cell? ⟨B, 3, none⟩ = some d ∧ W.cell? ⟨B, 4, none⟩ = some e ∧ W.cell? ⟨B, 5, none⟩ = some f ∧ W.cell? ⟨B, 6, none⟩ = some g ∧ W.cell? ⟨B, 7, none⟩ = some h ∧ W.cell? ⟨B, 8, none⟩ = some i ∧ W.cell? ⟨B, 9, none⟩ = some j :=
  ⟨p.cell (by rfl), p.cell (by rfl), p.cell (by rfl), p.cell (by rfl), p.cell (by rfl), p.cell (by rfl), p.cell (by rfl), p.cell (by rfl), p.cell (by rfl), p.cell (by rfl)⟩

set_option maxRecDepth 100000 in
set_option maxHeartbeats 1000000 in
theorem eqRpc_same (kind frm too term index iterm commit : Int) (ok : Bool) (snap : ByteArray) (A A' : Option Addr) (cap cap' : Nat) (l : List En) (hl : l.length ≤ 9223372036854775807) (w : World) (hA : At w A l) (hA' : At w A' l) :
    Calls Try.prog 8 #[.agg #[.int .i64 kind, .int .i64 frm, .int .i64 too, .int .i64 term, .int .i64 index, .int .i64 iterm, .int .i64 commit, .slice A l.length cap, .bool ok, .string snap], .agg #[.int .i64 kind, .int .i64 frm, .int .i64 too, .int .i64 term, .int .i64 index, .int .i64 iterm, .int .i64 commit, .slice A' l.length cap', .bool ok, .string snap]] w fun e w' => e = .returned (.bool true) ∧ Below w.heap.size w w' := by
  have HA : Hid (∀ W : World, Below w.heap.size w W → At W A l) := fun W hW => hA.below hW
  have HA' : Hid (∀ W : World, Below w.heap.size w W → At W A' l) := fun W hW => hA'.below hW
  clear hA hA'
  have p0 : Blk ((w.alloc (.cells #[.int .i64 kind, .int .i64 frm, .int .i64 too, .int .i64 term, .int .i64 index, .int .i64 iterm, .int .i64 commit, .slice A l.length cap, .bool ok, .string snap] 29)).alloc (.cells #[.int .i64 kind, .int .i64 frm, .int .i64 too, .int .i64 term, .int .i64 index, .int .i64 iterm, .int .i64 commit, .slice A' l.length cap', .bool ok, .string snap] 29)) w.heap.size 29 #[.int .i64 kind, .int .i64 frm, .int .i64 too, .int .i64 term, .int .i64 index, .int .i64 iterm, .int .i64 commit, .slice A l.length cap, .bool ok, .string snap] := (Blk.new w _ _).alloc _
  have r0 : Blk ((w.alloc (.cells #[.int .i64 kind, .int .i64 frm, .int .i64 too, .int .i64 term, .int .i64 index, .int .i64 iterm, .int .i64 commit, .slice A l.length cap, .bool ok, .string snap] 29)).alloc (.cells #[.int .i64 kind, .int .i64 frm, .int .i64 too, .int .i64 term, .int .i64 index, .int .i64 iterm, .int .i64 commit, .slice A' l.length cap', .bool ok, .string snap] 29)) (w.heap.size + 1) 29 #[.int .i64 kind, .int .i64 frm, .int .i64 too, .int .i64 term, .int .i64 index, .int .i64 iterm, .int .i64 commit, .slice A' l.length cap', .bool ok, .string snap] := by
    have := Blk.new (w.alloc (.cells #[.int .i64 kind, .int .i64 frm, .int .i64 too, .int .i64 term, .int .i64 index, .int .i64 iterm, .int .i64 commit, .slice A l.length cap, .bool ok, .string snap] 29)) 29 #[.int .i64 kind, .int .i64 frm, .int .i64 too, .int .i64 term, .int .i64 index, .int .i64 iterm, .int .i64 commit, .slice A' l.length cap', .bool ok, .string snap]
    rwa [World.size_alloc] at this
  cases ok
  all_goals
    go_enter Try.func8, Try.ntmps8
    go_wp2_with fail
    refine (eqEntryS_same A A' cap cap' l hl _ (HA.out _ (by repeat (first | exact Below.refl _ _ | assumption | refine via0 (by assumption) ?_ | refine Below.drew ?_ | refine alloc0 ?_ _))) (HA'.out _ (by repeat (first | exact Below.refl _ _ | assumption | refine via0 (by assumption) ?_ | refine Below.drew ?_ | refine alloc0 ?_ _)))).mono ?_
    rintro e w1 ⟨rfl, g1⟩
    have B1 : Below w.heap.size w w1 := by repeat (first | exact Below.refl _ _ | assumption | refine via0 (by assumption) ?_ | refine Below.drew ?_ | refine alloc0 ?_ _)
    have p1 := p0.below g1 p0.lt
    have r1 := r0.below g1 r0.lt
    obtain ⟨d0, d1, d2, d3, d4, d5, d6, d7, d8, d9⟩ := p1.row10
    obtain ⟨e0, e1, e2, e3, e4, e5, e6, e7, e8, e9⟩ := r1.row10
    have q1 := p1.lt
    have q2 := r1.lt
    clear g1
    go_wp2
    go_ret
    exact ⟨rfl, B1⟩

end Go.Proofs.Ytenfinilhibmhaa.Gen
