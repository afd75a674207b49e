/-
  Lists of groups, each with its three lists: how they lie, what the laws' to, sz, eq, mark and held functions of them do; the argument opened. No condition but that there are at most 1048576.
-/
import Derived.Test.YtlniljigeemnoaaGreatCmdB
set_option linter.unusedVariables false
set_option linter.unusedSimpArgs false
set_option maxRecDepth 100000
set_option maxHeartbeats 8000000
namespace Go.Proofs.YtlniljigeemnoaaGreat.Gen
open ChangeShapes WideShapes ChangeAt RowKit Joins Deep Base
structure GC where
  gen : Int
  a1 : Option Addr
  c1 : Nat
  m : List Int
  a2 : Option Addr
  c2 : Nat
  b : List Int
  a3 : Option Addr
  c3 : Nat
  o : List Int
instance : Inhabited GC := ⟨⟨0, none, 0, [], none, 0, [], none, 0, []⟩⟩
instance : Cel GC where
  k := 4
  cs x := [.int .i64 x.gen, .slice x.a1 x.m.length x.c1, .slice x.a2 x.b.length x.c2, .slice x.a3 x.o.length x.c3]
  len _ := rfl
  one x u hu := by simp at hu; rcases hu with rfl | rfl | rfl | rfl<;>rfl
structure PG where
  gen : Int
  m : List Int
  b : List Int
  o : List Int
def GC.p (x : GC) : PG := ⟨x.gen, x.m, x.b, x.o⟩
def atG (w : World) (x : GC) : Prop := At w x.a1 x.m /\ At w x.a2 x.b /\ At w x.a3 x.o
theorem atG.below {w w' : World} {x : GC} (h : atG w x) (hw : Below w.heap.size w w') : atG w' x := ⟨h.1.below hw, h.2.1.below hw, h.2.2.below hw⟩
def EachG (w : World) (l : List GC) : Prop := ∀ x ∈ l, atG w x
theorem EachG.below {w w' : World} {l : List GC} (h : EachG w l) (hw : Below w.heap.size w w') : EachG w' l := fun x hx => (h x hx).below hw
def grpP (w : World) (x : GC) (S : Nat -> Prop) : Prop :=
  ∃ S1 S2 S3 : Nat -> Prop, (∀ y, S1 y -> S y) /\ (∀ y, S2 y -> S y) /\ (∀ y, S3 y -> S y) /\ (∀ y, S1 y -> ¬ S2 y) /\ (∀ y, S1 y -> ¬ S3 y) /\ (∀ y, S2 y -> ¬ S3 y) /\ Sub w x.a1 x.m S1 /\ Sub w x.a2 x.b S2 /\ Sub w x.a3 x.o S3
theorem Qcp : Firm grpP := fun w w' x S T ⟨S1, S2, S3, i1, i2, i3, d1, d2, d3, s1, s2, s3⟩ k hd =>
 ⟨S1, S2, S3, i1, i2, i3, d1, d2, d3, s1.offp k (fun y hy => hd y (i1 y hy)), s2.offp k (fun y hy => hd y (i2 y hy)), s3.offp k (fun y hy => hd y (i3 y hy))⟩
theorem In.getGC {w : World} {b o : Nat} {l : List GC} (h : In w b o l) (i : Nat) (hi : i < l.length) :
 w.cell? ⟨b, o + i * 4, none⟩ = some (.int .i64 l[i].gen) /\ w.cell? ⟨b, o + i * 4 + 1, none⟩ = some (.slice l[i].a1 l[i].m.length l[i].c1) /\ w.cell? ⟨b, o + i * 4 + 2, none⟩ = some (.slice l[i].a2 l[i].b.length l[i].c2) /\ w.cell? ⟨b, o + i * 4 + 3, none⟩ = some (.slice l[i].a3 l[i].o.length l[i].c3) :=
 ⟨h.cell i hi (f := 0) rfl, h.cell i hi (f := 1) rfl, h.cell i hi (f := 2) rfl, h.cell i hi (f := 3) rfl⟩
theorem infoGC : (Tryz.prog.info? 128).map (fun i => (i.zero, i.size, i.bytes)) = some (some (.agg Qb0), 4, 80) := by kernel_rfl
end Go.Proofs.YtlniljigeemnoaaGreat.Gen
