/-
  Group: what the laws' to, sz, eq, mark and held functions of it do; the argument opened. No condition but that its lists have at most 1048576 numbers.
-/
import Derived.Test.YtclgdghfcjkhfaaInts
namespace Go.Proofs.Ytclgdghfcjkhfaa.Gen
open Go.ChangeShapes Go.WideShapes Go.ChangeAt Go.RowKit Go.Joins Go.Deep Base
set_option linter.unusedVariables false

/-- Three lists of numbers in three blocks of their own, none below n. -/
structure Three (n : Nat) (w : World) (x y z : Nat) (m b o : List Int) : Prop where
  nx : n ≤ x
  xy : x < y
  yz : y < z
  zs : z < w.heap.size
  im : In w x 0 m
  ib : In w y 0 b
  io : In w z 0 o
  tm : w.there x 0 (m.length * 1)
  tb : w.there y 0 (b.length * 1)
  to : w.there z 0 (o.length * 1)
theorem Three.below {n : Nat} {w w' : World} {x y z : Nat} {m b o : List Int} (h : Three n w x y z m b o) (g : Below w.heap.size w w') : Three n w' x y z m b o := by
  have hx : x < w.heap.size := Nat.lt_trans h.xy (Nat.lt_trans h.yz h.zs)
  have hy : y < w.heap.size := Nat.lt_trans h.yz h.zs
  exact ⟨h.nx, h.xy, h.yz, Nat.lt_of_lt_of_le h.zs g.size, h.im.below hx g, h.ib.below hy g, h.io.below h.zs g, there_below h.tm hx g, there_below h.tb hy g, there_below h.to h.zs g⟩
theorem Three.am {n : Nat} {w : World} {x y z : Nat} {m b o : List Int} (h : Three n w x y z m b o) : At w (some ⟨x, 0, none⟩) m := .inr ⟨x, 0, rfl, Nat.lt_trans h.xy (Nat.lt_trans h.yz h.zs), h.im⟩
theorem Three.ab {n : Nat} {w : World} {x y z : Nat} {m b o : List Int} (h : Three n w x y z m b o) : At w (some ⟨y, 0, none⟩) b := .inr ⟨y, 0, rfl, Nat.lt_trans h.yz h.zs, h.ib⟩
theorem Three.ao {n : Nat} {w : World} {x y z : Nat} {m b o : List Int} (h : Three n w x y z m b o) : At w (some ⟨z, 0, none⟩) o := .inr ⟨z, 0, rfl, h.zs, h.io⟩

set_option maxRecDepth 100000 in
theorem eqGroup_same (gen : Int) (A B C A' B' C' : Option Addr) (ca cb cc ca' cb' cc' : Nat) (m b o : List Int) (hm : m.length ≤ 9223372036854775807) (hb : b.length ≤ 9223372036854775807) (ho : o.length ≤ 9223372036854775807) (w : World)
    (hA : At w A m) (hB : At w B b) (hC : At w C o) (hA' : At w A' m) (hB' : At w B' b) (hC' : At w C' o) :
    Calls Try.prog 45 #[.agg #[.int .i64 gen, .slice A m.length ca, .slice B b.length cb, .slice C o.length cc], .agg #[.int .i64 gen, .slice A' m.length ca', .slice B' b.length cb', .slice C' o.length cc']] w fun e w' => e = .returned (.bool true) ∧ Below w.heap.size w w' := by
  have HA := hidP hA
  have HB := hidP hB
  have HC := hidP hC
  have HA' := hidP hA'
  have HB' := hidP hB'
  have HC' := hidP hC'
  clear hA hB hC hA' hB' hC'
  go_enter Try.func45, Try.ntmps45
  go_wp2_with fail
  have B0 : Below w.heap.size w ((w.alloc (.cells #[.int .i64 gen, .slice A m.length ca, .slice B b.length cb, .slice C o.length cc] 50)).alloc (.cells #[.int .i64 gen, .slice A' m.length ca', .slice B' b.length cb', .slice C' o.length cc'] 50)) := by repeat (first | exact Below.refl _ _ | assumption | refine via0 (by assumption) ?_ | refine Below.drew ?_ | refine alloc0 ?_ _)
  have p0 : Blk ((w.alloc (.cells #[.int .i64 gen, .slice A m.length ca, .slice B b.length cb, .slice C o.length cc] 50)).alloc (.cells #[.int .i64 gen, .slice A' m.length ca', .slice B' b.length cb', .slice C' o.length cc'] 50)) w.heap.size 50 #[.int .i64 gen, .slice A m.length ca, .slice B b.length cb, .slice C o.length cc] := (Blk.new w 50 #[.int .i64 gen, .slice A m.length ca, .slice B b.length cb, .slice C o.length cc]).alloc _
  have p1 : Blk ((w.alloc (.cells #[.int .i64 gen, .slice A m.length ca, .slice B b.length cb, .slice C o.length cc] 50)).alloc (.cells #[.int .i64 gen, .slice A' m.length ca', .slice B' b.length cb', .slice C' o.length cc'] 50)) (w.heap.size + 1) 50 #[.int .i64 gen, .slice A' m.length ca', .slice B' b.length cb', .slice C' o.length cc'] := by simpa using Blk.new (w.alloc (.cells #[.int .i64 gen, .slice A m.length ca, .slice B b.length cb, .slice C o.length cc] 50)) 50 #[.int .i64 gen, .slice A' m.length ca', .slice B' b.length cb', .slice C' o.length cc']
  refine (eqInt_same A A' ca ca' m hm _ (HA.out.below B0) (HA'.out.below B0)).mono ?_
  rintro e w1 ⟨rfl, g1⟩
  have B1 := via0 g1 B0
  have r0 := p0.below g1 p0.lt
  have r1 := p1.below g1 p1.lt
  clear p0 p1 g1 B0
  obtain ⟨u0, u1, u2, u3⟩ := r0.row4
  obtain ⟨n0, n1, n2, n3⟩ := r1.row4
  go_wp2_with fail
  refine (eqInt_same B B' cb cb' b hb _ (HB.out.below B1) (HB'.out.below B1)).mono ?_
  rintro e w2 ⟨rfl, g2⟩
  have B2 := via0 g2 B1
  have s0 := r0.below g2 r0.lt
  have s1 := r1.below g2 r1.lt
  clear r0 r1 g2 B1 u0 u1 u2 u3 n0 n1 n2 n3
  obtain ⟨u0, u1, u2, u3⟩ := s0.row4
  obtain ⟨n0, n1, n2, n3⟩ := s1.row4
  go_wp2_with fail
  refine (eqInt_same C C' cc cc' o ho _ (HC.out.below B2) (HC'.out.below B2)).mono ?_
  rintro e w3 ⟨rfl, g3⟩
  have B3 := via0 g3 B2
  go_wp2
  go_ret
  exact ⟨rfl, B3⟩

end Go.Proofs.Ytclgdghfcjkhfaa.Gen
