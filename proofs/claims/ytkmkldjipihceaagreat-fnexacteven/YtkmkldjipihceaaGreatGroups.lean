/-
  Group: what the laws' to, sz, eq, mark and held functions of it do; the argument opened. No condition but that its lists have at most 1048576 numbers.
-/
import Derived.Test.YtkmkldjipihceaaGreatInts
import Derived.Test.YtkmkldjipihceaaGreatRecs
set_option linter.unusedVariables false
set_option linter.unusedSimpArgs false
set_option maxRecDepth 100000
set_option maxHeartbeats 8000000
set_option maxRecDepth 100000
set_option maxHeartbeats 8000000
namespace Go.Proofs.YtkmkldjipihceaaGreat.Gen
open ChangeShapes WideShapes ChangeAt RowKit Joins Deep Base
theorem Qeb (gen : Int) (A B C : Option Addr) (nm nb no ca cb cc : Nat) (hm : nm <= 9223372036854775807) (hb : nb <= 9223372036854775807) (ho : no <= 9223372036854775807) (left : Int) (h0 : 0 <= left) (h1 : left <= 1048576) (w : World) :
 Calls Tryz.prog 139 #[.agg (Qa3 gen A nm ca B nb cb C no cc), .int .i64 left] w fun e w' => e = .returned (.int .i64 (if left < (nm + nb + no : Nat) then -1 else left - (nm + nb + no : Nat))) /\ Below w.heap.size w w' := by
 generalize hans : (if left < ((nm + nb + no : Nat) : Int) then (-1 : Int) else left - ((nm + nb + no : Nat) : Int)) = ans
 have Hans := hidP hans
 clear hans
 go_enter Tryz.func139, Tryz.ntmps139
 go_wp2_with fail
 refine (Qb5 A nm ca hm left h0 h1 _).mono ?_
 by_cases k1 : left < nm
 . rw [if_pos k1]
   rintro e w1 ⟨rfl, rfl⟩
   have e : ans = -1 := by rw [← Hans.out, if_pos (by omega)]
   subst e
   go_wp2
   go_ret
   exact ⟨rfl, by repeat (first | exact Below.refl _ _ | assumption | refine via0 (by assumption) ?_ | refine Below.drew ?_ | refine Qab ?_ _)⟩
 rw [if_neg k1]
 rintro e w1 ⟨rfl, rfl⟩
 have k1' : ¬ left - (nm : Int) < 0 := by omega
 go_wp2_with fail
 refine (Qb5 B nb cb hb (left - nm) (by omega) (by omega) _).mono ?_
 by_cases k2 : left - nm < nb
 . rw [if_pos k2]
   rintro e w1 ⟨rfl, rfl⟩
   have e : ans = -1 := by rw [← Hans.out, if_pos (by omega)]
   subst e
   go_wp2
   go_ret
   exact ⟨rfl, by repeat (first | exact Below.refl _ _ | assumption | refine via0 (by assumption) ?_ | refine Below.drew ?_ | refine Qab ?_ _)⟩
 rw [if_neg k2]
 rintro e w1 ⟨rfl, rfl⟩
 have k2' : ¬ left - (nm : Int) - (nb : Int) < 0 := by omega
 go_wp2_with fail
 refine (Qb5 C no cc ho (left - nm - nb) (by omega) (by omega) _).mono ?_
 by_cases k3 : left - nm - nb < no
 . rw [if_pos k3]
   rintro e w1 ⟨rfl, rfl⟩
   have e : ans = -1 := by rw [← Hans.out, if_pos (by omega)]
   subst e
   go_wp2
   go_ret
   exact ⟨rfl, by repeat (first | exact Below.refl _ _ | assumption | refine via0 (by assumption) ?_ | refine Below.drew ?_ | refine Qab ?_ _)⟩
 rw [if_neg k3]
 rintro e w1 ⟨rfl, rfl⟩
 have k3' : ¬ left - (nm : Int) - (nb : Int) - (no : Int) < 0 := by omega
 have e : ans = left - (nm : Int) - (nb : Int) - (no : Int) := by rw [← Hans.out, if_neg (by omega)]; omega
 subst e
 go_wp2
 go_ret
 exact ⟨rfl, by repeat (first | exact Below.refl _ _ | assumption | refine via0 (by assumption) ?_ | refine Below.drew ?_ | refine Qab ?_ _)⟩
structure Three (n : Nat) (w : World) (x y z : Nat) (m b o : List Int) : Prop where
  nx : n <= x
  xy : x < y
  yz : y < z
  zs : z < w.heap.size
  im : In w x 0 m
  ib : In w y 0 b
  io : In w z 0 o
  tm : w.there x 0 (m.length * 1)
  tb : w.there y 0 (b.length * 1)
  to : w.there z 0 (o.length * 1)
theorem Qhr (gen : Int) (A B C : Option Addr) (ca cb cc : Nat) (m b o : List Int) (hm : m.length <= 1048576) (hb : b.length <= 1048576) (ho : o.length <= 1048576) (w : World) (hA : At w A m) (hB : At w B b) (hC : At w C o) :
 Calls Tryz.prog 144 #[.agg (Qa3 gen A m.length ca B b.length cb C o.length cc)] w
  fun e w' => ∃ x y z, e = .returned (.agg (Qa3 gen (some ⟨x, 0, none⟩) m.length m.length (some ⟨y, 0, none⟩) b.length b.length (some ⟨z, 0, none⟩) o.length o.length)) /\ Below w.heap.size w w' /\ Three w.heap.size w' x y z m b o := by
 have HA := hidP hA
 have HB := hidP hB
 have HC := hidP hC
 clear hA hB hC
 go_enter Tryz.func144, Tryz.ntmps144
 go_wp2_with fail
 refine (Qb4 A ca m hm _ (HA.out.below (by repeat (first | exact Below.refl _ _ | assumption | refine via0 (by assumption) ?_ | refine Below.drew ?_ | refine Qab ?_ _)))).mono ?_
 rintro e w1 ⟨rfl, g1, s1, i1, t1⟩
 have B1 : Below w.heap.size w w1 := via0 g1 (by repeat (first | exact Below.refl _ _ | assumption | refine via0 (by assumption) ?_ | refine Below.drew ?_ | refine Qab ?_ _))
 have p0 : Blk w1 w.heap.size 218 (Qa3 gen A m.length ca B b.length cb C o.length cc) := (((Blk.new w 218 (Qa3 gen A m.length ca B b.length cb C o.length cc)).alloc _).alloc _).below g1 (by simp; omega)
 have p1 : Blk w1 (w.heap.size + 1) 186 Qfn := by
  have := ((Blk.new (w.alloc (.cells (Qa3 gen A m.length ca B b.length cb C o.length cc) 218)) 186 Qfn).alloc _).below g1 (by simp)
  simpa using this
 have p2 : Blk w1 (w.heap.size + 1 + 1) 186 (Qa3 gen none 0 0 none 0 0 none 0 0) := by
  have := (Blk.new ((w.alloc (.cells (Qa3 gen A m.length ca B b.length cb C o.length cc) 218)).alloc (.cells Qfn 186)) 186 (Qa3 gen none 0 0 none 0 0 none 0 0)).below g1 (by simp)
  simpa using this
 simp only [World.size_alloc] at s1 i1 t1 ⊢
 clear g1
 obtain ⟨u0, u1, u2, u3⟩ := p0.row4
 obtain ⟨n0, n1, n2, n3⟩ := p2.row4
 have f0 := p2.thaw 0
 have f1 := p2.thaw 1
 have f2 := p2.thaw 2
 have f3 := p2.thaw 3
 have q0 := p0.lt
 have q2 := p2.lt
 go_wp2_with fail
 have B1' : Below w.heap.size w (w1.setCell ⟨w.heap.size + 1 + 1, 1, none⟩ (.slice (some ⟨w.heap.size + 1 + 1 + 1, 0, none⟩) m.length m.length)) := Qa5 B1 (by omega) _
 refine (Qb4 B cb b hb _ (HB.out.below B1')).mono ?_
 rintro e w2 ⟨rfl, g2, s2, i2, t2⟩
 rw [World.size_setCell] at s2 i2 t2
 have B2 : Below w.heap.size w w2 := via0 g2 B1'
 have r0 : Blk w2 w.heap.size 218 (Qa3 gen A m.length ca B b.length cb C o.length cc) := (p0.other (by omega) _ _).below g2 (by rw [World.size_setCell]; omega)
 have r1 : Blk w2 (w.heap.size + 1) 186 Qfn := (p1.other (by omega) _ _).below g2 (by rw [World.size_setCell]; omega)
 have r2 : Blk w2 (w.heap.size + 1 + 1) 186 (Qa3 gen (some ⟨w.heap.size + 1 + 1 + 1, 0, none⟩) m.length m.length none 0 0 none 0 0) := (p2.setAt 1 (.slice (some ⟨w.heap.size + 1 + 1 + 1, 0, none⟩) m.length m.length)).below g2 (by rw [World.size_setCell]; omega)
 have i1' := (i1.set ⟨w.heap.size + 1 + 1, 1, none⟩ (.slice (some ⟨w.heap.size + 1 + 1 + 1, 0, none⟩) m.length m.length) (by simp)).below (by rw [World.size_setCell]; omega) g2
 have t1' := Qaz (Qaj t1 (w.heap.size + 1 + 1) 1 (.slice (some ⟨w.heap.size + 1 + 1 + 1, 0, none⟩) m.length m.length)) (by rw [World.size_setCell]; omega) g2
 rw [World.size_setCell]
 clear u0 u1 u2 u3 n0 n1 n2 n3 f0 f1 f2 f3 q0 q2 p0 p1 p2 g2 B1 B1' i1 t1
 obtain ⟨u0, u1, u2, u3⟩ := r0.row4
 obtain ⟨n0, n1, n2, n3⟩ := r2.row4
 have f0 := r2.thaw 0
 have f1 := r2.thaw 1
 have f2 := r2.thaw 2
 have f3 := r2.thaw 3
 have q0 := r0.lt
 have q2 := r2.lt
 generalize hX2 : w1.heap.size = X2 at *
 go_wp2_with fail
 have B2' : Below w.heap.size w (w2.setCell ⟨w.heap.size + 1 + 1, 2, none⟩ (.slice (some ⟨X2, 0, none⟩) b.length b.length)) := Qa5 B2 (by omega) _
 refine (Qb4 C cc o ho _ (HC.out.below B2')).mono ?_
 rintro e w3 ⟨rfl, g3, s3, i3, t3⟩
 rw [World.size_setCell] at s3 i3 t3
 have B3 : Below w.heap.size w w3 := via0 g3 B2'
 have z1 : Blk w3 (w.heap.size + 1) 186 Qfn := (r1.other (by omega) _ _).below g3 (by rw [World.size_setCell]; omega)
 have z2 : Blk w3 (w.heap.size + 1 + 1) 186 (Qa3 gen (some ⟨w.heap.size + 1 + 1 + 1, 0, none⟩) m.length m.length (some ⟨X2, 0, none⟩) b.length b.length none 0 0) := (r2.setAt 2 (.slice (some ⟨X2, 0, none⟩) b.length b.length)).below g3 (by rw [World.size_setCell]; omega)
 have j1 := (i1'.set ⟨w.heap.size + 1 + 1, 2, none⟩ (.slice (some ⟨X2, 0, none⟩) b.length b.length) (by simp)).below (by rw [World.size_setCell]; omega) g3
 have k1 := Qaz (Qaj t1' (w.heap.size + 1 + 1) 2 (.slice (some ⟨X2, 0, none⟩) b.length b.length)) (by rw [World.size_setCell]; omega) g3
 have j2 := (i2.set ⟨w.heap.size + 1 + 1, 2, none⟩ (.slice (some ⟨X2, 0, none⟩) b.length b.length) (by simp; omega)).below (by rw [World.size_setCell]; omega) g3
 have k2 := Qaz (Qaj t2 (w.heap.size + 1 + 1) 2 (.slice (some ⟨X2, 0, none⟩) b.length b.length)) (by rw [World.size_setCell]; omega) g3
 rw [World.size_setCell]
 clear u0 u1 u2 u3 n0 n1 n2 n3 f0 f1 f2 f3 q0 q2 r0 r1 r2 g3 B2 B2' i1' t1' i2 t2
 obtain ⟨n0, n1, n2, n3⟩ := z2.row4
 obtain ⟨c0, c1, c2, c3⟩ := z1.row4
 have f0 := z2.thaw 0
 have f1 := z2.thaw 1
 have f2 := z2.thaw 2
 have f3 := z2.thaw 3
 have h0 := z1.thaw 0
 have h1 := z1.thaw 1
 have h2 := z1.thaw 2
 have h3 := z1.thaw 3
 have q1 := z1.lt
 have q2 := z2.lt
 generalize hX3 : w2.heap.size = X3 at *
 go_wp2
 refine bodyPost_ret (v := .agg (Qa3 gen (some ⟨w.heap.size + 1 + 1 + 1, 0, none⟩) m.length m.length (some ⟨X2, 0, none⟩) b.length b.length (some ⟨X3, 0, none⟩) o.length o.length)) (by simp [results, Tryz.results144, go_sem, c0, c1, c2, c3]) rfl ?_
 refine ⟨w.heap.size + 1 + 1 + 1, X2, X3, rfl, ?_, ?_⟩
 . exact Qa5 (Qa5 (Qa5 (Qa5 (Qa5 B3 (by omega) _) (by omega) _) (by omega) _) (by omega) _) (by omega) _
 . refine ⟨by omega, by omega, by omega, by simp only [World.size_setCell]; omega, ?_, ?_, ?_, ?_, ?_, ?_⟩
   . exact In.set (In.set (In.set (In.set (In.set j1 _ _ (by simp)) _ _ (by simp)) _ _ (by simp)) _ _ (by simp)) _ _ (by simp)
   . exact In.set (In.set (In.set (In.set (In.set j2 _ _ (by simp; omega)) _ _ (by simp; omega)) _ _ (by simp; omega)) _ _ (by simp; omega)) _ _ (by simp; omega)
   . exact In.set (In.set (In.set (In.set (In.set i3 _ _ (by simp; omega)) _ _ (by simp; omega)) _ _ (by simp; omega)) _ _ (by simp; omega)) _ _ (by simp; omega)
   . exact Qaj (Qaj (Qaj (Qaj (Qaj k1 _ _ _) _ _ _) _ _ _) _ _ _) _ _ _
   . exact Qaj (Qaj (Qaj (Qaj (Qaj k2 _ _ _) _ _ _) _ _ _) _ _ _) _ _ _
   . exact Qaj (Qaj (Qaj (Qaj (Qaj t3 _ _ _) _ _ _) _ _ _) _ _ _) _ _ _
theorem Qha (gen : Int) (A B C A' B' C' : Option Addr) (ca cb cc ca' cb' cc' : Nat) (m b o : List Int) (hm : m.length <= 9223372036854775807) (hb : b.length <= 9223372036854775807) (ho : o.length <= 9223372036854775807) (w : World)
 (hA : At w A m) (hB : At w B b) (hC : At w C o) (hA' : At w A' m) (hB' : At w B' b) (hC' : At w C' o) :
 Calls Tryz.prog 153 #[.agg (Qa3 gen A m.length ca B b.length cb C o.length cc), .agg (Qa3 gen A' m.length ca' B' b.length cb' C' o.length cc')] w fun e w' => e = .returned (.bool true) /\ Below w.heap.size w w' := by
 have HA := hidP hA
 have HB := hidP hB
 have HC := hidP hC
 have HA' := hidP hA'
 have HB' := hidP hB'
 have HC' := hidP hC'
 clear hA hB hC hA' hB' hC'
 go_enter Tryz.func153, Tryz.ntmps153
 go_wp2_with fail
 have B0 : Below w.heap.size w ((w.alloc (.cells (Qa3 gen A m.length ca B b.length cb C o.length cc) 186)).alloc (.cells (Qa3 gen A' m.length ca' B' b.length cb' C' o.length cc') 186)) := by repeat (first | exact Below.refl _ _ | assumption | refine via0 (by assumption) ?_ | refine Below.drew ?_ | refine Qab ?_ _)
 have p0 : Blk ((w.alloc (.cells (Qa3 gen A m.length ca B b.length cb C o.length cc) 186)).alloc (.cells (Qa3 gen A' m.length ca' B' b.length cb' C' o.length cc') 186)) w.heap.size 186 (Qa3 gen A m.length ca B b.length cb C o.length cc) := (Blk.new w 186 (Qa3 gen A m.length ca B b.length cb C o.length cc)).alloc _
 have p1 : Blk ((w.alloc (.cells (Qa3 gen A m.length ca B b.length cb C o.length cc) 186)).alloc (.cells (Qa3 gen A' m.length ca' B' b.length cb' C' o.length cc') 186)) (w.heap.size + 1) 186 (Qa3 gen A' m.length ca' B' b.length cb' C' o.length cc') := by simpa using Blk.new (w.alloc (.cells (Qa3 gen A m.length ca B b.length cb C o.length cc) 186)) 186 (Qa3 gen A' m.length ca' B' b.length cb' C' o.length cc')
 refine (Qbv A A' ca ca' m hm _ (HA.out.below B0) (HA'.out.below B0)).mono ?_
 rintro e w1 ⟨rfl, g1⟩
 have B1 := via0 g1 B0
 have r0 := p0.below g1 p0.lt
 have r1 := p1.below g1 p1.lt
 clear p0 p1 g1 B0
 obtain ⟨u0, u1, u2, u3⟩ := r0.row4
 obtain ⟨n0, n1, n2, n3⟩ := r1.row4
 go_wp2_with fail
 refine (Qbv B B' cb cb' b hb _ (HB.out.below B1) (HB'.out.below B1)).mono ?_
 rintro e w2 ⟨rfl, g2⟩
 have B2 := via0 g2 B1
 have s0 := r0.below g2 r0.lt
 have s1 := r1.below g2 r1.lt
 clear r0 r1 g2 B1 u0 u1 u2 u3 n0 n1 n2 n3
 obtain ⟨u0, u1, u2, u3⟩ := s0.row4
 obtain ⟨n0, n1, n2, n3⟩ := s1.row4
 go_wp2_with fail
 refine (Qbv C C' cc cc' o ho _ (HC.out.below B2) (HC'.out.below B2)).mono ?_
 rintro e w3 ⟨rfl, g3⟩
 have B3 := via0 g3 B2
 go_wp2
 go_ret
 exact ⟨rfl, B3⟩
theorem cellsGroup : Tryz.prog.cellsOf 218 = 4 := by kernel_rfl
structure GC where
  gen : Int
  a1 : Option Addr
  c1 : Nat
  m : List Int
  a2 : Option Addr
  c2 : Nat
  b : List Int
  a3 : Option Addr
  c3 : Nat
  o : List Int
instance : Inhabited GC := ⟨⟨0, none, 0, [], none, 0, [], none, 0, []⟩⟩
instance : Cel GC where
  k := 4
  cs x := [.int .i64 x.gen, .slice x.a1 x.m.length x.c1, .slice x.a2 x.b.length x.c2, .slice x.a3 x.o.length x.c3]
  len _ := rfl
  one x u hu := by simp at hu; rcases hu with rfl | rfl | rfl | rfl<;>rfl
structure PG where
  gen : Int
  m : List Int
  b : List Int
  o : List Int
def GC.p (x : GC) : PG := ⟨x.gen, x.m, x.b, x.o⟩
def GC.right (x : GC) : Prop := I64 x.gen /\ (x.m.length <= 9223372036854775807 /\ x.b.length <= 9223372036854775807 /\ x.o.length <= 9223372036854775807) /\ (∀ y ∈ x.m, I64 y) /\ (∀ y ∈ x.b, I64 y) /\ ∀ y ∈ x.o, I64 y
def atG (w : World) (x : GC) : Prop := At w x.a1 x.m /\ At w x.a2 x.b /\ At w x.a3 x.o
theorem atG.below {w w' : World} {x : GC} (h : atG w x) (hw : Below w.heap.size w w') : atG w' x := ⟨h.1.below hw, h.2.1.below hw, h.2.2.below hw⟩
def EachG (w : World) (l : List GC) : Prop := ∀ x ∈ l, atG w x
theorem EachG.below {w w' : World} {l : List GC} (h : EachG w l) (hw : Below w.heap.size w w') : EachG w' l := fun x hx => (h x hx).below hw
def grpP (w : World) (x : GC) (S : Nat -> Prop) : Prop :=
  ∃ S1 S2 S3 : Nat -> Prop, (∀ y, S1 y -> S y) /\ (∀ y, S2 y -> S y) /\ (∀ y, S3 y -> S y) /\ (∀ y, S1 y -> ¬ S2 y) /\ (∀ y, S1 y -> ¬ S3 y) /\ (∀ y, S2 y -> ¬ S3 y) /\ Sub w x.a1 x.m S1 /\ Sub w x.a2 x.b S2 /\ Sub w x.a3 x.o S3
theorem Qbq : Firm grpP := fun w w' x S T ⟨S1, S2, S3, i1, i2, i3, d1, d2, d3, s1, s2, s3⟩ k hd =>
 ⟨S1, S2, S3, i1, i2, i3, d1, d2, d3, s1.offp k (fun y hy => hd y (i1 y hy)), s2.offp k (fun y hy => hd y (i2 y hy)), s3.offp k (fun y hy => hd y (i3 y hy))⟩
theorem grpP_at {w : World} {x : GC} {S : Nat -> Prop} (h : grpP w x S) : atG w x := by
 obtain ⟨S1, S2, S3, i1, i2, i3, d1, d2, d3, s1, s2, s3⟩ := h
 exact ⟨s1.at, s2.at, s3.at⟩
theorem grpP_each {S : Nat -> Prop} {w : World} {a : Option Addr} {l : List GC} (h : Own grpP w a l S) : EachG w l := h.each (fun x S hx => grpP_at hx)
theorem In.getGC {w : World} {b o : Nat} {l : List GC} (h : In w b o l) (i : Nat) (hi : i < l.length) :
 w.cell? ⟨b, o + i * 4, none⟩ = some (.int .i64 l[i].gen) /\ w.cell? ⟨b, o + i * 4 + 1, none⟩ = some (.slice l[i].a1 l[i].m.length l[i].c1) /\ w.cell? ⟨b, o + i * 4 + 2, none⟩ = some (.slice l[i].a2 l[i].b.length l[i].c2) /\ w.cell? ⟨b, o + i * 4 + 3, none⟩ = some (.slice l[i].a3 l[i].o.length l[i].c3) :=
 ⟨h.cell i hi (f := 0) rfl, h.cell i hi (f := 1) rfl, h.cell i hi (f := 2) rfl, h.cell i hi (f := 3) rfl⟩
theorem infoGC : (Tryz.prog.info? 186).map (fun i => (i.zero, i.size, i.bytes)) = some (some (.agg Qfn), 4, 80) := by kernel_rfl
def szGC (x : GC) : Nat := x.m.length + x.b.length + x.o.length
theorem Qgo (A : Option Addr) (cap : Nat) (l : List GC) (hl : l.length <= 9223372036854775807) (hr : ∀ x ∈ l, x.right) (left : Int) (h0 : 0 <= left) (h1 : left <= 1048576) (w : World) (hA : At w A l) (hE : EachG w l) :
 Calls Tryz.prog 110 #[.slice A l.length cap, .int .i64 left] w fun e w' => (∃ r : Int, e = .returned (.int .i64 r) /\ (r < 0 ∨ (0 <= r /\ r = left - (l.length : Int) - (Qat szGC l : Int)))) /\ Below w.heap.size w w' := by
 have HA := hidP hA
 have Hr := hidP hr
 have HE := hidP hE
 clear hA hr hE
 by_cases h : left < (l.length : Int)
 . have g : left - (l.length : Int) < 0 := by omega
   go_enter Tryz.func110, Tryz.ntmps110
   go_wp2
   go_ret
   exact ⟨⟨-1, rfl, .inl (by omega)⟩, Below.refl _ _⟩
 . have g : ¬ left - (l.length : Int) < 0 := by omega
   go_enter Tryz.func110, Tryz.ntmps110
   go_wp2
   go_loopw [1, 5] (fun q i w' => ∃ (n : Nat) (z : Int), i = .int .i64 (n : Int) /\ q = .int .i64 z /\ n <= l.length /\ 0 <= z /\ z <= 1048576 /\ Hid (z = left - (l.length : Int) - (Qat szGC (l.take n) : Int)) /\ Below w.heap.size w w') (fun _ i _ => l.length - (intOf i).toNat)
   case atStart => exact ⟨0, _, rfl, rfl, by omega, by omega, by omega, by simp [Hid, Qat], Below.refl _ _⟩
   case round =>
    obtain ⟨n, z, rfl, rfl, hn, hz0, hz1, hz, hbl⟩ := hrel
    by_cases hlt : n < l.length
    . obtain ⟨b, o, rfl, hbs, hIn⟩ : ∃ b o, A = some ⟨b, o, none⟩ /\ b < w.heap.size /\ In w b o l := by
       rcases HA.out with h | h
       . subst h; simp at hlt
       . exact h
      obtain ⟨c0, c1, c2, c3⟩ := (hIn.below hbs hbl).getGC n hlt
      have hms := hidP (Hr.out _ (List.getElem_mem hlt))
      have hsn := hidP (Qbl szGC l n hlt)
      by_cases hs : z < ((l[n].m.length + l[n].b.length + l[n].o.length : Nat) : Int)
      . go_wp2_with fail
        refine (Qeb _ _ _ _ _ _ _ _ _ _ hms.out.2.1.1 hms.out.2.1.2.1 hms.out.2.1.2.2 z hz0 hz1 _).mono ?_
        rw [if_pos hs]
        rintro e w1 ⟨rfl, g1⟩
        go_wp2
        go_ret
        exact ⟨⟨-1, rfl, .inl (by omega)⟩, via0 g1 hbl⟩
      . obtain ⟨r, hr⟩ : ∃ r : Int, r = z - ((l[n].m.length + l[n].b.length + l[n].o.length : Nat) : Int) := ⟨_, rfl⟩
        have hp : ¬ r < 0 := by omega
        have HS := hidP hs
        have HR1 := hidP hr
        clear hr hs
        go_wp2_with fail
        refine (Qeb _ _ _ _ _ _ _ _ _ _ hms.out.2.1.1 hms.out.2.1.2.1 hms.out.2.1.2.2 z hz0 hz1 _).mono ?_
        rw [if_neg (by have := HS.out; omega), ← HR1.out]
        rintro e w1 ⟨rfl, g1⟩
        go_wp2
        have hz' := hz.out
        have hsn' := hsn.out
        have hr' := HR1.out
        exact ⟨⟨n + 1, r, by go_num, rfl, by omega, by omega, by omega, by show _ = _; rw [hsn', hr', hz']; simp only [szGC]; omega, via0 g1 hbl⟩, by simp [intOf]; omega⟩
    . have e : l.take n = l := List.take_of_length_le (by omega)
      go_wp2
      go_ret
      have hz' := hz.out
      rw [e] at hz'
      exact ⟨⟨z, rfl, .inr ⟨hz0, hz'⟩⟩, hbl⟩
theorem three_P {n : Nat} {w : World} {x y z : Nat} {m b o : List Int} {gen : Int} {c1 c2 c3 : Nat} (h : Three n w x y z m b o) : grpP w ⟨gen, some ⟨x, 0, none⟩, c1, m, some ⟨y, 0, none⟩, c2, b, some ⟨z, 0, none⟩, c3, o⟩ (fun i => i = x ∨ i = y ∨ i = z) := by
 have h2 := h.xy; have h3 := h.yz; have h4 := h.zs
 exact ⟨fun i => i = x, fun i => i = y, fun i => i = z, fun _ e => .inl e, fun _ e => .inr (.inl e), fun _ e => .inr (.inr e), fun _ e e' => by omega, fun _ e e' => by omega, fun _ e e' => by omega,
  .inr ⟨x, 0, rfl, rfl, by omega, h.im, h.tm⟩, .inr ⟨y, 0, rfl, rfl, by omega, h.ib, h.tb⟩, .inr ⟨z, 0, rfl, rfl, h.zs, h.io, h.to⟩⟩
theorem Qgj (A : Option Addr) (cap : Nat) (l : List GC) (hl : l.length <= 1048576) (hr : ∀ x ∈ l, x.m.length <= 1048576 /\ x.b.length <= 1048576 /\ x.o.length <= 1048576) (w : World) (hA : At w A l) (hE : EachG w l) :
 Calls Tryz.prog 121 #[.slice A l.length cap] w fun e w' => e = .returned (.slice (some ⟨w.heap.size, 0, none⟩) l.length l.length) /\ Below w.heap.size w w' /\ ∃ l', Grow grpP w' w.heap.size l.length l' /\ l'.map GC.p = l.map GC.p := by
 have HA := hidP hA
 have HE := hidP hE
 have Hr := hidP hr
 clear hA hE hr
 have hmk := Qbg (P := Tryz.prog) Tryz.underlying56 infoGC (by omega) l.length hl
 go_enter Tryz.func121, Tryz.ntmps121
 go_wp2
 go_loopw [4] (fun i w' => ∃ (n : Nat) (pre : List GC), i = .int .i64 (n : Int) /\ n <= l.length /\ Below w.heap.size w w' /\ w.heap.size < w'.heap.size /\ Hid (pre.length = n) /\ Hid (Grow grpP w' w.heap.size l.length pre) /\ Hid (pre.map GC.p = (l.take n).map GC.p)) (fun i _ => l.length - (intOf i).toNat)
 case atStart => exact ⟨0, [], rfl, by omega, by repeat (first | exact Below.refl _ _ | assumption | refine via0 (by assumption) ?_ | refine Below.drew ?_ | refine Qab ?_ _), by simp, rfl, Grow.start (by simp) (Qa0 w _ _ _ _), by simp [Hid]⟩
 case round =>
  obtain ⟨n, pre, rfl, hn, hbl, hsz, hpl, hgr, hsame⟩ := hrel
  by_cases hlt : n < l.length
  . obtain ⟨b, o, rfl, hbs, hIn⟩ : ∃ b o, A = some ⟨b, o, none⟩ /\ b < w.heap.size /\ In w b o l := by
     rcases HA.out with h | h
     . subst h; simp at hlt
     . exact h
    obtain ⟨c0, c1, c2, c3⟩ := (hIn.below hbs hbl).getGC n hlt
    have hms := Hr.out _ (List.getElem_mem hlt)
    have hat := hidP ((HE.out _ (List.getElem_mem hlt)).below hbl)
    obtain ⟨⟨v0, d0⟩, f0⟩ := Qah (f := 0) hgr.out.th hlt (by decide)
    obtain ⟨⟨v1, d1⟩, f1⟩ := Qah (f := 1) hgr.out.th hlt (by decide)
    obtain ⟨⟨v2, d2⟩, f2⟩ := Qah (f := 2) hgr.out.th hlt (by decide)
    obtain ⟨⟨v3, d3⟩, f3⟩ := Qah (f := 3) hgr.out.th hlt (by decide)
    simp only [Nat.zero_add, Nat.add_zero, show Cel.k GC = 4 from rfl] at d0 f0 d1 f1 d2 f2 d3 f3
    go_wp2_with (go_at_call 144; refine (Qhr _ _ _ _ _ _ _ _ _ _ hms.1 hms.2.1 hms.2.2 _ hat.out.1 hat.out.2.1 hat.out.2.2).mono ?_; rintro e w1 ⟨bx, by1, bz, rfl, g1, h3⟩; obtain ⟨k1, m1⟩ := Qax g1; have s1 := g1.size; have H3 := hidP h3; clear h3)
    have hpl' := hpl.out
    have t3 := H3.out
    have hst := hgr.out.snoc Qbq (by omega) g1 (y := (⟨l[n].gen, some ⟨bx, 0, none⟩, l[n].m.length, l[n].m, some ⟨by1, 0, none⟩, l[n].b.length, l[n].b, some ⟨bz, 0, none⟩, l[n].o.length, l[n].o⟩ : GC)) (S := fun x => x = bx ∨ x = by1 ∨ x = bz) (three_P H3.out) (fun x hx => by have h1 := t3.nx; have h2 := t3.xy; have h3 := t3.yz; have h4 := t3.zs; rcases hx with rfl | rfl | rfl<;>exact ⟨by omega, by omega⟩)
    rw [hpl'] at hst
    refine ⟨⟨n + 1, _, by go_num, by omega, ?_, by simp; omega, ?_, hst, ?_⟩, by simp [intOf]; omega⟩
    . exact (((((via0 g1 hbl).setCell (Nat.le_refl _) _).setCell (Nat.le_refl _) _).setCell (Nat.le_refl _) _).setCell (Nat.le_refl _) _)
    . show _ = _; simp [hpl']
    . show _ = _
      rw [List.map_append, hsame.out, List.take_succ_eq_append_getElem hlt, List.map_append]
      rfl
  . have e : l.take n = l := List.take_of_length_le (by omega)
    go_wp2
    go_ret
    exact ⟨rfl, hbl, pre, hgr.out, by rw [hsame.out, e]⟩
theorem Qf7 (A A' : Option Addr) (cap cap' : Nat) (l l' : List GC) (hl : l.length <= 9223372036854775807) (hr : ∀ x ∈ l, x.m.length <= 9223372036854775807 /\ x.b.length <= 9223372036854775807 /\ x.o.length <= 9223372036854775807) (hsame : l'.map GC.p = l.map GC.p) (w : World) (hA : At w A l) (hE : EachG w l) (hA' : At w A' l') (hE' : EachG w l') :
 Calls Tryz.prog 133 #[.slice A l.length cap, .slice A' l.length cap'] w fun e w' => e = .returned (.bool true) /\ Below w.heap.size w w' := by
 have HA := hidP hA
 have HE := hidP hE
 have HA' := hidP hA'
 have HE' := hidP hE'
 have Hr := hidP hr
 have HS := hidP hsame
 have HLL : Hid (l'.length = l.length) := by have := congrArg List.length hsame; show _ = _; simpa using this
 clear hA hE hA' hE' hr hsame
 go_enter Tryz.func133, Tryz.ntmps133
 go_wp2
 go_loopw [5] (fun i w' => ∃ (n : Nat), i = .int .i64 (n : Int) /\ n <= l.length /\ Below w.heap.size w w') (fun i _ => l.length - (intOf i).toNat)
 case atStart => exact ⟨0, rfl, by omega, Below.refl _ _⟩
 case round =>
  obtain ⟨n, rfl, hn, hbl⟩ := hrel
  by_cases hlt : n < l.length
  . have hll := HLL.out
    obtain ⟨b, o, rfl, hbs, hin⟩ : ∃ b o, A = some ⟨b, o, none⟩ /\ b < w.heap.size /\ In w b o l := by
     rcases HA.out with h | h
     . subst h; simp at hlt
     . exact h
    obtain ⟨b', o', rfl, hbs', hin'⟩ : ∃ b o, A' = some ⟨b, o, none⟩ /\ b < w.heap.size /\ In w b o l' := by
     rcases HA'.out with h | h
     . subst h; simp at hll; omega
     . exact h
    have hp : (l'[n]'(by omega)).p = l[n].p := by
     have h1 : (l'.map GC.p)[n]'(by simp; omega) = (l.map GC.p)[n]'(by simpa using hlt) := by simp only [HS.out]
     simpa using h1
    obtain ⟨c0, c1, c2, c3⟩ := (hin.below hbs hbl).getGC n hlt
    obtain ⟨d0, d1, d2, d3⟩ := (hin'.below hbs' hbl).getGC n (by omega)
    have hat := HE.out _ (List.getElem_mem hlt)
    have hat' := HE'.out _ (List.getElem_mem (show n < l'.length by omega))
    have hms := Hr.out _ (List.getElem_mem hlt)
    generalize l'[n]'(by omega) = y at hp d0 d1 d2 d3 hat'
    generalize l[n] = x at hp c0 c1 c2 c3 hat hms
    obtain ⟨yg, y1, yc1, ym, y2, yc2, yb, y3, yc3, yo⟩ := y
    obtain ⟨xg, x1, xc1, xm, x2, xc2, xb, x3, xc3, xo⟩ := x
    simp only [GC.p, PG.mk.injEq] at hp
    obtain ⟨rfl, rfl, rfl, rfl⟩ := hp
    simp only at c0 c1 c2 c3 d0 d1 d2 d3 hms
    have Hat := hidP (hat.below hbl)
    have Hat' := hidP (hat'.below hbl)
    clear hat hat' hll
    have hb1 : b < wr.heap.size := Nat.lt_of_lt_of_le hbs hbl.size
    have hb2 : b' < wr.heap.size := Nat.lt_of_lt_of_le hbs' hbl.size
    have hi0 : (0 : Int) <= (n : Int) := by omega
    have hi1 : (n : Int) < (l.length : Int) := by omega
    go_wp2
    go_region_held3 (fun w' => w'.cell? ⟨b, o + n * 4, none⟩ = some (.int .i64 yg) /\ w'.cell? ⟨b, o + n * 4 + 1, none⟩ = some (.slice x1 ym.length xc1) /\ w'.cell? ⟨b, o + n * 4 + 2, none⟩ = some (.slice x2 yb.length xc2) /\ w'.cell? ⟨b, o + n * 4 + 3, none⟩ = some (.slice x3 yo.length xc3) /\
     w'.cell? ⟨b', o' + n * 4, none⟩ = some (.int .i64 yg) /\ w'.cell? ⟨b', o' + n * 4 + 1, none⟩ = some (.slice y1 ym.length yc1) /\ w'.cell? ⟨b', o' + n * 4 + 2, none⟩ = some (.slice y2 yb.length yc2) /\ w'.cell? ⟨b', o' + n * 4 + 3, none⟩ = some (.slice y3 yo.length yc3) /\ wr.heap.size <= w'.heap.size)
     (first | (go_split_ands; refine ⟨?_, ?_, ?_, ?_, ?_, ?_, ?_, ?_, ?_⟩<;>first | assumption | exact (k1 _ _ hb1).trans (by assumption) | exact (k1 _ _ hb2).trans (by assumption) | exact s1 | (simp; done)) | go_keep)
     (first
      | (go_at_call 153; refine (Qha _ _ _ _ _ _ _ _ _ _ _ _ _ ym yb yo hms.1 hms.2.1 hms.2.2 _ (Hat.out.1.below (Below.drew (Below.refl _ _))) (Hat.out.2.1.below (Below.drew (Below.refl _ _))) (Hat.out.2.2.below (Below.drew (Below.refl _ _))) (Hat'.out.1.below (Below.drew (Below.refl _ _))) (Hat'.out.2.1.below (Below.drew (Below.refl _ _))) (Hat'.out.2.2.below (Below.drew (Below.refl _ _)))).mono ?_; rintro e w1 ⟨rfl, g1⟩; obtain ⟨k1, m1⟩ := Qax g1; have s1 := g1.size))
    all_goals
     go_wp2
     exact ⟨⟨n + 1, by go_num, by omega, via0 g1 hbl.drew⟩, by simp [intOf]; omega⟩
  . go_wp2
    go_ret
    exact ⟨rfl, hbl⟩
def cG (x : GC) : Nat := 1 + x.m.length + x.b.length + x.o.length
theorem openGC {H : Type} {enc : TypeId × Value -> H} {w : World} {base n : Nat} {spare : Nat -> Bool} {held : Bool} {a : Addr} {cs : List Value} {y : DataW H × List MemPlace}
 (h1 : w.cells? base a 4 = some cs) (h2 : DataW.trod enc Tryz.prog w base spare held n 218 cs = some y) :
 ∃ x : GC, (x.right /\ atG w x) /\ a.spot = none /\ a.block < w.heap.size /\ ∀ j v, (Cel.cs x)[j]? = some v -> w.cell? ⟨a.block, a.off + j, none⟩ = some v := by
 obtain ⟨_, hlen, hc⟩ := World.cells?_some h1
 match cs, hlen with
 | [c0, c1, c2, c3], _ =>
  obtain ⟨m, hf⟩ := Qbi Tryz.underlying218 (by kernel_rfl) h2
  obtain ⟨y0, g0⟩ := hf 0 _ rfl _ rfl
  obtain ⟨y1, g1⟩ := hf 1 _ rfl _ rfl
  obtain ⟨y2, g2⟩ := hf 2 _ rfl _ rfl
  obtain ⟨y3, g3⟩ := hf 3 _ rfl _ rfl
  obtain ⟨gen, e0, _, w0⟩ := DataW.trod_int Tryz.underlying3 g0
  simp at e0
  subst e0
  obtain ⟨A, ca, ms, rfl, p1, p2, p3⟩ := Qcc g1
  obtain ⟨B, cb, bs, rfl, b1, b2, b3⟩ := Qcc g2
  obtain ⟨C, cc, os, rfl, o1, o2, o3⟩ := Qcc g3
  have q0 := hc 0 (by omega)
  have hsp : a.spot = none := by
   cases hs : a.spot with
   | none => rfl
   | some s => exfalso; simp [Addr.add, World.cell?, hs] at q0; split at q0<;>simp at q0
  have hlt : a.block < w.heap.size := by
   rw [show a.add 0 = a from rfl] at q0
   unfold World.cell? at q0
   cases hh : w.heap[a.block]? with
   | none => simp [hh] at q0
   | some ob => exact (Array.getElem?_eq_some_iff.1 hh).1
  refine ⟨⟨gen, A, ca, ms, B, cb, bs, C, cc, os⟩, ⟨⟨Qa8 w0, ⟨p1, b1, o1⟩, p2, b2, o2⟩, p3, b3, o3⟩, hsp, hlt, ?_⟩
  intro j v hv
  have hj : j < 4 := (List.getElem?_eq_some_iff.1 hv).1
  have q := hc j hj
  have e : a.add j = ⟨a.block, a.off + j, none⟩ := by
   obtain ⟨b, o, s⟩ := a
   simp only at hsp
   subst hsp
   exact Addr.add_mid b o j
  rw [e] at q
  rw [q]
  exact hv
theorem Qfi {H : Type} {enc : TypeId × Value -> H} {W : World} {base n : Nat} {spare : Nat -> Bool} {held : Bool} {c : Value} {y : DataW H × List MemPlace}
 (g : DataW.trod enc Tryz.prog W base spare held n 89 [c] = some y) :
 ∃ (A : Option Addr) (cap : Nat) (l : List GC), c = .slice A l.length cap /\ l.length <= 9223372036854775807 /\ (∀ x ∈ l, x.right) /\ At W A l /\ EachG W l := by
 rcases open_slice Tryz.underlying89 g with ⟨e2, _⟩ | ⟨a, len, cap, m, n', D, Pl, e2, _, hl, hm, hmm, _, hx⟩
 . simp at e2
   subst e2
   exact ⟨none, 0, [], rfl, by simp, by simp, .inl rfl, by simp [EachG]⟩
 . simp at e2
   subst e2
   have hle : len <= m := by rw [hmm]; split<;>omega
   rw [cellsGroup] at hx
   obtain ⟨X, hX⟩ := choose_lt (α := GC) (p := fun i x => (x.right /\ atG W x) /\ (a.add (i * 4)).spot = none /\ (a.add (i * 4)).block < W.heap.size /\ ∀ j v, (Cel.cs x)[j]? = some v -> W.cell? ⟨(a.add (i * 4)).block, (a.add (i * 4)).off + j, none⟩ = some v)
    (n := len) (fun i hi => by obtain ⟨cs', h1, h2⟩ := hx i (by omega); exact openGC h1 h2)
   obtain ⟨l, rfl, hR, hat⟩ := Qdo (α := GC) (by decide) (R := fun x => x.right /\ atG W x) hX
   exact ⟨some a, cap, l, rfl, by simp [maxLen] at hm ⊢; omega, fun x hx => (hR x hx).1, hat, fun x hx => (hR x hx).2⟩
end Go.Proofs.YtkmkldjipihceaaGreat.Gen
