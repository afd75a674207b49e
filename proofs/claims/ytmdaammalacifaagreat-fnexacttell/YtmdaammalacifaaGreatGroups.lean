/-
  Group: what the laws' to, sz, eq, mark and held functions of it do; the argument opened. No condition but that its lists have at most 1048576 numbers.
-/
import Derived.Test.YtmdaammalacifaaGreatInts
set_option linter.unusedVariables false
set_option linter.unusedSimpArgs false
set_option maxRecDepth 100000
set_option maxHeartbeats 8000000
namespace Go.Proofs.YtmdaammalacifaaGreat.Gen
open ChangeShapes WideShapes ChangeAt RowKit Joins Deep Base
theorem Qdx (gen : Int) (A B C : Option Addr) (nm nb no ca cb cc : Nat) (hm : nm <= 9223372036854775807) (hb : nb <= 9223372036854775807) (ho : no <= 9223372036854775807) (left : Int) (h0 : 0 <= left) (h1 : left <= 1048576) (w : World) :
 Calls Tryz.prog 103 #[.agg #[.int .i64 gen, .slice A nm ca, .slice B nb cb, .slice C no cc], .int .i64 left] w fun e w' => e = .returned (.int .i64 (if left < (nm + nb + no : Nat) then -1 else left - (nm + nb + no : Nat))) /\ Below w.heap.size w w' := by
 generalize hans : (if left < ((nm + nb + no : Nat) : Int) then (-1 : Int) else left - ((nm + nb + no : Nat) : Int)) = ans
 have Hans := hidP hans
 clear hans
 go_enter Tryz.func103, Tryz.ntmps103
 go_wp2_with fail
 refine (Qcf A nm ca hm left h0 h1 _).mono ?_
 by_cases k1 : left < nm
 . rw [if_pos k1]
   rintro e w1 ⟨rfl, rfl⟩
   have e : ans = -1 := by rw [← Hans.out, if_pos (by omega)]
   subst e
   go_wp2
   go_ret
   exact ⟨rfl, by repeat (first | exact Below.refl _ _ | assumption | refine via0 (by assumption) ?_ | refine Below.drew ?_ | refine Qab ?_ _)⟩
 rw [if_neg k1]
 rintro e w1 ⟨rfl, rfl⟩
 have k1' : ¬ left - (nm : Int) < 0 := by omega
 go_wp2_with fail
 refine (Qcf B nb cb hb (left - nm) (by omega) (by omega) _).mono ?_
 by_cases k2 : left - nm < nb
 . rw [if_pos k2]
   rintro e w1 ⟨rfl, rfl⟩
   have e : ans = -1 := by rw [← Hans.out, if_pos (by omega)]
   subst e
   go_wp2
   go_ret
   exact ⟨rfl, by repeat (first | exact Below.refl _ _ | assumption | refine via0 (by assumption) ?_ | refine Below.drew ?_ | refine Qab ?_ _)⟩
 rw [if_neg k2]
 rintro e w1 ⟨rfl, rfl⟩
 have k2' : ¬ left - (nm : Int) - (nb : Int) < 0 := by omega
 go_wp2_with fail
 refine (Qcf C no cc ho (left - nm - nb) (by omega) (by omega) _).mono ?_
 by_cases k3 : left - nm - nb < no
 . rw [if_pos k3]
   rintro e w1 ⟨rfl, rfl⟩
   have e : ans = -1 := by rw [← Hans.out, if_pos (by omega)]
   subst e
   go_wp2
   go_ret
   exact ⟨rfl, by repeat (first | exact Below.refl _ _ | assumption | refine via0 (by assumption) ?_ | refine Below.drew ?_ | refine Qab ?_ _)⟩
 rw [if_neg k3]
 rintro e w1 ⟨rfl, rfl⟩
 have k3' : ¬ left - (nm : Int) - (nb : Int) - (no : Int) < 0 := by omega
 have e : ans = left - (nm : Int) - (nb : Int) - (no : Int) := by rw [← Hans.out, if_neg (by omega)]; omega
 subst e
 go_wp2
 go_ret
 exact ⟨rfl, by repeat (first | exact Below.refl _ _ | assumption | refine via0 (by assumption) ?_ | refine Below.drew ?_ | refine Qab ?_ _)⟩
structure Three (n : Nat) (w : World) (x y z : Nat) (m b o : List Int) : Prop where
  nx : n <= x
  xy : x < y
  yz : y < z
  zs : z < w.heap.size
  im : In w x 0 m
  ib : In w y 0 b
  io : In w z 0 o
  tm : w.there x 0 (m.length * 1)
  tb : w.there y 0 (b.length * 1)
  to : w.there z 0 (o.length * 1)
theorem Qgm (gen : Int) (A B C : Option Addr) (ca cb cc : Nat) (m b o : List Int) (hm : m.length <= 1048576) (hb : b.length <= 1048576) (ho : o.length <= 1048576) (w : World) (hA : At w A m) (hB : At w B b) (hC : At w C o) :
 Calls Tryz.prog 112 #[.agg #[.int .i64 gen, .slice A m.length ca, .slice B b.length cb, .slice C o.length cc]] w
  fun e w' => ∃ x y z, e = .returned (.agg #[.int .i64 gen, .slice (some ⟨x, 0, none⟩) m.length m.length, .slice (some ⟨y, 0, none⟩) b.length b.length, .slice (some ⟨z, 0, none⟩) o.length o.length]) /\ Below w.heap.size w w' /\ Three w.heap.size w' x y z m b o := by
 have HA := hidP hA
 have HB := hidP hB
 have HC := hidP hC
 clear hA hB hC
 go_enter Tryz.func112, Tryz.ntmps112
 go_wp2_with fail
 refine (Qcd A ca m hm _ (HA.out.below (by repeat (first | exact Below.refl _ _ | assumption | refine via0 (by assumption) ?_ | refine Below.drew ?_ | refine Qab ?_ _)))).mono ?_
 rintro e w1 ⟨rfl, g1, s1, i1, t1⟩
 have B1 : Below w.heap.size w w1 := via0 g1 (by repeat (first | exact Below.refl _ _ | assumption | refine via0 (by assumption) ?_ | refine Below.drew ?_ | refine Qab ?_ _))
 have p0 : Blk w1 w.heap.size 159 #[.int .i64 gen, .slice A m.length ca, .slice B b.length cb, .slice C o.length cc] := (((Blk.new w 159 #[.int .i64 gen, .slice A m.length ca, .slice B b.length cb, .slice C o.length cc]).alloc _).alloc _).below g1 (by simp; omega)
 have p1 : Blk w1 (w.heap.size + 1) 173 #[.int .i64 0, .slice none 0 0, .slice none 0 0, .slice none 0 0] := by
  have := ((Blk.new (w.alloc (.cells #[.int .i64 gen, .slice A m.length ca, .slice B b.length cb, .slice C o.length cc] 159)) 173 #[.int .i64 0, .slice none 0 0, .slice none 0 0, .slice none 0 0]).alloc _).below g1 (by simp)
  simpa using this
 have p2 : Blk w1 (w.heap.size + 1 + 1) 173 #[.int .i64 gen, .slice none 0 0, .slice none 0 0, .slice none 0 0] := by
  have := (Blk.new ((w.alloc (.cells #[.int .i64 gen, .slice A m.length ca, .slice B b.length cb, .slice C o.length cc] 159)).alloc (.cells #[.int .i64 0, .slice none 0 0, .slice none 0 0, .slice none 0 0] 173)) 173 #[.int .i64 gen, .slice none 0 0, .slice none 0 0, .slice none 0 0]).below g1 (by simp)
  simpa using this
 simp only [World.size_alloc] at s1 i1 t1 ⊢
 clear g1
 obtain ⟨u0, u1, u2, u3⟩ := p0.row4
 obtain ⟨n0, n1, n2, n3⟩ := p2.row4
 have f0 := p2.thaw 0
 have f1 := p2.thaw 1
 have f2 := p2.thaw 2
 have f3 := p2.thaw 3
 have q0 := p0.lt
 have q2 := p2.lt
 go_wp2_with fail
 have B1' : Below w.heap.size w (w1.setCell ⟨w.heap.size + 1 + 1, 1, none⟩ (.slice (some ⟨w.heap.size + 1 + 1 + 1, 0, none⟩) m.length m.length)) := Qal B1 (by omega) _
 refine (Qcd B cb b hb _ (HB.out.below B1')).mono ?_
 rintro e w2 ⟨rfl, g2, s2, i2, t2⟩
 rw [World.size_setCell] at s2 i2 t2
 have B2 : Below w.heap.size w w2 := via0 g2 B1'
 have r0 : Blk w2 w.heap.size 159 #[.int .i64 gen, .slice A m.length ca, .slice B b.length cb, .slice C o.length cc] := (p0.other (by omega) _ _).below g2 (by rw [World.size_setCell]; omega)
 have r1 : Blk w2 (w.heap.size + 1) 173 #[.int .i64 0, .slice none 0 0, .slice none 0 0, .slice none 0 0] := (p1.other (by omega) _ _).below g2 (by rw [World.size_setCell]; omega)
 have r2 : Blk w2 (w.heap.size + 1 + 1) 173 #[.int .i64 gen, (.slice (some ⟨w.heap.size + 1 + 1 + 1, 0, none⟩) m.length m.length), .slice none 0 0, .slice none 0 0] := (p2.setAt 1 (.slice (some ⟨w.heap.size + 1 + 1 + 1, 0, none⟩) m.length m.length)).below g2 (by rw [World.size_setCell]; omega)
 have i1' := (i1.set ⟨w.heap.size + 1 + 1, 1, none⟩ (.slice (some ⟨w.heap.size + 1 + 1 + 1, 0, none⟩) m.length m.length) (by simp)).below (by rw [World.size_setCell]; omega) g2
 have t1' := Qa3 (Qah t1 (w.heap.size + 1 + 1) 1 (.slice (some ⟨w.heap.size + 1 + 1 + 1, 0, none⟩) m.length m.length)) (by rw [World.size_setCell]; omega) g2
 rw [World.size_setCell]
 clear u0 u1 u2 u3 n0 n1 n2 n3 f0 f1 f2 f3 q0 q2 p0 p1 p2 g2 B1 B1' i1 t1
 obtain ⟨u0, u1, u2, u3⟩ := r0.row4
 obtain ⟨n0, n1, n2, n3⟩ := r2.row4
 have f0 := r2.thaw 0
 have f1 := r2.thaw 1
 have f2 := r2.thaw 2
 have f3 := r2.thaw 3
 have q0 := r0.lt
 have q2 := r2.lt
 generalize hX2 : w1.heap.size = X2 at *
 go_wp2_with fail
 have B2' : Below w.heap.size w (w2.setCell ⟨w.heap.size + 1 + 1, 2, none⟩ (.slice (some ⟨X2, 0, none⟩) b.length b.length)) := Qal B2 (by omega) _
 refine (Qcd C cc o ho _ (HC.out.below B2')).mono ?_
 rintro e w3 ⟨rfl, g3, s3, i3, t3⟩
 rw [World.size_setCell] at s3 i3 t3
 have B3 : Below w.heap.size w w3 := via0 g3 B2'
 have z1 : Blk w3 (w.heap.size + 1) 173 #[.int .i64 0, .slice none 0 0, .slice none 0 0, .slice none 0 0] := (r1.other (by omega) _ _).below g3 (by rw [World.size_setCell]; omega)
 have z2 : Blk w3 (w.heap.size + 1 + 1) 173 #[.int .i64 gen, (.slice (some ⟨w.heap.size + 1 + 1 + 1, 0, none⟩) m.length m.length), (.slice (some ⟨X2, 0, none⟩) b.length b.length), .slice none 0 0] := (r2.setAt 2 (.slice (some ⟨X2, 0, none⟩) b.length b.length)).below g3 (by rw [World.size_setCell]; omega)
 have j1 := (i1'.set ⟨w.heap.size + 1 + 1, 2, none⟩ (.slice (some ⟨X2, 0, none⟩) b.length b.length) (by simp)).below (by rw [World.size_setCell]; omega) g3
 have k1 := Qa3 (Qah t1' (w.heap.size + 1 + 1) 2 (.slice (some ⟨X2, 0, none⟩) b.length b.length)) (by rw [World.size_setCell]; omega) g3
 have j2 := (i2.set ⟨w.heap.size + 1 + 1, 2, none⟩ (.slice (some ⟨X2, 0, none⟩) b.length b.length) (by simp; omega)).below (by rw [World.size_setCell]; omega) g3
 have k2 := Qa3 (Qah t2 (w.heap.size + 1 + 1) 2 (.slice (some ⟨X2, 0, none⟩) b.length b.length)) (by rw [World.size_setCell]; omega) g3
 rw [World.size_setCell]
 clear u0 u1 u2 u3 n0 n1 n2 n3 f0 f1 f2 f3 q0 q2 r0 r1 r2 g3 B2 B2' i1' t1' i2 t2
 obtain ⟨n0, n1, n2, n3⟩ := z2.row4
 obtain ⟨c0, c1, c2, c3⟩ := z1.row4
 have f0 := z2.thaw 0
 have f1 := z2.thaw 1
 have f2 := z2.thaw 2
 have f3 := z2.thaw 3
 have h0 := z1.thaw 0
 have h1 := z1.thaw 1
 have h2 := z1.thaw 2
 have h3 := z1.thaw 3
 have q1 := z1.lt
 have q2 := z2.lt
 generalize hX3 : w2.heap.size = X3 at *
 go_wp2
 refine bodyPost_ret (v := .agg #[.int .i64 gen, (.slice (some ⟨w.heap.size + 1 + 1 + 1, 0, none⟩) m.length m.length), (.slice (some ⟨X2, 0, none⟩) b.length b.length), (.slice (some ⟨X3, 0, none⟩) o.length o.length)]) (by simp [results, Tryz.results112, go_sem, c0, c1, c2, c3]) rfl ?_
 refine ⟨w.heap.size + 1 + 1 + 1, X2, X3, rfl, ?_, ?_⟩
 . exact Qal (Qal (Qal (Qal (Qal B3 (by omega) _) (by omega) _) (by omega) _) (by omega) _) (by omega) _
 . refine ⟨by omega, by omega, by omega, by simp only [World.size_setCell]; omega, ?_, ?_, ?_, ?_, ?_, ?_⟩
   . exact In.set (In.set (In.set (In.set (In.set j1 _ _ (by simp)) _ _ (by simp)) _ _ (by simp)) _ _ (by simp)) _ _ (by simp)
   . exact In.set (In.set (In.set (In.set (In.set j2 _ _ (by simp; omega)) _ _ (by simp; omega)) _ _ (by simp; omega)) _ _ (by simp; omega)) _ _ (by simp; omega)
   . exact In.set (In.set (In.set (In.set (In.set i3 _ _ (by simp; omega)) _ _ (by simp; omega)) _ _ (by simp; omega)) _ _ (by simp; omega)) _ _ (by simp; omega)
   . exact Qah (Qah (Qah (Qah (Qah k1 _ _ _) _ _ _) _ _ _) _ _ _) _ _ _
   . exact Qah (Qah (Qah (Qah (Qah k2 _ _ _) _ _ _) _ _ _) _ _ _) _ _ _
   . exact Qah (Qah (Qah (Qah (Qah t3 _ _ _) _ _ _) _ _ _) _ _ _) _ _ _
theorem Qgh (gen : Int) (A B C A' B' C' : Option Addr) (ca cb cc ca' cb' cc' : Nat) (m b o : List Int) (hm : m.length <= 9223372036854775807) (hb : b.length <= 9223372036854775807) (ho : o.length <= 9223372036854775807) (w : World)
 (hA : At w A m) (hB : At w B b) (hC : At w C o) (hA' : At w A' m) (hB' : At w B' b) (hC' : At w C' o) :
 Calls Tryz.prog 124 #[.agg #[.int .i64 gen, .slice A m.length ca, .slice B b.length cb, .slice C o.length cc], .agg #[.int .i64 gen, .slice A' m.length ca', .slice B' b.length cb', .slice C' o.length cc']] w fun e w' => e = .returned (.bool true) /\ Below w.heap.size w w' := by
 have HA := hidP hA
 have HB := hidP hB
 have HC := hidP hC
 have HA' := hidP hA'
 have HB' := hidP hB'
 have HC' := hidP hC'
 clear hA hB hC hA' hB' hC'
 go_enter Tryz.func124, Tryz.ntmps124
 go_wp2_with fail
 have B0 : Below w.heap.size w ((w.alloc (.cells #[.int .i64 gen, .slice A m.length ca, .slice B b.length cb, .slice C o.length cc] 173)).alloc (.cells #[.int .i64 gen, .slice A' m.length ca', .slice B' b.length cb', .slice C' o.length cc'] 173)) := by repeat (first | exact Below.refl _ _ | assumption | refine via0 (by assumption) ?_ | refine Below.drew ?_ | refine Qab ?_ _)
 have p0 : Blk ((w.alloc (.cells #[.int .i64 gen, .slice A m.length ca, .slice B b.length cb, .slice C o.length cc] 173)).alloc (.cells #[.int .i64 gen, .slice A' m.length ca', .slice B' b.length cb', .slice C' o.length cc'] 173)) w.heap.size 173 #[.int .i64 gen, .slice A m.length ca, .slice B b.length cb, .slice C o.length cc] := (Blk.new w 173 #[.int .i64 gen, .slice A m.length ca, .slice B b.length cb, .slice C o.length cc]).alloc _
 have p1 : Blk ((w.alloc (.cells #[.int .i64 gen, .slice A m.length ca, .slice B b.length cb, .slice C o.length cc] 173)).alloc (.cells #[.int .i64 gen, .slice A' m.length ca', .slice B' b.length cb', .slice C' o.length cc'] 173)) (w.heap.size + 1) 173 #[.int .i64 gen, .slice A' m.length ca', .slice B' b.length cb', .slice C' o.length cc'] := by simpa using Blk.new (w.alloc (.cells #[.int .i64 gen, .slice A m.length ca, .slice B b.length cb, .slice C o.length cc] 173)) 173 #[.int .i64 gen, .slice A' m.length ca', .slice B' b.length cb', .slice C' o.length cc']
 refine (Qb7 A A' ca ca' m hm _ (HA.out.below B0) (HA'.out.below B0)).mono ?_
 rintro e w1 ⟨rfl, g1⟩
 have B1 := via0 g1 B0
 have r0 := p0.below g1 p0.lt
 have r1 := p1.below g1 p1.lt
 clear p0 p1 g1 B0
 obtain ⟨u0, u1, u2, u3⟩ := r0.row4
 obtain ⟨n0, n1, n2, n3⟩ := r1.row4
 go_wp2_with fail
 refine (Qb7 B B' cb cb' b hb _ (HB.out.below B1) (HB'.out.below B1)).mono ?_
 rintro e w2 ⟨rfl, g2⟩
 have B2 := via0 g2 B1
 have s0 := r0.below g2 r0.lt
 have s1 := r1.below g2 r1.lt
 clear r0 r1 g2 B1 u0 u1 u2 u3 n0 n1 n2 n3
 obtain ⟨u0, u1, u2, u3⟩ := s0.row4
 obtain ⟨n0, n1, n2, n3⟩ := s1.row4
 go_wp2_with fail
 refine (Qb7 C C' cc cc' o ho _ (HC.out.below B2) (HC'.out.below B2)).mono ?_
 rintro e w3 ⟨rfl, g3⟩
 have B3 := via0 g3 B2
 go_wp2
 go_ret
 exact ⟨rfl, B3⟩
theorem cellsGroup : Tryz.prog.cellsOf 159 = 4 := by kernel_rfl
end Go.Proofs.YtmdaammalacifaaGreat.Gen
