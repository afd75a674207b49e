/-
  HardNew of the specification and of the program. No condition.
-/
import Derived.Test.YtlcjaabnfdnfmaaGreatDoorSpecKNew
import Derived.Test.YtlcjaabnfdnfmaaGreatDoorImplKNew
set_option linter.unusedVariables false
set_option linter.unusedSimpArgs false
set_option maxRecDepth 100000
set_option maxHeartbeats 8000000
namespace Go.Proofs.YtlcjaabnfdnfmaaGreatDoor.Gen
open ChangeShapes WideShapes ChangeAt RowKit Joins Deep Base
theorem Offp.put {B : Nat} {w w1 : World} (h : Offp (fun x => x = B) w w1) (o : Nat) (v : Value) : Offp (fun x => x = B) w (w1.setCell ⟨B, o, none⟩ v) := h.set rfl o v
def Qc1 (b : Bool) : Int := if b then -1 else 0
def Qk2 (w w' : World) (e : Ending) (B : Bool) (ro : Int) : Prop := ∃ y : KC, e = .returned (.agg #[.int .i64 0, .int .i64 (Qc1 B), .int .i64 0, .int .i64 0, .slice none 0 0, .slice y.rA y.rs.length y.rc, .slice y.mA y.ms.length y.mc, .slice y.gA y.gs.length y.gc, .int .i64 y.time, .slice y.dA y.ds.length y.dc, .slice y.lA y.ls.length y.lc]) /\ y.p = newK B ro /\ KOwn w' y (fun b => w.heap.size <= b /\ b < w'.heap.size) /\ Below w.heap.size w w'
theorem Qe2 (ro wi le ke : Int) (w : World) :
 Calls Tryz.prog 12 #[.agg #[.int .i64 ro, .int .i64 wi, .int .i64 le, .int .i64 ke]] w fun e w' => Qk2 w w' e (setB ro wi le ke) ro := by
 cases hb : setB ro wi le ke
 . go_enter Tryz.func12, Tryz.ntmps12
   go_wp2_with fail
   refine (Qa7 ro wi le ke _).mono ?_
   rw [hb]
   rintro e w1 ⟨rfl, g1⟩
   have B1 : Below w.heap.size w w1 := via0 g1 (Qaa (Qaa (Below.refl _ _) _) _)
   have p1 := ((Blk.new (w.alloc (.cells #[.int .i64 ro, .int .i64 wi, .int .i64 le, .int .i64 ke] 45)) 35 #[.int .i64 0, .int .i64 0, .int .i64 0, .int .i64 0, .slice none 0 0, .slice none 0 0, .slice none 0 0, .slice none 0 0, .int .i64 0, .slice none 0 0, .slice none 0 0])).below g1 (by simp)
   rw [World.size_alloc] at p1
   obtain ⟨r0, r1, r2, r3, r4, r5, r6, r7, r8, r9, r10⟩ := p1.row11
   have f0 := p1.thaw 0; have f1 := p1.thaw 1; have f2 := p1.thaw 2; have f3 := p1.thaw 3; have f4 := p1.thaw 4; have f5 := p1.thaw 5
   have f6 := p1.thaw 6; have f7 := p1.thaw 7; have f8 := p1.thaw 8; have f9 := p1.thaw 9; have f10 := p1.thaw 10
   go_wp2_with fail
   refine bodyPost_ret (v := .agg #[.int .i64 0, .int .i64 0, .int .i64 0, .int .i64 0, .slice none 0 0, .slice none 0 0, .slice none 0 0, .slice none 0 0, .int .i64 0, .slice none 0 0, .slice none 0 0]) (by simp [results, Tryz.results12, go_sem, r0, r1, r2, r3, r4, r5, r6, r7, r8, r9, r10]) rfl ?_
   refine ⟨⟨none, 0, [], none, 0, [], none, 0, [], 0, none, 0, [], none, 0, []⟩, rfl, rfl, ⟨fun _ => 0, .inl rfl, .inl rfl, .inl rfl, .inl rfl, .inl rfl⟩, ?_⟩
   repeat (first | with_reducible exact B1 | refine Qam ?_ (Nat.le_succ _) _)
 . go_enter Tryz.func12, Tryz.ntmps12
   go_wp2_with fail
   refine (Qa7 ro wi le ke _).mono ?_
   rw [hb]
   rintro e w1 ⟨rfl, g1⟩
   have B1 : Below w.heap.size w w1 := via0 g1 (Qaa (Qaa (Below.refl _ _) _) _)
   have c1 := ((Blk.new w 45 #[.int .i64 ro, .int .i64 wi, .int .i64 le, .int .i64 ke]).alloc (.cells #[.int .i64 0, .int .i64 0, .int .i64 0, .int .i64 0, .slice none 0 0, .slice none 0 0, .slice none 0 0, .slice none 0 0, .int .i64 0, .slice none 0 0, .slice none 0 0] 35)).below g1 (by simp; omega)
   have p1 := ((Blk.new (w.alloc (.cells #[.int .i64 ro, .int .i64 wi, .int .i64 le, .int .i64 ke] 45)) 35 #[.int .i64 0, .int .i64 0, .int .i64 0, .int .i64 0, .slice none 0 0, .slice none 0 0, .slice none 0 0, .slice none 0 0, .int .i64 0, .slice none 0 0, .slice none 0 0])).below g1 (by simp)
   rw [World.size_alloc] at p1
   obtain ⟨a0, a1, a2, a3⟩ := c1.row4
   have l1 := c1.lt
   clear g1
   go_wp2_with fail
   refine (Qc7 ro wi le ke _).mono ?_
   rw [hb]
   rintro e w2 ⟨y, he, hpy, hoy, g2⟩
   simp only [KC.cells] at he
   subst he
   have p2 := p1.below g2 p1.lt
   have B2 : Below w.heap.size w w2 := via0 g2 B1
   have ho : KOwn w2 y (fun b => w.heap.size <= b /\ b < w2.heap.size /\ b ≠ w.heap.size + 1) := hoy.mono (fun b hb => ⟨by have := B1.size; omega, hb.2, by have := p1.lt; omega⟩)
   have Ho := hidP ho
   have Hp := hidP hpy
   obtain ⟨r0, r1, r2, r3, r4, r5, r6, r7, r8, r9, r10⟩ := p2.row11
   have f0 := p2.thaw 0; have f1 := p2.thaw 1; have f2 := p2.thaw 2; have f3 := p2.thaw 3; have f4 := p2.thaw 4; have f5 := p2.thaw 5
   have f6 := p2.thaw 6; have f7 := p2.thaw 7; have f8 := p2.thaw 8; have f9 := p2.thaw 9; have f10 := p2.thaw 10
   have q2 := p2.lt
   clear p1 ho hpy hoy a0 a1 a2 a3 l1 c1 B1
   have HB2 := hidP B2
   clear B2
   go_wp2_with fail
   refine bodyPost_ret (v := .agg #[.int .i64 0, .int .i64 (-1), .int .i64 0, .int .i64 0, .slice none 0 0, .slice y.rA y.rs.length y.rc, .slice y.mA y.ms.length y.mc, .slice y.gA y.gs.length y.gc, .int .i64 y.time, .slice y.dA y.ds.length y.dc, .slice y.lA y.ls.length y.lc]) (by simp [results, Tryz.results12, go_sem, r0, r1, r2, r3, r4, r5, r6, r7, r8, r9, r10]) rfl ?_
   have OO : ∀ W, Offp (fun b => b = w.heap.size + 1) w2 W -> W.heap.size = w2.heap.size -> KOwn W y (fun b => w.heap.size <= b /\ b < W.heap.size) := fun W o hW => (KOwn.offp Ho.out o (fun b hb e => hb.2.2 e)).mono (fun b hb => ⟨hb.1, by rw [hW]; exact hb.2.1⟩)
   refine ⟨y, rfl, Hp.out, OO _ ?_ (by simp), ?_⟩
   . exact Offp.put (Offp.put (Offp.put (Offp.put (Offp.put (Offp.put (Offp.put (Offp.put (Offp.put (Offp.put (Offp.put (Offp.refl _ w2) 0 _) 1 _) 2 _) 3 _) 4 _) 5 _) 6 _) 7 _) 8 _) 9 _) 10 _
   have hb2 := HB2.out
   repeat (first | with_reducible exact hb2 | refine Qam ?_ (Nat.le_succ _) _)
theorem Qfg (ro wi le ke : Int) (w : World) :
 Calls Tryz.prog 84 #[.agg #[.int .i64 ro, .int .i64 wi, .int .i64 le, .int .i64 ke]] w fun e w' => Qk2 w w' e (setB ro wi le ke) ro := by
 cases hb : setB ro wi le ke
 . go_enter Tryz.func84, Tryz.ntmps84
   go_wp2_with fail
   refine (Qbw ro wi le ke _).mono ?_
   rw [hb]
   rintro e w1 ⟨rfl, g1⟩
   have B1 : Below w.heap.size w w1 := via0 g1 (Qaa (Qaa (Below.refl _ _) _) _)
   have p1 := ((Blk.new (w.alloc (.cells #[.int .i64 ro, .int .i64 wi, .int .i64 le, .int .i64 ke] 45)) 35 #[.int .i64 0, .int .i64 0, .int .i64 0, .int .i64 0, .slice none 0 0, .slice none 0 0, .slice none 0 0, .slice none 0 0, .int .i64 0, .slice none 0 0, .slice none 0 0])).below g1 (by simp)
   rw [World.size_alloc] at p1
   obtain ⟨r0, r1, r2, r3, r4, r5, r6, r7, r8, r9, r10⟩ := p1.row11
   have f0 := p1.thaw 0; have f1 := p1.thaw 1; have f2 := p1.thaw 2; have f3 := p1.thaw 3; have f4 := p1.thaw 4; have f5 := p1.thaw 5
   have f6 := p1.thaw 6; have f7 := p1.thaw 7; have f8 := p1.thaw 8; have f9 := p1.thaw 9; have f10 := p1.thaw 10
   go_wp2_with fail
   refine bodyPost_ret (v := .agg #[.int .i64 0, .int .i64 0, .int .i64 0, .int .i64 0, .slice none 0 0, .slice none 0 0, .slice none 0 0, .slice none 0 0, .int .i64 0, .slice none 0 0, .slice none 0 0]) (by simp [results, Tryz.results84, go_sem, r0, r1, r2, r3, r4, r5, r6, r7, r8, r9, r10]) rfl ?_
   refine ⟨⟨none, 0, [], none, 0, [], none, 0, [], 0, none, 0, [], none, 0, []⟩, rfl, rfl, ⟨fun _ => 0, .inl rfl, .inl rfl, .inl rfl, .inl rfl, .inl rfl⟩, ?_⟩
   repeat (first | with_reducible exact B1 | refine Qam ?_ (Nat.le_succ _) _)
 . go_enter Tryz.func84, Tryz.ntmps84
   go_wp2_with fail
   refine (Qbw ro wi le ke _).mono ?_
   rw [hb]
   rintro e w1 ⟨rfl, g1⟩
   have B1 : Below w.heap.size w w1 := via0 g1 (Qaa (Qaa (Below.refl _ _) _) _)
   have c1 := ((Blk.new w 45 #[.int .i64 ro, .int .i64 wi, .int .i64 le, .int .i64 ke]).alloc (.cells #[.int .i64 0, .int .i64 0, .int .i64 0, .int .i64 0, .slice none 0 0, .slice none 0 0, .slice none 0 0, .slice none 0 0, .int .i64 0, .slice none 0 0, .slice none 0 0] 35)).below g1 (by simp; omega)
   have p1 := ((Blk.new (w.alloc (.cells #[.int .i64 ro, .int .i64 wi, .int .i64 le, .int .i64 ke] 45)) 35 #[.int .i64 0, .int .i64 0, .int .i64 0, .int .i64 0, .slice none 0 0, .slice none 0 0, .slice none 0 0, .slice none 0 0, .int .i64 0, .slice none 0 0, .slice none 0 0])).below g1 (by simp)
   rw [World.size_alloc] at p1
   obtain ⟨a0, a1, a2, a3⟩ := c1.row4
   have l1 := c1.lt
   clear g1
   go_wp2_with fail
   refine (Qff ro wi le ke _).mono ?_
   rw [hb]
   rintro e w2 ⟨y, he, hpy, hoy, g2⟩
   simp only [KC.cells] at he
   subst he
   have p2 := p1.below g2 p1.lt
   have B2 : Below w.heap.size w w2 := via0 g2 B1
   have ho : KOwn w2 y (fun b => w.heap.size <= b /\ b < w2.heap.size /\ b ≠ w.heap.size + 1) := hoy.mono (fun b hb => ⟨by have := B1.size; omega, hb.2, by have := p1.lt; omega⟩)
   have Ho := hidP ho
   have Hp := hidP hpy
   obtain ⟨r0, r1, r2, r3, r4, r5, r6, r7, r8, r9, r10⟩ := p2.row11
   have f0 := p2.thaw 0; have f1 := p2.thaw 1; have f2 := p2.thaw 2; have f3 := p2.thaw 3; have f4 := p2.thaw 4; have f5 := p2.thaw 5
   have f6 := p2.thaw 6; have f7 := p2.thaw 7; have f8 := p2.thaw 8; have f9 := p2.thaw 9; have f10 := p2.thaw 10
   have q2 := p2.lt
   clear p1 ho hpy hoy a0 a1 a2 a3 l1 c1 B1
   have HB2 := hidP B2
   clear B2
   go_wp2_with fail
   refine bodyPost_ret (v := .agg #[.int .i64 0, .int .i64 (-1), .int .i64 0, .int .i64 0, .slice none 0 0, .slice y.rA y.rs.length y.rc, .slice y.mA y.ms.length y.mc, .slice y.gA y.gs.length y.gc, .int .i64 y.time, .slice y.dA y.ds.length y.dc, .slice y.lA y.ls.length y.lc]) (by simp [results, Tryz.results84, go_sem, r0, r1, r2, r3, r4, r5, r6, r7, r8, r9, r10]) rfl ?_
   have OO : ∀ W, Offp (fun b => b = w.heap.size + 1) w2 W -> W.heap.size = w2.heap.size -> KOwn W y (fun b => w.heap.size <= b /\ b < W.heap.size) := fun W o hW => (KOwn.offp Ho.out o (fun b hb e => hb.2.2 e)).mono (fun b hb => ⟨hb.1, by rw [hW]; exact hb.2.1⟩)
   refine ⟨y, rfl, Hp.out, OO _ ?_ (by simp), ?_⟩
   . exact Offp.put (Offp.put (Offp.put (Offp.put (Offp.put (Offp.put (Offp.put (Offp.put (Offp.put (Offp.put (Offp.put (Offp.refl _ w2) 0 _) 1 _) 2 _) 3 _) 4 _) 5 _) 6 _) 7 _) 8 _) 9 _) 10 _
   have hb2 := HB2.out
   repeat (first | with_reducible exact hb2 | refine Qam ?_ (Nat.le_succ _) _)
end Go.Proofs.YtlcjaabnfdnfmaaGreatDoor.Gen
