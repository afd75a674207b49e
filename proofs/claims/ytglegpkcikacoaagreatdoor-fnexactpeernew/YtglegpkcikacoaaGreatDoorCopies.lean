/-
  A row's list copied: the program's rowOf.copied, at this seat.
-/
import Derived.Test.YtglegpkcikacoaaGreatDoorImplRight
import Derived.Conc.MuLone
set_option linter.unusedVariables false
set_option linter.unusedSimpArgs false
set_option maxRecDepth 100000
set_option maxHeartbeats 8000000
namespace Go.Proofs.YtglegpkcikacoaaGreatDoor.Items
open ChangeShapes WideShapes ChangeAt RowKit Shelf Base
theorem infoI : (Tryz.prog.info? 136).map (fun i => (i.zero, i.size, i.bytes)) = some (some (.agg #[.int .i64 0, .string ⟨#[]⟩, .string ⟨#[]⟩, .int .i64 0, .int .i64 0]), 5, 56) := by kernel_rfl
theorem flat_one' (l : List It) : ∀ u ∈ flat l, u.oneCell' = true := by
 intro u hu
 obtain ⟨x, _, hx⟩ := List.mem_flatMap.1 hu
 simp [It.cs] at hx
 rcases hx with rfl | rfl | rfl | rfl | rfl<;>rfl
theorem Qd1 {B : Nat} {W : World} {g cap : Nat} {cur : Array Value} {t : TypeId} {l : List It} (h : Blk W g t cur) (hB : B <= g) (hc : l.length <= cap) (hsz : cur.size = cap * 5) (ht : cur.toList.take (l.length * 5) = flat l) :
 Fresh B W (.slice (some ⟨g, 0, none⟩) l.length cap) l := by
 refine ⟨_, _, rfl, hc, .inr ⟨g, 0, rfl, hB, h.lt, ?_, ?_⟩⟩
 . intro j v hv
   rw [← ht, List.getElem?_take] at hv
   split at hv
   . exact (h.cell (i := 0 + j) (by simpa using hv))
   . cases hv
 . intro j hj
   refine ⟨?_, h.thaw _⟩
   have hlt : 0 + j < cur.size := by rw [hsz]; have := Nat.mul_le_mul_right 5 hc; omega
   rw [h.cell (Array.getElem?_eq_getElem hlt)]; rfl
theorem Qep (A : Option Addr) (cap : Nat) (w : World) : Src Tryz.prog 5 116 (.slice A 0 cap) 0 [] w :=
 ⟨.inl ⟨_, Tryz.underlying116⟩, fun w' => by cases A<;>rfl, by cases A<;>simp [Builtin.firstCells, loadCells, loadCellsFrom], by cases A<;>simp [Builtin.firstCells, loadCells, loadCellsFrom], rfl, by simp⟩
theorem Qav {P : Program} {w w' : World} {o : Oper} {a : Act} {K : Act -> World -> Prop} {Q : Exit -> Act -> World -> Prop} (s x : Operand) (t : TypeId)
 (ho : o.op = .call { callee := .builtin .append, args := #[s, x], argTypes := #[t, t] }) (v xv r : Value) (hs : a.eval s = v) (hx : a.eval x = xv)
 (hr : (Builtin.append_ #[t, t] o.type #[v, xv]).run P w = .ok r w') (h : K (a.put o.dst r) w') : o.wp P a w K Q := by
 unfold Oper.wp execOp
 simp only [ho, resolve, invoke, builtin, Sem.run_bind, Sem.run_pure, Result.andThen_ok, List.map_toArray, List.map_cons, List.map_nil, hs, hx, hr]
 exact h
theorem Qat {P : Program} {w w' : World} {ops : Array Oper} {rest : List Oper} {o : Oper} {a : Act} {Q : Exit -> Act -> World -> Prop} (hgd : o.guard = none) (s x : Operand) (t : TypeId)
 (ho : o.op = .call { callee := .builtin .append, args := #[s, x], argTypes := #[t, t] }) (v xv r : Value) (hs : a.eval s = v) (hx : a.eval x = xv)
 (hr : (Builtin.append_ #[t, t] o.type #[v, xv]).run P w = .ok r w') (h : wpList P ops Q rest (a.put o.dst r) w') : wpList P ops Q (o :: rest) a w :=
 wpList_plain hgd fun _ hK => Qav s x t ho v xv r hs hx hr (hK _ _ h)
theorem Qjo (B : Nat) (v : Value) (l m : List It) (A : Option Addr) (cap : Nat) (w : World) (hB : B <= w.heap.size) (hv : w.ownsRow B 136 5 v l.length (flat l)) (hA : At w A m) (hlen : l.length + m.length <= 3000000) :
 ∃ v' w', (Builtin.append_ #[116, 116] 116 #[v, .slice A m.length cap]).run Tryz.prog w = .ok v' w' /\ w'.ownsRow B 136 5 v' (l.length + m.length) (flat (l ++ m)) /\ w.grownBy w' v.ownBlock /\ (v'.ownBlock = v.ownBlock ∨ v'.ownBlock = some w.heap.size) := by
 obtain ⟨i0, hi, hz0, hz1, hz2⟩ := info_parts infoI
 by_cases h0 : m = []
 . subst h0
   have e0 : ∃ a n c, v = .slice a n c /\ n <= c := by
    rcases hv.2 with ⟨rfl, _⟩ | ⟨g, c, cur, rfl, _, _, h, _⟩
    . exact ⟨_, _, _, rfl, Nat.le_refl _⟩
    . exact ⟨_, _, _, rfl, h⟩
   obtain ⟨a, n, c, rfl, hle⟩ := e0
   exact ⟨_, _, run_append_nothing w 116 116 116 136 i0 Tryz.underlying116 hi a n c hle _ (hz1 ▸ Qep A cap w), by simpa using hv, World.grownBy.refl _ _, .inl rfl⟩
 . obtain ⟨b, o, rfl, hb, hin⟩ := hA.resolve_left h0
   have hm : 0 < m.length := List.length_pos_iff.2 h0
   obtain ⟨g, c, w', hr, h1, h2, h3, h4⟩ := run_append_lies (P := Tryz.prog) w 116 116 B 136 i0 _ 5 56 Tryz.underlying116 hi hz0 hz1 hz2 rfl (by omega) v l.length (flat l) hv ⟨b, o, none⟩ m.length cap (flat m) (Qap m)
    (fun j u hu => by rw [Addr.add_mid]; exact hin j u hu) (flat_one' m) hm (by simp [maxLen]; omega) (by omega) hB _ rfl
   exact ⟨_, _, hr, by rw [Qa1]; exact h1, h2, h3.imp (fun e => by rw [e]; rfl) (fun e => by rw [← e]; rfl)⟩
theorem Qdh {B : Nat} {W : World} {v : Value} {t : TypeId} {l : List It} (h : W.ownsRow B t 5 v l.length (flat l)) : Fresh B W v l := by
 rcases h.2 with ⟨rfl, h0⟩ | ⟨g, c, cur, rfl, hB, hg, hc, _, hsz, ht⟩
 . have : l = [] := List.length_eq_zero_iff.1 h0
   subst this
   exact ⟨none, 0, rfl, Nat.le_refl _, .inl rfl⟩
 . exact Qd1 (t := t) hg hB hc hsz ht
theorem Qa5 {B : Nat} {W : World} {v : Value} {t : TypeId} {k n : Nat} {xs : List Value} (h : W.ownsRow B t k v n xs) : ∃ a c, v = .slice a n c /\ n <= c := by
 rcases h.2 with ⟨rfl, rfl⟩ | ⟨g, c, cur, rfl, hB, hg, hc, _⟩
 . exact ⟨none, 0, rfl, Nat.le_refl _⟩
 . exact ⟨_, _, rfl, hc⟩
theorem owns_far {B C : Nat} {W : World} {v : Value} {t : TypeId} {k n : Nat} {xs : List Value} (h : W.ownsRow B t k v n xs) (hC : C < B) : some C ≠ v.ownBlock := by
 rcases h.2 with ⟨rfl, rfl⟩ | ⟨g, c, cur, rfl, hB, _⟩
 . simp [Value.ownBlock]
 . simp [Value.ownBlock]; omega
theorem Qbf {B C i : Nat} {W : World} {v u : Value} {t : TypeId} {k n : Nat} {xs : List Value} (h : W.ownsRow B t k v n xs) (hne : some C ≠ v.ownBlock) : (W.setCell ⟨C, i, none⟩ u).ownsRow B t k v n xs := by
 refine ⟨h.1, ?_⟩
 rcases h.2 with ⟨rfl, rfl⟩ | ⟨g, c, cur, rfl, hB, hg, hc, hm, hsz, ht⟩
 . exact .inl ⟨rfl, rfl⟩
 . have hCg : g ≠ C := fun e => hne (by simp [Value.ownBlock, e])
   exact .inr ⟨g, c, cur, rfl, hB, Blk.other (show Blk W g t cur from hg) hCg i u, hc, hm, hsz, ht⟩
theorem copied_any (start next : Int) (A : Option Addr) (cap : Nat) (l : List It) (hl : l.length <= 1048576) (w : World) (hA : At w A l) :
 Calls Tryz.prog 89 #[.agg #[.int .i64 start, .int .i64 next, .slice A l.length cap]] w fun e w' => ∃ v, e = .returned (.agg #[.int .i64 start, .int .i64 next, v]) /\ w'.ownsRow w.heap.size 136 5 v l.length (flat l) /\ Below w.heap.size w w' := by
 have B0 : Below w.heap.size w ((w.alloc (.cells #[.int .i64 start, .int .i64 next, .slice A l.length cap] 133)).alloc (.cells #[.int .i64 0, .int .i64 0, .slice none 0 0] 133)) := Qaa (Qaa (Below.refl _ _) _) _
 obtain ⟨v, w1, hr, hown, hgrow, hat⟩ := Qjo w.heap.size (.slice none 0 0) [] l A cap ((w.alloc (.cells #[.int .i64 start, .int .i64 next, .slice A l.length cap] 133)).alloc (.cells #[.int .i64 0, .int .i64 0, .slice none 0 0] 133)) B0.size (World.ownsRow_nil _ _ _ _) (hA.below B0) (by simp; omega)
 simp only [List.length_nil, Nat.zero_add, List.nil_append] at hown
 have p0 := ((Blk.new w 133 #[.int .i64 start, .int .i64 next, .slice A l.length cap]).alloc (.cells #[.int .i64 0, .int .i64 0, .slice none 0 0] 133)).kept hgrow (by simp [Value.ownBlock])
 have p1 := (Blk.new (w.alloc (.cells #[.int .i64 start, .int .i64 next, .slice A l.length cap] 133)) 133 #[.int .i64 0, .int .i64 0, .slice none 0 0]).kept hgrow (by simp [Value.ownBlock])
 rw [World.size_alloc] at p1
 have B1 : Below w.heap.size w w1 := B0.grown hgrow B0.size (by simp [Value.ownBlock])
 obtain ⟨c0, c1, c2⟩ := p0.row
 obtain ⟨d0, d1, d2⟩ := p1.row
 have f0 := p0.thaw 0
 have f1 := p0.thaw 1
 have f2 := p0.thaw 2
 have g0 := p1.thaw 0
 have g1 := p1.thaw 1
 have g2 := p1.thaw 2
 obtain ⟨a, c, rfl, hc⟩ := Qa5 hown
 have hn0 : some w.heap.size ≠ (Value.slice a l.length c).ownBlock := by
  rcases hat with e | e
  . rw [e]; simp [Value.ownBlock]
  . rw [e]; intro h; have := Option.some.inj h; simp only [World.size_alloc] at this; omega
 have hn1 : some (w.heap.size + 1) ≠ (Value.slice a l.length c).ownBlock := by
  rcases hat with e | e
  . rw [e]; simp [Value.ownBlock]
  . rw [e]; intro h; have := Option.some.inj h; simp only [World.size_alloc] at this; omega
 have Hn0 : Hid (some w.heap.size ≠ (Value.slice a l.length c).ownBlock) := hn0
 have Hn1 : Hid (some (w.heap.size + 1) ≠ (Value.slice a l.length c).ownBlock) := hn1
 have Hown : Hid (w1.ownsRow w.heap.size 136 5 (.slice a l.length c) l.length (flat l)) := hown
 clear hgrow hA hat hown hn0 hn1
 go_enter Tryz.func89, Tryz.ntmps89
 go_wp2_with (at_builtin; refine Qat rfl _ _ _ rfl _ _ _ rfl rfl hr ?_)
 have p2 := (((p1.other (B' := w.heap.size) (by omega) 2 (.slice a l.length c)).setAt 0 (.int .i64 start)).setAt 1 (.int .i64 next)).setAt 2 (.slice a l.length c)
 obtain ⟨e0, e1, e2⟩ := Blk.row (show Blk _ (w.heap.size + 1) 133 #[.int .i64 start, .int .i64 next, .slice a l.length c] from p2)
 exact bodyPost_ret (v := .agg #[.int .i64 start, .int .i64 next, .slice a l.length c]) (by simp [results, Tryz.results89, go_sem, e0, e1, e2]) rfl
  ⟨_, rfl, Qbf (Qbf (Qbf (Qbf Hown.out Hn0.out) Hn1.out) Hn1.out) Hn1.out, Qam (Qam (Qam (Qam B1 (Nat.le_refl _) _) (by omega) _) (by omega) _) (by omega) _⟩
end Go.Proofs.YtglegpkcikacoaaGreatDoor.Items
namespace Go.Proofs.YtglegpkcikacoaaGreatDoor.Gen
abbrev muLink : Go.Conc.Locks.MuLink := { lock := 172, unlock := 173, ilock := 199, iunlock := 200, lockSlow := 219, unlockSlow := 222, disable := 215, enable := 217, acquire := 218, relMerge := 220, cas32 := 216, add32 := 221, tMutex := 229, tIMutex := 227, tPMutex := 276, tPIMutex := 290, tPI32 := 292, tUP := 209, tNoCopy := 225, tU32 := 178 }
theorem muLib : Go.Conc.Locks.MuLib Tryz.prog muLink :=
 ⟨Tryz.func172, Tryz.func173, Tryz.func199, Tryz.func200, Tryz.func215, Tryz.func217, Tryz.func218, Tryz.func220, Tryz.func216, Tryz.func221,
  Tryz.underlying227, Tryz.runUnderlying227, Tryz.sizeOf227, Tryz.isAgg227, Tryz.zeroValue227, Tryz.underlying229, Tryz.runUnderlying229, Tryz.sizeOf229, Tryz.isAgg229, Tryz.zeroValue229, Tryz.underlying276, Tryz.runUnderlying276, Tryz.sizeOf276, Tryz.isAgg276, Tryz.zeroValue276, Tryz.underlying290, Tryz.runUnderlying290, Tryz.sizeOf290, Tryz.isAgg290, Tryz.zeroValue290, Tryz.underlying292, Tryz.runUnderlying292, Tryz.sizeOf292, Tryz.isAgg292, Tryz.zeroValue292, Tryz.underlying209, Tryz.runUnderlying209, Tryz.sizeOf209, Tryz.isAgg209, Tryz.zeroValue209, Tryz.underlying225, Tryz.runUnderlying225, Tryz.sizeOf225, Tryz.isAgg225, Tryz.zeroValue225, Tryz.underlying21, Tryz.runUnderlying21, Tryz.sizeOf21, Tryz.isAgg21, Tryz.zeroValue21, (by kernel_rfl)⟩
end Go.Proofs.YtglegpkcikacoaaGreatDoor.Gen
