/-
  The program's rowOf.with at this seat: the row with one item more.
-/
import Derived.Test.YtnmbbkagjpmhdaaCopies
import Derived.Laws.CopyRow
import Derived.Deep.RegionHeld3
namespace Go.Proofs.Ytnmbbkagjpmhdaa.Items
open Go.ChangeShapes Go.WideShapes Go.ChangeAt Go.RowKit Go.Shelf Base
set_option linter.unusedVariables false

theorem make_items2 (n : Nat) (hn : n ≤ 2000000) (w : World) :
    (Instr.makeSlice 24 (.int .i64 (n : Int)) (.int .i64 (n : Int))).run Try.prog w = .ok (.slice (some ⟨w.heap.size, 0, none⟩) n n) (w.alloc (.cells (zeros n) 34)) := by
  have h := infoItem
  cases hi : Try.prog.info? 34 with
  | none => rw [hi] at h; simp at h
  | some i =>
    rw [hi] at h
    simp only [Option.map_some, Option.some.injEq, Prod.mk.injEq] at h
    obtain ⟨hz, hs, hb⟩ := h
    have r := run_make (P := Try.prog) w 24 34 i zeroItem Try.underlying24 hi hz .i64 .i64 n n (by omega) (Int.le_refl _) (by rw [hb]; omega) (by omega)
    rw [r, hs]
    simp [zeros]

theorem copy_items (ty g dLen dCap sLen sCap : Nat) (a : Addr) (cur : Array Value) (cs : List Value) (w : World) (hg : w.heap[g]? = some (.cells cur 34 (0, 0))) (hle : sLen ≤ dLen) (hn : cs.length = sLen * 5)
    (hsrc : ∀ j v, cs[j]? = some v → w.cell? (a.add j) = some v) (hfit : cs.length ≤ cur.size) (h1 : ∀ v ∈ cs, v.oneCell' = true) :
    (Builtin.copy_ #[24, 24] ty #[.slice (some ⟨g, 0, none⟩) dLen dCap, .slice (some a) sLen sCap]).run Try.prog w = .ok (goInt sLen) (w.setRow g (cs ++ cur.toList.drop cs.length).toArray) := by
  have hl := run_loadCells_list (P := Try.prog) w a cs hsrc
  have hst := run_storeCells_at Try.prog g 0 34 cs 0 cur w hg (by simpa using hfit) h1
  have hmin : Nat.min sLen dLen = sLen := Nat.min_eq_left hle
  obtain ⟨i0, hi, hz0, hz1, hz2⟩ := info_parts infoI
  simp [Builtin.copy_, run_underlying Try.underlying24, Builtin.lenOf, Builtin.firstCells, sizeOf, typeInfo, hi, hz1, hle, ← hn, hl, hst]

theorem copy_none (ty dLen dCap cap : Nat) (d : Addr) (A : Option Addr) (w : World) :
    (Builtin.copy_ #[24, 24] ty #[.slice (some d) dLen dCap, .slice A 0 cap]).run Try.prog w = .ok (goInt 0) w := by
  obtain ⟨i0, hi, hz0, hz1, hz2⟩ := info_parts infoI
  cases A <;> simp [Builtin.copy_, run_underlying Try.underlying24, Builtin.lenOf, Builtin.firstCells, sizeOf, typeInfo, hi, storeCells, loadCells, loadCellsFrom]

theorem blk_there {W : World} {g n : Nat} {t : TypeId} {cur : Array Value} (h : Blk W g t cur) (hn : n ≤ cur.size) : W.there g 0 n := fun j hj => by
  have hlt : 0 + j < cur.size := by omega
  exact ⟨by rw [h.cell (Array.getElem?_eq_getElem hlt)]; rfl, h.thaw _⟩

theorem copy_into (ty g cap : Nat) (A : Option Addr) (l : List It) (W : World) (hA : At W A l) (hg : Blk W g 34 (zeros (l.length + 1))) :
    ∃ w2, (Builtin.copy_ #[24, 24] ty #[.slice (some ⟨g, 0, none⟩) (l.length + 1) (l.length + 1), .slice A l.length cap]).run Try.prog W = .ok (.int .i64 (l.length : Int)) w2 ∧
      W.grownBy w2 (some g) ∧ In w2 g 0 l ∧ w2.there g 0 ((l.length + 1) * 5) := by
  have hsz : (zeros (l.length + 1)).size = (l.length + 1) * 5 := zeros_size _
  by_cases h0 : l = []
  · subst h0
    exact ⟨W, copy_none ty _ _ cap ⟨g, 0, none⟩ A W, World.grownBy.refl _ _, fun j v hv => by simp [flat] at hv, blk_there hg (by omega)⟩
  · obtain ⟨b, o, rfl, hb, hin⟩ := hA.resolve_left h0
    have hfit : (flat l).length ≤ (zeros (l.length + 1)).size := by rw [flat_length, hsz]; omega
    have hr := copy_items ty g (l.length + 1) (l.length + 1) l.length cap ⟨b, o, none⟩ _ (flat l) W hg (by omega) (flat_length l) (fun j v hv => by rw [Addr.add_mid]; exact hin j v hv) hfit (flat_one' l)
    have hb2 : Blk (W.setRow g (flat l ++ (zeros (l.length + 1)).toList.drop (flat l).length).toArray) g 34 (flat l ++ (zeros (l.length + 1)).toList.drop (flat l).length).toArray := setRow_heap W g _ _ 34 _ hg
    refine ⟨_, hr, ⟨rfl, rfl, rfl, by simp [World.setRow], fun k hk hne => setRow_other W g k _ (fun e => hne (by rw [e]))⟩, ?_, blk_there hb2 (by simp [hsz, flat_length]; omega)⟩
    intro j v hv
    refine hb2.cell (i := 0 + j) ?_
    have hj : j < (flat l).length := (List.getElem?_eq_some_iff.1 hv).1
    simp only [Nat.zero_add, List.getElem?_toArray]
    rw [List.getElem?_append_left hj]; exact hv

theorem step_copy_is {P : Program} {w w' : World} {ops : Array Oper} {o : Oper} {a : Act} {K : Act → World → Prop} {Q : Exit → Act → World → Prop} {E : Prop} (hgd : o.guard = none) (s x : Operand) (t : TypeId)
    (ho : o.op = .call { callee := .builtin .copy, args := #[s, x], argTypes := #[t, t] }) (v xv r : Value) (hs : a.eval s = v) (hx : a.eval x = xv)
    (hr : (Builtin.copy_ #[t, t] o.type #[v, xv]).run P w = .ok r w') (h : K (a.put o.dst r) w') : if Region.wanted o (yielded ops a.tmps) = true then Oper.wp P o a w K Q else E := by
  have hw : Region.wanted o (yielded ops a.tmps) = true := by simp [Region.wanted, hgd]
  rw [if_pos hw]
  unfold Oper.wp execOp
  simp only [ho, resolve, invoke, builtin, Sem.run_bind, Sem.run_pure, Result.andThen_ok, List.map_toArray, List.map_cons, List.map_nil, hs, hx, hr]
  exact h

/-- An item is stored into block B from offset o on. -/
abbrev putMid (W : World) (B o : Nat) (x : It) : World := ((((W.setCell ⟨B, o, none⟩ (.int .i64 x.off)).setCell ⟨B, o + 1, none⟩ (.string x.key)).setCell ⟨B, o + 2, none⟩ (.string x.text)).setCell ⟨B, o + 3, none⟩ (.int .i64 x.who)).setCell ⟨B, o + 4, none⟩ (.int .i64 x.time)
theorem Blk.putMid {W : World} {B C o : Nat} {t : TypeId} {vs : Array Value} (h : Blk W B t vs) (hne : B ≠ C) (x : It) : Blk (Items.putMid W C o x) B t vs := ((((h.other hne _ _).other hne _ _).other hne _ _).other hne _ _).other hne _ _
theorem bl_putMid {n : Nat} {a b : World} (h : Below n a b) {B o : Nat} (hn : n ≤ B) (x : It) : Below n a (putMid b B o x) := bl_set (bl_set (bl_set (bl_set (bl_set h hn _) hn _) hn _) hn _) hn _
theorem hide {p : Prop} (h : p) : Hid p := h
theorem held8 {W : World} {B : Nat} {t t' : TypeId} {a b c p q r s u : Value} (h : Blk W B t #[a, b, c]) (h' : Blk W (B + 1) t' #[p, q, r, s, u]) :
    W.cell? ⟨B, 0, none⟩ = some a ∧ W.cell? ⟨B, 1, none⟩ = some b ∧ W.cell? ⟨B, 2, none⟩ = some c ∧
      W.cell? ⟨B + 1, 0, none⟩ = some p ∧ W.cell? ⟨B + 1, 1, none⟩ = some q ∧ W.cell? ⟨B + 1, 2, none⟩ = some r ∧ W.cell? ⟨B + 1, 3, none⟩ = some s ∧ W.cell? ⟨B + 1, 4, none⟩ = some u := by
  obtain ⟨h0, h1, h2⟩ := h.row
  obtain ⟨s0, s1, s2, s3, s4⟩ := h'.item
  exact ⟨h0, h1, h2, s0, s1, s2, s3, s4⟩
theorem put_last {w : World} {b : Nat} {l : List It} {x : It} (hin : In w b 0 l) (hth : w.there b 0 ((l.length + 1) * 5)) :
    In (putMid w b (l.length * 5) x) b 0 (l ++ [x]) ∧ (putMid w b (l.length * 5) x).there b 0 ((l.length + 1) * 5) := by
  have h := store_item (w := w) (b := b) (l := l ++ [x]) (n := l.length) (by simpa using hin) (by simpa using hth) (by simp)
  simp only [List.getElem_concat_length, List.length_append, List.length_cons, List.length_nil, Nat.zero_add] at h
  have e : (l ++ [x]).take (l.length + 1) = l ++ [x] := List.take_of_length_le (by simp)
  rw [e] at h
  exact h

set_option maxRecDepth 100000 in
set_option maxHeartbeats 600000 in
theorem with_any (start next : Int) (A : Option Addr) (cap : Nat) (l : List It) (x : It) (hl : l.length ≤ 1048576) (w : World) (hA : At w A l) :
    Calls Try.prog 37 #[.agg #[.int .i64 start, .int .i64 next, .slice A l.length cap], .agg #[.int .i64 x.off, .string x.key, .string x.text, .int .i64 x.who, .int .i64 x.time]] w fun e w' => ∃ g, e = .returned (.agg #[.int .i64 start, .int .i64 (wrap64 (next + 1)), .slice (some ⟨g, 0, none⟩) (l.length + 1) (l.length + 1)]) ∧
      w.heap.size ≤ g ∧ g < w'.heap.size ∧ In w' g 0 (l ++ [x]) ∧ w'.there g 0 ((l.length + 1) * 5) ∧ Below w.heap.size w w' := by
  have HA : Hid (At w A l) := hA
  clear hA
  have hmk : ∀ w, (Instr.makeSlice 24 (.int .i64 ((l.length : Int) + 1)) (.int .i64 ((l.length : Int) + 1))).run Try.prog w = .ok (.slice (some ⟨w.heap.size, 0, none⟩) (l.length + 1) (l.length + 1)) (w.alloc (.cells (zeros (l.length + 1)) 34)) := fun w => by
    have := make_items2 (l.length + 1) (by omega) w
    simpa using this
  go_enter Try.func37, Try.ntmps37
  go_wp2_with fail
  have P0 := (((Blk.new w 63 #[.int .i64 start, .int .i64 next, .slice A l.length cap]).alloc (.cells #[.int .i64 x.off, .string x.key, .string x.text, .int .i64 x.who, .int .i64 x.time] 34)).alloc (.cells #[.int .i64 0, .int .i64 0, .slice none 0 0] 63)).alloc (.cells (zeros (l.length + 1)) 34)
  have P1 := ((Blk.new (w.alloc (.cells #[.int .i64 start, .int .i64 next, .slice A l.length cap] 63)) 34 #[.int .i64 x.off, .string x.key, .string x.text, .int .i64 x.who, .int .i64 x.time]).alloc (.cells #[.int .i64 0, .int .i64 0, .slice none 0 0] 63)).alloc (.cells (zeros (l.length + 1)) 34)
  have P2 := (Blk.new ((w.alloc (.cells #[.int .i64 start, .int .i64 next, .slice A l.length cap] 63)).alloc (.cells #[.int .i64 x.off, .string x.key, .string x.text, .int .i64 x.who, .int .i64 x.time] 34)) 63 #[.int .i64 0, .int .i64 0, .slice none 0 0]).alloc (.cells (zeros (l.length + 1)) 34)
  have P3 := Blk.new (((w.alloc (.cells #[.int .i64 start, .int .i64 next, .slice A l.length cap] 63)).alloc (.cells #[.int .i64 x.off, .string x.key, .string x.text, .int .i64 x.who, .int .i64 x.time] 34)).alloc (.cells #[.int .i64 0, .int .i64 0, .slice none 0 0] 63)) 34 (zeros (l.length + 1))
  have B1 : Below w.heap.size w ((((w.alloc (.cells #[.int .i64 start, .int .i64 next, .slice A l.length cap] 63)).alloc (.cells #[.int .i64 x.off, .string x.key, .string x.text, .int .i64 x.who, .int .i64 x.time] 34)).alloc (.cells #[.int .i64 0, .int .i64 0, .slice none 0 0] 63)).alloc (.cells (zeros (l.length + 1)) 34)) := alloc0 (alloc0 (alloc0 (alloc0 (Below.refl _ _) _) _) _) _
  simp only [World.size_alloc] at P1 P2 P3
  generalize ((((w.alloc (.cells #[.int .i64 start, .int .i64 next, .slice A l.length cap] 63)).alloc (.cells #[.int .i64 x.off, .string x.key, .string x.text, .int .i64 x.who, .int .i64 x.time] 34)).alloc (.cells #[.int .i64 0, .int .i64 0, .slice none 0 0] 63)).alloc (.cells (zeros (l.length + 1)) 34)) = W1 at P0 P1 P2 P3 B1 ⊢
  obtain ⟨w2, hr, hgr, hin2, hth2⟩ := copy_into 3 (w.heap.size + 1 + 1 + 1) cap A l W1.drew (HA.out.below B1.drew) P3.drew
  have Q0 := P0.drew.kept hgr (by intro h; have : w.heap.size = w.heap.size + 1 + 1 + 1 := Option.some.inj h; omega)
  have Q1 := P1.drew.kept hgr (by intro h; have : w.heap.size + 1 = w.heap.size + 1 + 1 + 1 := Option.some.inj h; omega)
  have Q2 := P2.drew.kept hgr (by intro h; have : w.heap.size + 1 + 1 = w.heap.size + 1 + 1 + 1 := Option.some.inj h; omega)
  have B2 : Below w.heap.size w w2 := B1.drew.grown hgr B1.size (fun k e => by have : w.heap.size + 1 + 1 + 1 = k := Option.some.inj e; omega)
  have hlt2 : w.heap.size + 1 + 1 + 1 < w2.heap.size := Nat.lt_of_lt_of_le P3.lt hgr.size
  have hT : ∀ f, f < 5 → (∃ v, w2.cell? ⟨w.heap.size + 1 + 1 + 1, l.length * 5 + f, none⟩ = some v) ∧ w2.frozen? ⟨w.heap.size + 1 + 1 + 1, l.length * 5 + f, none⟩ = false := fun f hf => by
    have := hth2 (l.length * 5 + f) (by omega)
    rw [Nat.zero_add] at this
    exact ⟨Option.isSome_iff_exists.1 this.1, this.2⟩
  obtain ⟨⟨v0, d0⟩, f0⟩ : (∃ v, w2.cell? ⟨w.heap.size + 1 + 1 + 1, l.length * 5, none⟩ = some v) ∧ w2.frozen? ⟨w.heap.size + 1 + 1 + 1, l.length * 5, none⟩ = false := by
    have := hth2 (l.length * 5) (by omega)
    rw [Nat.zero_add] at this
    exact ⟨Option.isSome_iff_exists.1 this.1, this.2⟩
  obtain ⟨⟨v1, d1⟩, f1⟩ := hT 1 (by omega)
  obtain ⟨⟨v2, d2⟩, f2⟩ := hT 2 (by omega)
  obtain ⟨⟨v3, d3⟩, f3⟩ := hT 3 (by omega)
  obtain ⟨⟨v4, d4⟩, f4⟩ := hT 4 (by omega)
  have R0 := Q0.putMid (C := w.heap.size + 1 + 1 + 1) (o := l.length * 5) (by omega) x
  have R1 := Q1.putMid (C := w.heap.size + 1 + 1 + 1) (o := l.length * 5) (by omega) x
  have R2 := Q2.putMid (C := w.heap.size + 1 + 1 + 1) (o := l.length * 5) (by omega) x
  have B3 : Below w.heap.size w (putMid w2 (w.heap.size + 1 + 1 + 1) (l.length * 5) x) := bl_putMid B2 (by omega) x
  have L3 := put_last (x := x) hin2 hth2
  have SW := hide (held8 P0 P1)
  have SD := hide (held8 P0.drew P1.drew)
  have SY := hide (held8 Q0 Q1)
  have SZ := hide (held8 R0 R1)
  have HL : Hid (In (putMid w2 (w.heap.size + 1 + 1 + 1) (l.length * 5) x) (w.heap.size + 1 + 1 + 1) 0 (l ++ [x]) ∧ (putMid w2 (w.heap.size + 1 + 1 + 1) (l.length * 5) x).there (w.heap.size + 1 + 1 + 1) 0 ((l.length + 1) * 5)) := L3
  have hi0 : (0 : Int) ≤ (l.length : Int) := by omega
  have hi1 : (l.length : Int) < ((l.length + 1 : Nat) : Int) := by omega
  have hi2 : (l.length : Int) < (l.length : Int) + 1 := by omega
  have HR2 := hide R2
  have HR0 := hide R0
  have HB3 := hide B3
  clear hT hth2 hin2 hgr L3 P0 P1 P2 P3 Q0 Q1 Q2 B1 hmk R0 R1 R2 B3 B2
  go_region_held3 (fun w' => w'.cell? ⟨w.heap.size, 0, none⟩ = some (.int .i64 start) ∧ w'.cell? ⟨w.heap.size, 1, none⟩ = some (.int .i64 next) ∧ w'.cell? ⟨w.heap.size, 2, none⟩ = some (.slice A l.length cap) ∧
      w'.cell? ⟨w.heap.size + 1, 0, none⟩ = some (.int .i64 x.off) ∧ w'.cell? ⟨w.heap.size + 1, 1, none⟩ = some (.string x.key) ∧ w'.cell? ⟨w.heap.size + 1, 2, none⟩ = some (.string x.text) ∧ w'.cell? ⟨w.heap.size + 1, 3, none⟩ = some (.int .i64 x.who) ∧ w'.cell? ⟨w.heap.size + 1, 4, none⟩ = some (.int .i64 x.time))
    (first | with_reducible exact SD.out | with_reducible exact SY.out | with_reducible exact SZ.out | with_reducible exact SW.out)
    (first
      | (refine step_copy_is (by rfl) _ _ _ (by rfl) _ _ _ rfl rfl hr ?_))
  all_goals
    clear SW SD SY SZ d0 d1 d2 d3 d4 f0 f1 f2 f3 f4 hr
    have HS : w.heap.size + 1 + 1 + 1 < (putMid w2 (w.heap.size + 1 + 1 + 1) (l.length * 5) x).heap.size := Nat.lt_of_lt_of_le hlt2 (by simp)
    dsimp only [putMid] at HR0 HR2 HB3 HL HS
    generalize (((((w2.setCell ⟨w.heap.size + 1 + 1 + 1, l.length * 5, none⟩ (.int .i64 x.off)).setCell ⟨w.heap.size + 1 + 1 + 1, l.length * 5 + 1, none⟩ (.string x.key)).setCell ⟨w.heap.size + 1 + 1 + 1, l.length * 5 + 2, none⟩ (.string x.text)).setCell ⟨w.heap.size + 1 + 1 + 1, l.length * 5 + 3, none⟩ (.int .i64 x.who)).setCell ⟨w.heap.size + 1 + 1 + 1, l.length * 5 + 4, none⟩ (.int .i64 x.time)) = w3 at HR0 HR2 HB3 HL HS ⊢
    have r0 := HR0.out
    have r2 := HR2.out
    obtain ⟨c0, c1, c2⟩ := r0.row
    obtain ⟨d0, d1, d2⟩ := r2.row
    have f0 := r0.thaw 0
    have f1 := r0.thaw 1
    have f2 := r0.thaw 2
    have k0 := r2.thaw 0
    have k1 := r2.thaw 1
    have k2 := r2.thaw 2
    go_wp2
    have z : Blk _ (w.heap.size + 1 + 1) 63 #[.int .i64 start, .int .i64 (wrap64 (next + 1)), .slice (some ⟨w.heap.size + 1 + 1 + 1, 0, none⟩) (l.length + 1) (l.length + 1)] := ((((r2.other (B' := w.heap.size) (by omega) 2 (.slice (some ⟨w.heap.size + 1 + 1 + 1, 0, none⟩) (l.length + 1) (l.length + 1))).other (B' := w.heap.size) (by omega) 1 (.int .i64 (wrap64 (next + 1)))).setAt 0 (.int .i64 start)).setAt 1 (.int .i64 (wrap64 (next + 1)))).setAt 2 (.slice (some ⟨w.heap.size + 1 + 1 + 1, 0, none⟩) (l.length + 1) (l.length + 1))
    obtain ⟨e0, e1, e2⟩ := z.row
    have hI := (((((HL.out.1.set ⟨w.heap.size, 2, none⟩ (.slice (some ⟨w.heap.size + 1 + 1 + 1, 0, none⟩) (l.length + 1) (l.length + 1)) (by simp; omega)).set ⟨w.heap.size, 1, none⟩ (.int .i64 (wrap64 (next + 1))) (by simp; omega)).set ⟨w.heap.size + 1 + 1, 0, none⟩ (.int .i64 start) (by simp)).set ⟨w.heap.size + 1 + 1, 1, none⟩ (.int .i64 (wrap64 (next + 1))) (by simp)).set ⟨w.heap.size + 1 + 1, 2, none⟩ (.slice (some ⟨w.heap.size + 1 + 1 + 1, 0, none⟩) (l.length + 1) (l.length + 1)) (by simp))
    have hT := there_set (there_set (there_set (there_set (there_set HL.out.2 w.heap.size 2 (.slice (some ⟨w.heap.size + 1 + 1 + 1, 0, none⟩) (l.length + 1) (l.length + 1))) w.heap.size 1 (.int .i64 (wrap64 (next + 1)))) (w.heap.size + 1 + 1) 0 (.int .i64 start)) (w.heap.size + 1 + 1) 1 (.int .i64 (wrap64 (next + 1)))) (w.heap.size + 1 + 1) 2 (.slice (some ⟨w.heap.size + 1 + 1 + 1, 0, none⟩) (l.length + 1) (l.length + 1))
    exact bodyPost_ret (v := .agg #[.int .i64 start, .int .i64 (wrap64 (next + 1)), .slice (some ⟨w.heap.size + 1 + 1 + 1, 0, none⟩) (l.length + 1) (l.length + 1)]) (by simp [results, Try.results37, go_sem, e0, e1, e2]) rfl
      ⟨_, rfl, by omega, Nat.lt_of_lt_of_le HS (by simp), hI, hT, bl_set (bl_set (bl_set (bl_set (bl_set HB3.out (Nat.le_refl _) _) (Nat.le_refl _) _) (by omega) _) (by omega) _) (by omega) _⟩
end Go.Proofs.Ytnmbbkagjpmhdaa.Items
