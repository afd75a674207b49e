/-
  A keeper read at a place: the keeper, the place behind it and true; zero, 0 and false where the reader panics. Condition: at most 1048576 bytes.
-/
import Derived.Test.YtjjbbkmedpfenaaGreatRKeep2
import Derived.Test.YtjjbbkmedpfenaaGreatTried
namespace Go.Proofs.YtjjbbkmedpfenaaGreat.Gen
open Go.ChangeShapes Go.WideShapes Go.ChangeAt Go.RowKit Go.Joins Go.Deep Base
set_option linter.unusedVariables false


set_option maxRecDepth 100000 in
set_option maxHeartbeats 2000000 in
theorem readAt1K_any (o : Option (PK × Nat)) (f : FuncId) (cp : Array Value) (z y g r : Nat) (A : Option Addr) (cap : Nat) (l : List UInt8) (i : Int) (W : World)
    (hcf : ∀ (p : Value) (W : World), (callFunc f (#[p] ++ cp)).run Tryz.prog W = .ok (.enter f (#[p] ++ cp)) W)
    (pz : Blk W z 52 #[.func (.func f) #[] cp]) (py : Blk W y 50 #[.pointer (some ⟨r, 0, none⟩)]) (pg : Blk W g 31 #[.slice none 0 0, .slice none 0 0, .slice none 0 0, .int .i64 0, .slice none 0 0, .slice none 0 0]) (hgr : g ≠ r)
    (h : Calls Tryz.prog f (#[.pointer (some ⟨r, 0, none⟩)] ++ cp) W fun e W' => Reads (isKp W.heap.size) r A cap l W e W' o) :
    Calls Tryz.prog 46 #[.pointer (some ⟨z, 0, none⟩), .pointer (some ⟨y, 0, none⟩), .pointer (some ⟨g, 0, none⟩)] W fun e W' =>
      (∃ (rA : Option Addr) (rc : Nat) (rs : List RC) (mA : Option Addr) (mc : Nat) (ms : List MC) (gA : Option Addr) (gc : Nat) (gs : List GC) (time : Int) (dA : Option Addr) (dc : Nat) (ds : List Int) (lA : Option Addr) (lc : Nat) (ls : List An) (c : Nat) (W0 : World), o = some ((⟨rA, rc, rs, mA, mc, ms, gA, gc, gs, time, dA, dc, ds, lA, lc, ls⟩ : KC).p, c) ∧ KOwn W0 (⟨rA, rc, rs, mA, mc, ms, gA, gc, gs, time, dA, dc, ds, lA, lc, ls⟩ : KC) (fun b => W.heap.size ≤ b ∧ b < W0.heap.size) ∧ e = .returned (.tuple #[]) ∧ Only r W W0 ∧ Rd W0 r A cap l (c : Int) ∧ W' = ((((((W0.setCell ⟨g, 0, none⟩ (.slice rA (List.length rs) rc)).setCell ⟨g, 1, none⟩ (.slice mA (List.length ms) mc)).setCell ⟨g, 2, none⟩ (.slice gA (List.length gs) gc)).setCell ⟨g, 3, none⟩ (.int .i64 time)).setCell ⟨g, 4, none⟩ (.slice dA (List.length ds) dc)).setCell ⟨g, 5, none⟩ (.slice lA (List.length ls) lc))) ∨ (o = none ∧ Only r W W' ∧ ∃ t v, e = .panicked [{ v := .iface t v, recovered := false }]) := by
  have HH := hidP h
  have c0 := pz.row1
  have c1 := py.row1
  have HG := hidP pg
  clear h pz py pg
  go_enter Tryz.func46, Tryz.ntmps46
  go_wp2_with fail
  refine HH.out.mono ?_
  intro e W1 h1
  cases o with
  | none =>
    obtain ⟨o1, t, v, rfl⟩ := h1
    exact ⟨rfl, .inr ⟨rfl, o1, t, v, rfl⟩⟩
  | some x =>
    obtain ⟨x, c⟩ := x
    obtain ⟨o1, r1, v, rfl, ⟨rA, rc, rs, mA, mc, ms, gA, gc, gs, time, dA, dc, ds, lA, lc, ls⟩, rfl, rfl, hown⟩ := h1
    simp only [KC.cells]
    have HOw := hidP hown
    clear hown
    have p1 := HG.out.only o1 hgr
    have d0 : W1.cell? ⟨g, 0, none⟩ = some (.slice none 0 0) := p1.cell (i := 0) rfl
    have f0 := p1.thaw 0
    have d1 : W1.cell? ⟨g, 1, none⟩ = some (.slice none 0 0) := p1.cell (i := 1) rfl
    have f1 := p1.thaw 1
    have d2 : W1.cell? ⟨g, 2, none⟩ = some (.slice none 0 0) := p1.cell (i := 2) rfl
    have f2 := p1.thaw 2
    have d3 : W1.cell? ⟨g, 3, none⟩ = some (.int .i64 0) := p1.cell (i := 3) rfl
    have f3 := p1.thaw 3
    have d4 : W1.cell? ⟨g, 4, none⟩ = some (.slice none 0 0) := p1.cell (i := 4) rfl
    have f4 := p1.thaw 4
    have d5 : W1.cell? ⟨g, 5, none⟩ = some (.slice none 0 0) := p1.cell (i := 5) rfl
    have f5 := p1.thaw 5
    have q0 := p1.lt
    have HO1 := hidP o1
    have HR1 := hidP r1
    clear o1 r1 p1 c0 c1
    go_wp2
    go_end0
    exact .inl ⟨rA, rc, rs, mA, mc, ms, gA, gc, gs, time, dA, dc, ds, lA, lc, ls, c, W1, rfl, HOw.out, rfl, HO1.out, HR1.out, rfl⟩

set_option maxRecDepth 100000 in
set_option maxHeartbeats 4000000 in
theorem readAtK_any (o : Option (PK × Nat)) (f : FuncId) (cp : Array Value) (A : Option Addr) (cap : Nat) (l : List UInt8) (i : Int) (hi : I64 i) (w : World) (hA : At w A l)
    (hcf : ∀ (p : Value) (W : World), (callFunc f (#[p] ++ cp)).run Tryz.prog W = .ok (.enter f (#[p] ++ cp)) W)
    (h : ∀ W r, Below w.heap.size w W → Rd W r A cap l i → Calls Tryz.prog f (#[.pointer (some ⟨r, 0, none⟩)] ++ cp) W fun e W' => Reads (isKp W.heap.size) r A cap l W e W' o) :
    Calls Tryz.prog 16 #[.slice A l.length cap, .int .i64 i, .func (.func f) #[] cp] w fun e w' => Below w.heap.size w w' ∧
      ((∃ (rA : Option Addr) (rc : Nat) (rs : List RC) (mA : Option Addr) (mc : Nat) (ms : List MC) (gA : Option Addr) (gc : Nat) (gs : List GC) (time : Int) (dA : Option Addr) (dc : Nat) (ds : List Int) (lA : Option Addr) (lc : Nat) (ls : List An) (c : Nat), o = some ((⟨rA, rc, rs, mA, mc, ms, gA, gc, gs, time, dA, dc, ds, lA, lc, ls⟩ : KC).p, c) ∧ KOwn w' (⟨rA, rc, rs, mA, mc, ms, gA, gc, gs, time, dA, dc, ds, lA, lc, ls⟩ : KC) (fun b => w.heap.size ≤ b ∧ b < w'.heap.size) ∧ e = .returned (.tuple #[.agg #[.slice rA (List.length rs) rc, .slice mA (List.length ms) mc, .slice gA (List.length gs) gc, .int .i64 time, .slice dA (List.length ds) dc, .slice lA (List.length ls) lc], .int .i64 (c : Int), .bool true])) ∨ (o = none ∧ e = .returned (.tuple #[.agg #[.slice none 0 0, .slice none 0 0, .slice none 0 0, .int .i64 0, .slice none 0 0, .slice none 0 0], .int .i64 0, .bool false]))) := by
  have hmf : ∀ (fn : Fn) (first cap : Array Value) (w : World), (Instr.makeFunc fn first cap).run Tryz.prog w = .ok (.func fn first cap) w := fun _ _ _ _ => rfl
  have hbl : Below w.heap.size w (((((((w.alloc (.cells #[.func (.func f) #[] cp] 52)).alloc (.cells #[.slice none 0 0, .slice none 0 0, .slice none 0 0, .int .i64 0, .slice none 0 0, .slice none 0 0] 31)).alloc (.cells #[.slice none 0 0, .slice none 0 0, .slice none 0 0, .int .i64 0, .slice none 0 0, .slice none 0 0] 31)).alloc (.cells #[.slice none 0 0, .slice none 0 0, .slice none 0 0, .int .i64 0, .slice none 0 0, .slice none 0 0] 31)).alloc (.cells #[.slice A l.length cap, .int .i64 i] 84)).alloc (.cells #[.pointer (some ⟨w.heap.size + 1 + 1 + 1 + 1, 0, none⟩)] 50)).alloc (.cells #[.bool false] 4)) := alloc0 (alloc0 (alloc0 (alloc0 (alloc0 (alloc0 (alloc0 (Below.refl _ w) _) _) _) _) _) _) _
  have hA' := hA.below hbl
  have hAlt : ∀ c o, A = some ⟨c, o, none⟩ → l = [] ∨ c < w.heap.size := fun c o e => hA.imp id fun ⟨b, o', e', hb, _⟩ => by rw [e] at e'; cases e'; exact hb
  have hcf1 : ∀ W : World, (callFunc 46 #[.pointer (some ⟨w.heap.size, 0, none⟩), .pointer (some ⟨w.heap.size + 1 + 1 + 1 + 1 + 1, 0, none⟩), .pointer (some ⟨w.heap.size + 1 + 1, 0, none⟩)]).run Tryz.prog W = .ok (.enter 46 #[.pointer (some ⟨w.heap.size, 0, none⟩), .pointer (some ⟨w.heap.size + 1 + 1 + 1 + 1 + 1, 0, none⟩), .pointer (some ⟨w.heap.size + 1 + 1, 0, none⟩)]) W := fun W => by simp [go_sem]
  have pz := ((((((Blk.new w 52 #[.func (.func f) #[] cp]).alloc (.cells #[.slice none 0 0, .slice none 0 0, .slice none 0 0, .int .i64 0, .slice none 0 0, .slice none 0 0] 31)).alloc (.cells #[.slice none 0 0, .slice none 0 0, .slice none 0 0, .int .i64 0, .slice none 0 0, .slice none 0 0] 31)).alloc (.cells #[.slice none 0 0, .slice none 0 0, .slice none 0 0, .int .i64 0, .slice none 0 0, .slice none 0 0] 31)).alloc (.cells #[.slice A l.length cap, .int .i64 i] 84)).alloc (.cells #[.pointer (some ⟨w.heap.size + 1 + 1 + 1 + 1, 0, none⟩)] 50)).alloc (.cells #[.bool false] 4)
  have ps := (((((Blk.new (w.alloc (.cells #[.func (.func f) #[] cp] 52)) 31 #[.slice none 0 0, .slice none 0 0, .slice none 0 0, .int .i64 0, .slice none 0 0, .slice none 0 0]).alloc (.cells #[.slice none 0 0, .slice none 0 0, .slice none 0 0, .int .i64 0, .slice none 0 0, .slice none 0 0] 31)).alloc (.cells #[.slice none 0 0, .slice none 0 0, .slice none 0 0, .int .i64 0, .slice none 0 0, .slice none 0 0] 31)).alloc (.cells #[.slice A l.length cap, .int .i64 i] 84)).alloc (.cells #[.pointer (some ⟨w.heap.size + 1 + 1 + 1 + 1, 0, none⟩)] 50)).alloc (.cells #[.bool false] 4)
  have pg := ((((Blk.new ((w.alloc (.cells #[.func (.func f) #[] cp] 52)).alloc (.cells #[.slice none 0 0, .slice none 0 0, .slice none 0 0, .int .i64 0, .slice none 0 0, .slice none 0 0] 31)) 31 #[.slice none 0 0, .slice none 0 0, .slice none 0 0, .int .i64 0, .slice none 0 0, .slice none 0 0]).alloc (.cells #[.slice none 0 0, .slice none 0 0, .slice none 0 0, .int .i64 0, .slice none 0 0, .slice none 0 0] 31)).alloc (.cells #[.slice A l.length cap, .int .i64 i] 84)).alloc (.cells #[.pointer (some ⟨w.heap.size + 1 + 1 + 1 + 1, 0, none⟩)] 50)).alloc (.cells #[.bool false] 4)
  have pn := (((Blk.new (((w.alloc (.cells #[.func (.func f) #[] cp] 52)).alloc (.cells #[.slice none 0 0, .slice none 0 0, .slice none 0 0, .int .i64 0, .slice none 0 0, .slice none 0 0] 31)).alloc (.cells #[.slice none 0 0, .slice none 0 0, .slice none 0 0, .int .i64 0, .slice none 0 0, .slice none 0 0] 31)) 31 #[.slice none 0 0, .slice none 0 0, .slice none 0 0, .int .i64 0, .slice none 0 0, .slice none 0 0]).alloc (.cells #[.slice A l.length cap, .int .i64 i] 84)).alloc (.cells #[.pointer (some ⟨w.heap.size + 1 + 1 + 1 + 1, 0, none⟩)] 50)).alloc (.cells #[.bool false] 4)
  have pr := ((Blk.new ((((w.alloc (.cells #[.func (.func f) #[] cp] 52)).alloc (.cells #[.slice none 0 0, .slice none 0 0, .slice none 0 0, .int .i64 0, .slice none 0 0, .slice none 0 0] 31)).alloc (.cells #[.slice none 0 0, .slice none 0 0, .slice none 0 0, .int .i64 0, .slice none 0 0, .slice none 0 0] 31)).alloc (.cells #[.slice none 0 0, .slice none 0 0, .slice none 0 0, .int .i64 0, .slice none 0 0, .slice none 0 0] 31)) 84 #[.slice A l.length cap, .int .i64 i]).alloc (.cells #[.pointer (some ⟨w.heap.size + 1 + 1 + 1 + 1, 0, none⟩)] 50)).alloc (.cells #[.bool false] 4)
  have py := (Blk.new (((((w.alloc (.cells #[.func (.func f) #[] cp] 52)).alloc (.cells #[.slice none 0 0, .slice none 0 0, .slice none 0 0, .int .i64 0, .slice none 0 0, .slice none 0 0] 31)).alloc (.cells #[.slice none 0 0, .slice none 0 0, .slice none 0 0, .int .i64 0, .slice none 0 0, .slice none 0 0] 31)).alloc (.cells #[.slice none 0 0, .slice none 0 0, .slice none 0 0, .int .i64 0, .slice none 0 0, .slice none 0 0] 31)).alloc (.cells #[.slice A l.length cap, .int .i64 i] 84)) 50 #[.pointer (some ⟨w.heap.size + 1 + 1 + 1 + 1, 0, none⟩)]).alloc (.cells #[.bool false] 4)
  have pd := Blk.new ((((((w.alloc (.cells #[.func (.func f) #[] cp] 52)).alloc (.cells #[.slice none 0 0, .slice none 0 0, .slice none 0 0, .int .i64 0, .slice none 0 0, .slice none 0 0] 31)).alloc (.cells #[.slice none 0 0, .slice none 0 0, .slice none 0 0, .int .i64 0, .slice none 0 0, .slice none 0 0] 31)).alloc (.cells #[.slice none 0 0, .slice none 0 0, .slice none 0 0, .int .i64 0, .slice none 0 0, .slice none 0 0] 31)).alloc (.cells #[.slice A l.length cap, .int .i64 i] 84)).alloc (.cells #[.pointer (some ⟨w.heap.size + 1 + 1 + 1 + 1, 0, none⟩)] 50)) 4 #[.bool false]
  simp only [World.size_alloc] at ps pg pn pr py pd
  generalize hW5 : (((((((w.alloc (.cells #[.func (.func f) #[] cp] 52)).alloc (.cells #[.slice none 0 0, .slice none 0 0, .slice none 0 0, .int .i64 0, .slice none 0 0, .slice none 0 0] 31)).alloc (.cells #[.slice none 0 0, .slice none 0 0, .slice none 0 0, .int .i64 0, .slice none 0 0, .slice none 0 0] 31)).alloc (.cells #[.slice none 0 0, .slice none 0 0, .slice none 0 0, .int .i64 0, .slice none 0 0, .slice none 0 0] 31)).alloc (.cells #[.slice A l.length cap, .int .i64 i] 84)).alloc (.cells #[.pointer (some ⟨w.heap.size + 1 + 1 + 1 + 1, 0, none⟩)] 50)).alloc (.cells #[.bool false] 4)) = W5 at *
  have s5 : W5.heap.size = w.heap.size + 7 := by rw [← hW5]; simp
  have hrd : Rd W5 (w.heap.size + 1 + 1 + 1 + 1) A cap l i := ⟨pr, by
    rcases hA' with h | ⟨b, o, e, hb, hi⟩
    · exact .inl h
    · rcases hAlt b o e with h | h
      · exact .inl h
      · exact .inr ⟨b, o, e, hb, by omega, hi⟩, hi⟩
  have hdo := readAt1K_any o f cp w.heap.size (w.heap.size + 1 + 1 + 1 + 1 + 1) (w.heap.size + 1 + 1) (w.heap.size + 1 + 1 + 1 + 1) A cap l i W5 hcf pz py pg (by omega) (h W5 _ hbl hrd)
  have htr := tried_any 46 #[.pointer (some ⟨w.heap.size, 0, none⟩), .pointer (some ⟨w.heap.size + 1 + 1 + 1 + 1 + 1, 0, none⟩), .pointer (some ⟨w.heap.size + 1 + 1, 0, none⟩)] ((((((w.alloc (.cells #[.func (.func f) #[] cp] 52)).alloc (.cells #[.slice none 0 0, .slice none 0 0, .slice none 0 0, .int .i64 0, .slice none 0 0, .slice none 0 0] 31)).alloc (.cells #[.slice none 0 0, .slice none 0 0, .slice none 0 0, .int .i64 0, .slice none 0 0, .slice none 0 0] 31)).alloc (.cells #[.slice none 0 0, .slice none 0 0, .slice none 0 0, .int .i64 0, .slice none 0 0, .slice none 0 0] 31)).alloc (.cells #[.slice A l.length cap, .int .i64 i] 84)).alloc (.cells #[.pointer (some ⟨w.heap.size + 1 + 1 + 1 + 1, 0, none⟩)] 50))
    (fun W' => ∃ (rA : Option Addr) (rc : Nat) (rs : List RC) (mA : Option Addr) (mc : Nat) (ms : List MC) (gA : Option Addr) (gc : Nat) (gs : List GC) (time : Int) (dA : Option Addr) (dc : Nat) (ds : List Int) (lA : Option Addr) (lc : Nat) (ls : List An) (c : Nat) (W0 : World), o = some ((⟨rA, rc, rs, mA, mc, ms, gA, gc, gs, time, dA, dc, ds, lA, lc, ls⟩ : KC).p, c) ∧ KOwn W0 (⟨rA, rc, rs, mA, mc, ms, gA, gc, gs, time, dA, dc, ds, lA, lc, ls⟩ : KC) (fun b => W5.heap.size ≤ b ∧ b < W0.heap.size) ∧ Only (w.heap.size + 1 + 1 + 1 + 1) W5 W0 ∧ Rd W0 (w.heap.size + 1 + 1 + 1 + 1) A cap l (c : Int) ∧ W' = ((((((W0.setCell ⟨w.heap.size + 1 + 1, 0, none⟩ (.slice rA (List.length rs) rc)).setCell ⟨w.heap.size + 1 + 1, 1, none⟩ (.slice mA (List.length ms) mc)).setCell ⟨w.heap.size + 1 + 1, 2, none⟩ (.slice gA (List.length gs) gc)).setCell ⟨w.heap.size + 1 + 1, 3, none⟩ (.int .i64 time)).setCell ⟨w.heap.size + 1 + 1, 4, none⟩ (.slice dA (List.length ds) dc)).setCell ⟨w.heap.size + 1 + 1, 5, none⟩ (.slice lA (List.length ls) lc))) (fun W' => o = none ∧ Only (w.heap.size + 1 + 1 + 1 + 1) W5 W') hcf1 (by
      rw [hW5]
      refine hdo.mono fun e W' h1 => ?_
      rcases h1 with ⟨rA, rc, rs, mA, mc, ms, gA, gc, gs, time, dA, dc, ds, lA, lc, ls, c, W0, h1, hb, h2, h3, h4, rfl⟩ | ⟨h1, h2, t, v, rfl⟩
      · exact ⟨by simpa using (((((((pd.only h3 (by omega)).other (by omega) 0 (.slice rA (List.length rs) rc)).other (by omega) 1 (.slice mA (List.length ms) mc)).other (by omega) 2 (.slice gA (List.length gs) gc)).other (by omega) 3 (.int .i64 time)).other (by omega) 4 (.slice dA (List.length ds) dc)).other (by omega) 5 (.slice lA (List.length ls) lc)), .inl ⟨h2, rA, rc, rs, mA, mc, ms, gA, gc, gs, time, dA, dc, ds, lA, lc, ls, c, W0, h1, hb, h3, h4, rfl⟩⟩
      · exact ⟨by simpa using pd.only h2 (by omega), .inr ⟨t, v, rfl, h1, h2⟩⟩)
  have HT := hidP htr
  have Hps := hidP ps
  have Hpn := hidP pn
  have Hpy := hidP py
  have Hpg := hidP pg
  have Hbl := hidP hbl
  have Hs5 := hidP s5
  clear htr hdo hrd pz ps pn pr pg pd h hcf hcf1 py hbl s5 hW5 hA'
  go_enter Tryz.func16, Tryz.ntmps16
  go_wp2_with fail
  refine HT.out.mono ?_
  rintro e W' ⟨W0, ho, hh⟩
  simp only [World.size_alloc] at ho
  rcases hh with ⟨rfl, rA, rc, rs, mA, mc, ms, gA, gc, gs, time, dA, dc, ds, lA, lc, ls, c, W1, rfl, hb, o1, r1, rfl⟩ | ⟨rfl, rfl, o1⟩
  · have og : Only (w.heap.size + 1 + 1) W1 ((((((W1.setCell ⟨w.heap.size + 1 + 1, 0, none⟩ (.slice rA (List.length rs) rc)).setCell ⟨w.heap.size + 1 + 1, 1, none⟩ (.slice mA (List.length ms) mc)).setCell ⟨w.heap.size + 1 + 1, 2, none⟩ (.slice gA (List.length gs) gc)).setCell ⟨w.heap.size + 1 + 1, 3, none⟩ (.int .i64 time)).setCell ⟨w.heap.size + 1 + 1, 4, none⟩ (.slice dA (List.length ds) dc)).setCell ⟨w.heap.size + 1 + 1, 5, none⟩ (.slice lA (List.length ls) lc)) := ((((((Only.refl _ _).set 0 (.slice rA (List.length rs) rc)).set 1 (.slice mA (List.length ms) mc)).set 2 (.slice gA (List.length gs) gc)).set 3 (.int .i64 time)).set 4 (.slice dA (List.length ds) dc)).set 5 (.slice lA (List.length ls) lc)
    have hfin : Below w.heap.size w W' := Hbl.out.trans ((o1.toBelow (by omega) (by have := Hs5.out; omega)).trans ((og.toBelow (by omega) (by have := o1.size; have := Hs5.out; omega)).trans (ho.toBelow (by omega) (by have := o1.size; have := og.size; have := Hs5.out; omega))))
    have g1 : Blk ((((((W1.setCell ⟨w.heap.size + 1 + 1, 0, none⟩ (.slice rA (List.length rs) rc)).setCell ⟨w.heap.size + 1 + 1, 1, none⟩ (.slice mA (List.length ms) mc)).setCell ⟨w.heap.size + 1 + 1, 2, none⟩ (.slice gA (List.length gs) gc)).setCell ⟨w.heap.size + 1 + 1, 3, none⟩ (.int .i64 time)).setCell ⟨w.heap.size + 1 + 1, 4, none⟩ (.slice dA (List.length ds) dc)).setCell ⟨w.heap.size + 1 + 1, 5, none⟩ (.slice lA (List.length ls) lc)) (w.heap.size + 1 + 1) 31 #[.slice rA (List.length rs) rc, .slice mA (List.length ms) mc, .slice gA (List.length gs) gc, .int .i64 time, .slice dA (List.length ds) dc, .slice lA (List.length ls) lc] := (((((((Hpg.out.only o1 (by omega)).setAt 0 (.slice rA (List.length rs) rc)).setAt 1 (.slice mA (List.length ms) mc)).setAt 2 (.slice gA (List.length gs) gc)).setAt 3 (.int .i64 time)).setAt 4 (.slice dA (List.length ds) dc)).setAt 5 (.slice lA (List.length ls) lc))
    have g' := g1.only ho (by omega)
    have y' := ((Hpy.out.only o1 (by omega)).only og (by omega)).only ho (by omega)
    have s' := ((Hps.out.only o1 (by omega)).only og (by omega)).only ho (by omega)
    have r' := (r1.box.only og (show w.heap.size + 1 + 1 + 1 + 1 ≠ w.heap.size + 1 + 1 by omega)).only ho (by omega)
    have k0 : W'.cell? ⟨w.heap.size + 1 + 1, 0, none⟩ = some (.slice rA (List.length rs) rc) := g'.cell (i := 0) rfl
    have k1 : W'.cell? ⟨w.heap.size + 1 + 1, 1, none⟩ = some (.slice mA (List.length ms) mc) := g'.cell (i := 1) rfl
    have k2 : W'.cell? ⟨w.heap.size + 1 + 1, 2, none⟩ = some (.slice gA (List.length gs) gc) := g'.cell (i := 2) rfl
    have k3 : W'.cell? ⟨w.heap.size + 1 + 1, 3, none⟩ = some (.int .i64 time) := g'.cell (i := 3) rfl
    have k4 : W'.cell? ⟨w.heap.size + 1 + 1, 4, none⟩ = some (.slice dA (List.length ds) dc) := g'.cell (i := 4) rfl
    have k5 : W'.cell? ⟨w.heap.size + 1 + 1, 5, none⟩ = some (.slice lA (List.length ls) lc) := g'.cell (i := 5) rfl
    have rr0 : W'.cell? ⟨w.heap.size + 1, 0, none⟩ = some (.slice none 0 0) := s'.cell (i := 0) rfl
    have zz0 := s'.thaw 0
    have rr1 : W'.cell? ⟨w.heap.size + 1, 1, none⟩ = some (.slice none 0 0) := s'.cell (i := 1) rfl
    have zz1 := s'.thaw 1
    have rr2 : W'.cell? ⟨w.heap.size + 1, 2, none⟩ = some (.slice none 0 0) := s'.cell (i := 2) rfl
    have zz2 := s'.thaw 2
    have rr3 : W'.cell? ⟨w.heap.size + 1, 3, none⟩ = some (.int .i64 0) := s'.cell (i := 3) rfl
    have zz3 := s'.thaw 3
    have rr4 : W'.cell? ⟨w.heap.size + 1, 4, none⟩ = some (.slice none 0 0) := s'.cell (i := 4) rfl
    have zz4 := s'.thaw 4
    have rr5 : W'.cell? ⟨w.heap.size + 1, 5, none⟩ = some (.slice none 0 0) := s'.cell (i := 5) rfl
    have zz5 := s'.thaw 5
    have c1 := y'.row1
    obtain ⟨c2, c3⟩ := r'.row2
    have qg := g'.lt
    have qy := y'.lt
    have qr := r'.lt
    have qs := s'.lt
    have oR := ((((((Only.refl (w.heap.size + 1) W').set 0 (.slice rA (List.length rs) rc)).set 1 (.slice mA (List.length ms) mc)).set 2 (.slice gA (List.length gs) gc)).set 3 (.int .i64 time)).set 4 (.slice dA (List.length ds) dc)).set 5 (.slice lA (List.length ls) lc)
    have HOw := hidP ((((hb.offp (Offp.of_only og) (fun b hb' e => by have := hb'.1; have := Hs5.out; omega)).offp (Offp.of_only ho) (fun b hb' e => by have := hb'.1; have := Hs5.out; omega)).offp (Offp.of_only oR) (fun b hb' e => by have := hb'.1; have := Hs5.out; omega)).mono (T := fun b => w.heap.size ≤ b ∧ b < (((((((W'.setCell ⟨w.heap.size + 1, 0, none⟩ (.slice rA (List.length rs) rc)).setCell ⟨w.heap.size + 1, 1, none⟩ (.slice mA (List.length ms) mc)).setCell ⟨w.heap.size + 1, 2, none⟩ (.slice gA (List.length gs) gc)).setCell ⟨w.heap.size + 1, 3, none⟩ (.int .i64 time)).setCell ⟨w.heap.size + 1, 4, none⟩ (.slice dA (List.length ds) dc)).setCell ⟨w.heap.size + 1, 5, none⟩ (.slice lA (List.length ls) lc))).heap.size) (fun b hb' => ⟨by have := hb'.1; have := Hs5.out; omega, by have := hb'.2; have := og.size; have := ho.size; have := oR.size; omega⟩))
    have Hf := hidP hfin
    clear hb oR
    clear ho g' y' r' s' g1 o1 r1 hmf og hfin HT Hps Hpn Hpy Hpg Hbl hAlt hA
    go_wp2_with fail
    go_region
    go_wp2
    have oz : Below w.heap.size w ((((((W'.setCell ⟨w.heap.size + 1, 0, none⟩ (.slice rA (List.length rs) rc)).setCell ⟨w.heap.size + 1, 1, none⟩ (.slice mA (List.length ms) mc)).setCell ⟨w.heap.size + 1, 2, none⟩ (.slice gA (List.length gs) gc)).setCell ⟨w.heap.size + 1, 3, none⟩ (.int .i64 time)).setCell ⟨w.heap.size + 1, 4, none⟩ (.slice dA (List.length ds) dc)).setCell ⟨w.heap.size + 1, 5, none⟩ (.slice lA (List.length ls) lc)) := Hf.out.trans (Only.toBelow (b := w.heap.size + 1) (((((((Only.refl _ _).set 0 (.slice rA (List.length rs) rc)).set 1 (.slice mA (List.length ms) mc)).set 2 (.slice gA (List.length gs) gc)).set 3 (.int .i64 time)).set 4 (.slice dA (List.length ds) dc)).set 5 (.slice lA (List.length ls) lc)) (by omega) Hf.out.size)
    exact bodyPost_ret (v := .tuple #[.agg #[.slice rA (List.length rs) rc, .slice mA (List.length ms) mc, .slice gA (List.length gs) gc, .int .i64 time, .slice dA (List.length ds) dc, .slice lA (List.length ls) lc], .int .i64 (c : Int), .bool true]) (by simp [results, Tryz.results16, go_sem, rr0, rr1, rr2, rr3, rr4, rr5]) rfl ⟨oz.drew, .inl ⟨rA, rc, rs, mA, mc, ms, gA, gc, gs, time, dA, dc, ds, lA, lc, ls, c, rfl, HOw.out.below (Below.drew (Below.refl _ _)), rfl⟩⟩
  · have hfin : Below w.heap.size w W' := Hbl.out.trans ((o1.toBelow (by omega) (by have := Hs5.out; omega)).trans (ho.toBelow (by omega) (by have := o1.size; have := Hs5.out; omega)))
    have s' := (Hps.out.only o1 (by omega)).only ho (by omega)
    have n' := (Hpn.out.only o1 (by omega)).only ho (by omega)
    have k0 : W'.cell? ⟨w.heap.size + 1 + 1 + 1, 0, none⟩ = some (.slice none 0 0) := n'.cell (i := 0) rfl
    have k1 : W'.cell? ⟨w.heap.size + 1 + 1 + 1, 1, none⟩ = some (.slice none 0 0) := n'.cell (i := 1) rfl
    have k2 : W'.cell? ⟨w.heap.size + 1 + 1 + 1, 2, none⟩ = some (.slice none 0 0) := n'.cell (i := 2) rfl
    have k3 : W'.cell? ⟨w.heap.size + 1 + 1 + 1, 3, none⟩ = some (.int .i64 0) := n'.cell (i := 3) rfl
    have k4 : W'.cell? ⟨w.heap.size + 1 + 1 + 1, 4, none⟩ = some (.slice none 0 0) := n'.cell (i := 4) rfl
    have k5 : W'.cell? ⟨w.heap.size + 1 + 1 + 1, 5, none⟩ = some (.slice none 0 0) := n'.cell (i := 5) rfl
    have rr0 : W'.cell? ⟨w.heap.size + 1, 0, none⟩ = some (.slice none 0 0) := s'.cell (i := 0) rfl
    have zz0 := s'.thaw 0
    have rr1 : W'.cell? ⟨w.heap.size + 1, 1, none⟩ = some (.slice none 0 0) := s'.cell (i := 1) rfl
    have zz1 := s'.thaw 1
    have rr2 : W'.cell? ⟨w.heap.size + 1, 2, none⟩ = some (.slice none 0 0) := s'.cell (i := 2) rfl
    have zz2 := s'.thaw 2
    have rr3 : W'.cell? ⟨w.heap.size + 1, 3, none⟩ = some (.int .i64 0) := s'.cell (i := 3) rfl
    have zz3 := s'.thaw 3
    have rr4 : W'.cell? ⟨w.heap.size + 1, 4, none⟩ = some (.slice none 0 0) := s'.cell (i := 4) rfl
    have zz4 := s'.thaw 4
    have rr5 : W'.cell? ⟨w.heap.size + 1, 5, none⟩ = some (.slice none 0 0) := s'.cell (i := 5) rfl
    have zz5 := s'.thaw 5
    have qs := s'.lt
    have qn := n'.lt
    have Hf := hidP hfin
    clear ho s' n' o1 hmf hfin HT Hps Hpn Hpy Hpg Hbl hAlt hA
    go_wp2
    have oz : Below w.heap.size w ((((((W'.setCell ⟨w.heap.size + 1, 0, none⟩ (.slice none 0 0)).setCell ⟨w.heap.size + 1, 1, none⟩ (.slice none 0 0)).setCell ⟨w.heap.size + 1, 2, none⟩ (.slice none 0 0)).setCell ⟨w.heap.size + 1, 3, none⟩ (.int .i64 0)).setCell ⟨w.heap.size + 1, 4, none⟩ (.slice none 0 0)).setCell ⟨w.heap.size + 1, 5, none⟩ (.slice none 0 0)) := Hf.out.trans (Only.toBelow (b := w.heap.size + 1) (((((((Only.refl _ _).set 0 (.slice none 0 0)).set 1 (.slice none 0 0)).set 2 (.slice none 0 0)).set 3 (.int .i64 0)).set 4 (.slice none 0 0)).set 5 (.slice none 0 0)) (by omega) Hf.out.size)
    exact bodyPost_ret (v := .tuple #[.agg #[.slice none 0 0, .slice none 0 0, .slice none 0 0, .int .i64 0, .slice none 0 0, .slice none 0 0], .int .i64 0, .bool false]) (by simp [results, Tryz.results16, go_sem, rr0, rr1, rr2, rr3, rr4, rr5]) rfl ⟨oz, rfl⟩
end Go.Proofs.YtjjbbkmedpfenaaGreat.Gen
