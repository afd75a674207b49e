/-
  A note's body read at a place: the note, the place behind it and true; zero, 0 and false where the reader panics. Condition: at most 1048576 bytes.
-/
import Derived.Test.YtglegpkcikacoaaGreatDoorREnt
set_option linter.unusedVariables false
set_option linter.unusedSimpArgs false
set_option maxRecDepth 100000
set_option maxHeartbeats 8000000
namespace Go.Proofs.YtglegpkcikacoaaGreatDoor.Gen
open ChangeShapes WideShapes ChangeAt RowKit Joins Deep Base
theorem Qh5 (o : Option (Nt × Nat)) (f : FuncId) (cp : Array Value) (z y g r : Nat) (A : Option Addr) (cap : Nat) (l : List UInt8) (i : Int) (W : World)
 (hcf : ∀ (p : Value) (W : World), (callFunc f (#[p] ++ cp)).run Tryz.prog W = .ok (.enter f (#[p] ++ cp)) W)
 (pz : Blk W z 207 #[.func (.func f) #[] cp]) (py : Blk W y 204 #[.pointer (some ⟨r, 0, none⟩)]) (pg : Blk W g 127 #[.int .i64 0, .int .i64 0, .int .i64 0, .int .i64 0, .slice none 0 0, .string ⟨#[]⟩]) (hgr : g ≠ r)
 (h : Calls Tryz.prog f (#[.pointer (some ⟨r, 0, none⟩)] ++ cp) W fun e W' => Qd6 (isNt W.heap.size) r A cap l W e W' o) :
 Calls Tryz.prog 187 #[.pointer (some ⟨z, 0, none⟩), .pointer (some ⟨y, 0, none⟩), .pointer (some ⟨g, 0, none⟩)] W fun e W' =>
  (∃ x c aa cc W0, o = some (x, c) /\ W0.ownsRow (W.heap.size) 112 (Cel.k En) (.slice aa (List.length x.l) cc) (List.length x.l) (flat x.l) /\ e = .returned (.tuple #[]) /\ Only r W W0 /\ Rd W0 r A cap l (c : Int) /\ W' = ((((((W0.setCell ⟨g, 0, none⟩ (.int .i64 x.kind)).setCell ⟨g, 1, none⟩ (.int .i64 x.term)).setCell ⟨g, 2, none⟩ (.int .i64 x.vote)).setCell ⟨g, 3, none⟩ (.int .i64 x.prev)).setCell ⟨g, 4, none⟩ (.slice aa (List.length x.l) cc)).setCell ⟨g, 5, none⟩ (.string x.snap))) ∨ (o = none /\ Only r W W' /\ ∃ t v, e = .panicked [{ v := .iface t v, recovered := false }]) := by
 have HH := hidP h
 have c0 := pz.row1
 have c1 := py.row1
 have HG := hidP pg
 clear h pz py pg
 go_enter Tryz.func187, Tryz.ntmps187
 go_wp2_with fail
 refine HH.out.mono ?_
 intro e W1 h1
 cases o with
 | none =>
  obtain ⟨o1, t, v, rfl⟩ := h1
  exact ⟨rfl, .inr ⟨rfl, o1, t, v, rfl⟩⟩
 | some x =>
  obtain ⟨x, c⟩ := x
  obtain ⟨o1, r1, v, rfl, u, rfl, aa, cc, rfl, hown⟩ := h1
  have HOw := hidP hown
  clear hown
  have p1 := HG.out.only o1 hgr
  have d0 : W1.cell? ⟨g, 0, none⟩ = some (.int .i64 0) := p1.cell (i := 0) rfl
  have f0 := p1.thaw 0
  have d1 : W1.cell? ⟨g, 1, none⟩ = some (.int .i64 0) := p1.cell (i := 1) rfl
  have f1 := p1.thaw 1
  have d2 : W1.cell? ⟨g, 2, none⟩ = some (.int .i64 0) := p1.cell (i := 2) rfl
  have f2 := p1.thaw 2
  have d3 : W1.cell? ⟨g, 3, none⟩ = some (.int .i64 0) := p1.cell (i := 3) rfl
  have f3 := p1.thaw 3
  have d4 : W1.cell? ⟨g, 4, none⟩ = some (.slice none 0 0) := p1.cell (i := 4) rfl
  have f4 := p1.thaw 4
  have d5 : W1.cell? ⟨g, 5, none⟩ = some (.string ⟨#[]⟩) := p1.cell (i := 5) rfl
  have f5 := p1.thaw 5
  have q0 := p1.lt
  have HO1 := hidP o1
  have HR1 := hidP r1
  clear o1 r1 p1 c0 c1
  go_wp2
  go_end0
  exact .inl ⟨x, c, aa, cc, W1, rfl, HOw.out, rfl, HO1.out, HR1.out, rfl⟩
theorem Qe6 (o : Option (Nt × Nat)) (f : FuncId) (cp : Array Value) (A : Option Addr) (cap : Nat) (l : List UInt8) (i : Int) (hi : I64 i) (w : World) (hA : At w A l)
 (hcf : ∀ (p : Value) (W : World), (callFunc f (#[p] ++ cp)).run Tryz.prog W = .ok (.enter f (#[p] ++ cp)) W)
 (h : ∀ W r, Rd W r A cap l i -> Calls Tryz.prog f (#[.pointer (some ⟨r, 0, none⟩)] ++ cp) W fun e W' => Qd6 (isNt W.heap.size) r A cap l W e W' o) :
 Calls Tryz.prog 159 #[.slice A l.length cap, .int .i64 i, .func (.func f) #[] cp] w fun e w' => Below w.heap.size w w' /\
  ((∃ x c aa cc, o = some (x, c) /\ w'.ownsRow (w.heap.size) 112 (Cel.k En) (.slice aa (List.length x.l) cc) (List.length x.l) (flat x.l) /\ e = .returned (.tuple #[.agg #[.int .i64 x.kind, .int .i64 x.term, .int .i64 x.vote, .int .i64 x.prev, .slice aa (List.length x.l) cc, .string x.snap], .int .i64 (c : Int), .bool true])) ∨ (o = none /\ e = .returned (.tuple #[.agg #[.int .i64 0, .int .i64 0, .int .i64 0, .int .i64 0, .slice none 0 0, .string ⟨#[]⟩], .int .i64 0, .bool false]))) := by
 have hmf : ∀ (fn : Fn) (first cap : Array Value) (w : World), (Instr.makeFunc fn first cap).run Tryz.prog w = .ok (.func fn first cap) w := fun _ _ _ _ => rfl
 have hbl : Below w.heap.size w (((((((w.alloc (.cells #[.func (.func f) #[] cp] 207)).alloc (.cells #[.int .i64 0, .int .i64 0, .int .i64 0, .int .i64 0, .slice none 0 0, .string ⟨#[]⟩] 127)).alloc (.cells #[.int .i64 0, .int .i64 0, .int .i64 0, .int .i64 0, .slice none 0 0, .string ⟨#[]⟩] 127)).alloc (.cells #[.int .i64 0, .int .i64 0, .int .i64 0, .int .i64 0, .slice none 0 0, .string ⟨#[]⟩] 127)).alloc (.cells #[.slice A l.length cap, .int .i64 i] 246)).alloc (.cells #[.pointer (some ⟨w.heap.size + 1 + 1 + 1 + 1, 0, none⟩)] 204)).alloc (.cells #[.bool false] 4)) := Qaa (Qaa (Qaa (Qaa (Qaa (Qaa (Qaa (Below.refl _ w) _) _) _) _) _) _) _
 have hA' := hA.below hbl
 have hAlt : ∀ c o, A = some ⟨c, o, none⟩ -> l = [] ∨ c < w.heap.size := fun c o e => hA.imp id fun ⟨b, o', e', hb, _⟩ => by rw [e] at e'; cases e'; exact hb
 have hcf1 : ∀ W : World, (callFunc 187 #[.pointer (some ⟨w.heap.size, 0, none⟩), .pointer (some ⟨w.heap.size + 1 + 1 + 1 + 1 + 1, 0, none⟩), .pointer (some ⟨w.heap.size + 1 + 1, 0, none⟩)]).run Tryz.prog W = .ok (.enter 187 #[.pointer (some ⟨w.heap.size, 0, none⟩), .pointer (some ⟨w.heap.size + 1 + 1 + 1 + 1 + 1, 0, none⟩), .pointer (some ⟨w.heap.size + 1 + 1, 0, none⟩)]) W := fun W => by simp [go_sem]
 have pz := ((((((Blk.new w 207 #[.func (.func f) #[] cp]).alloc (.cells #[.int .i64 0, .int .i64 0, .int .i64 0, .int .i64 0, .slice none 0 0, .string ⟨#[]⟩] 127)).alloc (.cells #[.int .i64 0, .int .i64 0, .int .i64 0, .int .i64 0, .slice none 0 0, .string ⟨#[]⟩] 127)).alloc (.cells #[.int .i64 0, .int .i64 0, .int .i64 0, .int .i64 0, .slice none 0 0, .string ⟨#[]⟩] 127)).alloc (.cells #[.slice A l.length cap, .int .i64 i] 246)).alloc (.cells #[.pointer (some ⟨w.heap.size + 1 + 1 + 1 + 1, 0, none⟩)] 204)).alloc (.cells #[.bool false] 4)
 have ps := (((((Blk.new (w.alloc (.cells #[.func (.func f) #[] cp] 207)) 127 #[.int .i64 0, .int .i64 0, .int .i64 0, .int .i64 0, .slice none 0 0, .string ⟨#[]⟩]).alloc (.cells #[.int .i64 0, .int .i64 0, .int .i64 0, .int .i64 0, .slice none 0 0, .string ⟨#[]⟩] 127)).alloc (.cells #[.int .i64 0, .int .i64 0, .int .i64 0, .int .i64 0, .slice none 0 0, .string ⟨#[]⟩] 127)).alloc (.cells #[.slice A l.length cap, .int .i64 i] 246)).alloc (.cells #[.pointer (some ⟨w.heap.size + 1 + 1 + 1 + 1, 0, none⟩)] 204)).alloc (.cells #[.bool false] 4)
 have pg := ((((Blk.new ((w.alloc (.cells #[.func (.func f) #[] cp] 207)).alloc (.cells #[.int .i64 0, .int .i64 0, .int .i64 0, .int .i64 0, .slice none 0 0, .string ⟨#[]⟩] 127)) 127 #[.int .i64 0, .int .i64 0, .int .i64 0, .int .i64 0, .slice none 0 0, .string ⟨#[]⟩]).alloc (.cells #[.int .i64 0, .int .i64 0, .int .i64 0, .int .i64 0, .slice none 0 0, .string ⟨#[]⟩] 127)).alloc (.cells #[.slice A l.length cap, .int .i64 i] 246)).alloc (.cells #[.pointer (some ⟨w.heap.size + 1 + 1 + 1 + 1, 0, none⟩)] 204)).alloc (.cells #[.bool false] 4)
 have pn := (((Blk.new (((w.alloc (.cells #[.func (.func f) #[] cp] 207)).alloc (.cells #[.int .i64 0, .int .i64 0, .int .i64 0, .int .i64 0, .slice none 0 0, .string ⟨#[]⟩] 127)).alloc (.cells #[.int .i64 0, .int .i64 0, .int .i64 0, .int .i64 0, .slice none 0 0, .string ⟨#[]⟩] 127)) 127 #[.int .i64 0, .int .i64 0, .int .i64 0, .int .i64 0, .slice none 0 0, .string ⟨#[]⟩]).alloc (.cells #[.slice A l.length cap, .int .i64 i] 246)).alloc (.cells #[.pointer (some ⟨w.heap.size + 1 + 1 + 1 + 1, 0, none⟩)] 204)).alloc (.cells #[.bool false] 4)
 have pr := ((Blk.new ((((w.alloc (.cells #[.func (.func f) #[] cp] 207)).alloc (.cells #[.int .i64 0, .int .i64 0, .int .i64 0, .int .i64 0, .slice none 0 0, .string ⟨#[]⟩] 127)).alloc (.cells #[.int .i64 0, .int .i64 0, .int .i64 0, .int .i64 0, .slice none 0 0, .string ⟨#[]⟩] 127)).alloc (.cells #[.int .i64 0, .int .i64 0, .int .i64 0, .int .i64 0, .slice none 0 0, .string ⟨#[]⟩] 127)) 246 #[.slice A l.length cap, .int .i64 i]).alloc (.cells #[.pointer (some ⟨w.heap.size + 1 + 1 + 1 + 1, 0, none⟩)] 204)).alloc (.cells #[.bool false] 4)
 have py := (Blk.new (((((w.alloc (.cells #[.func (.func f) #[] cp] 207)).alloc (.cells #[.int .i64 0, .int .i64 0, .int .i64 0, .int .i64 0, .slice none 0 0, .string ⟨#[]⟩] 127)).alloc (.cells #[.int .i64 0, .int .i64 0, .int .i64 0, .int .i64 0, .slice none 0 0, .string ⟨#[]⟩] 127)).alloc (.cells #[.int .i64 0, .int .i64 0, .int .i64 0, .int .i64 0, .slice none 0 0, .string ⟨#[]⟩] 127)).alloc (.cells #[.slice A l.length cap, .int .i64 i] 246)) 204 #[.pointer (some ⟨w.heap.size + 1 + 1 + 1 + 1, 0, none⟩)]).alloc (.cells #[.bool false] 4)
 have pd := Blk.new ((((((w.alloc (.cells #[.func (.func f) #[] cp] 207)).alloc (.cells #[.int .i64 0, .int .i64 0, .int .i64 0, .int .i64 0, .slice none 0 0, .string ⟨#[]⟩] 127)).alloc (.cells #[.int .i64 0, .int .i64 0, .int .i64 0, .int .i64 0, .slice none 0 0, .string ⟨#[]⟩] 127)).alloc (.cells #[.int .i64 0, .int .i64 0, .int .i64 0, .int .i64 0, .slice none 0 0, .string ⟨#[]⟩] 127)).alloc (.cells #[.slice A l.length cap, .int .i64 i] 246)).alloc (.cells #[.pointer (some ⟨w.heap.size + 1 + 1 + 1 + 1, 0, none⟩)] 204)) 4 #[.bool false]
 simp only [World.size_alloc] at ps pg pn pr py pd
 generalize hW5 : (((((((w.alloc (.cells #[.func (.func f) #[] cp] 207)).alloc (.cells #[.int .i64 0, .int .i64 0, .int .i64 0, .int .i64 0, .slice none 0 0, .string ⟨#[]⟩] 127)).alloc (.cells #[.int .i64 0, .int .i64 0, .int .i64 0, .int .i64 0, .slice none 0 0, .string ⟨#[]⟩] 127)).alloc (.cells #[.int .i64 0, .int .i64 0, .int .i64 0, .int .i64 0, .slice none 0 0, .string ⟨#[]⟩] 127)).alloc (.cells #[.slice A l.length cap, .int .i64 i] 246)).alloc (.cells #[.pointer (some ⟨w.heap.size + 1 + 1 + 1 + 1, 0, none⟩)] 204)).alloc (.cells #[.bool false] 4)) = W5 at *
 have s5 : W5.heap.size = w.heap.size + 7 := by rw [← hW5]; simp
 have hrd : Rd W5 (w.heap.size + 1 + 1 + 1 + 1) A cap l i := ⟨pr, by
  rcases hA' with h | ⟨b, o, e, hb, hi⟩
  . exact .inl h
  . rcases hAlt b o e with h | h
    . exact .inl h
    . exact .inr ⟨b, o, e, hb, by omega, hi⟩, hi⟩
 have hdo := Qh5 o f cp w.heap.size (w.heap.size + 1 + 1 + 1 + 1 + 1) (w.heap.size + 1 + 1) (w.heap.size + 1 + 1 + 1 + 1) A cap l i W5 hcf pz py pg (by omega) (h W5 _ hrd)
 have htr := Qhu 187 #[.pointer (some ⟨w.heap.size, 0, none⟩), .pointer (some ⟨w.heap.size + 1 + 1 + 1 + 1 + 1, 0, none⟩), .pointer (some ⟨w.heap.size + 1 + 1, 0, none⟩)] ((((((w.alloc (.cells #[.func (.func f) #[] cp] 207)).alloc (.cells #[.int .i64 0, .int .i64 0, .int .i64 0, .int .i64 0, .slice none 0 0, .string ⟨#[]⟩] 127)).alloc (.cells #[.int .i64 0, .int .i64 0, .int .i64 0, .int .i64 0, .slice none 0 0, .string ⟨#[]⟩] 127)).alloc (.cells #[.int .i64 0, .int .i64 0, .int .i64 0, .int .i64 0, .slice none 0 0, .string ⟨#[]⟩] 127)).alloc (.cells #[.slice A l.length cap, .int .i64 i] 246)).alloc (.cells #[.pointer (some ⟨w.heap.size + 1 + 1 + 1 + 1, 0, none⟩)] 204))
  (fun W' => ∃ x c aa cc W0, o = some (x, c) /\ W0.ownsRow (W5.heap.size) 112 (Cel.k En) (.slice aa (List.length x.l) cc) (List.length x.l) (flat x.l) /\ Only (w.heap.size + 1 + 1 + 1 + 1) W5 W0 /\ Rd W0 (w.heap.size + 1 + 1 + 1 + 1) A cap l (c : Int) /\ W' = ((((((W0.setCell ⟨w.heap.size + 1 + 1, 0, none⟩ (.int .i64 x.kind)).setCell ⟨w.heap.size + 1 + 1, 1, none⟩ (.int .i64 x.term)).setCell ⟨w.heap.size + 1 + 1, 2, none⟩ (.int .i64 x.vote)).setCell ⟨w.heap.size + 1 + 1, 3, none⟩ (.int .i64 x.prev)).setCell ⟨w.heap.size + 1 + 1, 4, none⟩ (.slice aa (List.length x.l) cc)).setCell ⟨w.heap.size + 1 + 1, 5, none⟩ (.string x.snap))) (fun W' => o = none /\ Only (w.heap.size + 1 + 1 + 1 + 1) W5 W') hcf1 (by
   rw [hW5]
   refine hdo.mono fun e W' h1 => ?_
   rcases h1 with ⟨x, c, aa, cc, W0, h1, hb, h2, h3, h4, rfl⟩ | ⟨h1, h2, t, v, rfl⟩
   . exact ⟨by simpa using (((((((pd.only h3 (by omega)).other (by omega) 0 (.int .i64 x.kind)).other (by omega) 1 (.int .i64 x.term)).other (by omega) 2 (.int .i64 x.vote)).other (by omega) 3 (.int .i64 x.prev)).other (by omega) 4 (.slice aa (List.length x.l) cc)).other (by omega) 5 (.string x.snap)), .inl ⟨h2, x, c, aa, cc, W0, h1, hb, h3, h4, rfl⟩⟩
   . exact ⟨by simpa using pd.only h2 (by omega), .inr ⟨t, v, rfl, h1, h2⟩⟩)
 have HT := hidP htr
 have Hps := hidP ps
 have Hpn := hidP pn
 have Hpy := hidP py
 have Hpg := hidP pg
 have Hbl := hidP hbl
 have Hs5 := hidP s5
 clear htr hdo hrd pz ps pn pr pg pd h hcf hcf1 py hbl s5 hW5 hA'
 go_enter Tryz.func159, Tryz.ntmps159
 go_wp2_with fail
 refine HT.out.mono ?_
 rintro e W' ⟨W0, ho, hh⟩
 simp only [World.size_alloc] at ho
 rcases hh with ⟨rfl, x, c, aa, cc, W1, rfl, hb, o1, r1, rfl⟩ | ⟨rfl, rfl, o1⟩
 . have og : Only (w.heap.size + 1 + 1) W1 ((((((W1.setCell ⟨w.heap.size + 1 + 1, 0, none⟩ (.int .i64 x.kind)).setCell ⟨w.heap.size + 1 + 1, 1, none⟩ (.int .i64 x.term)).setCell ⟨w.heap.size + 1 + 1, 2, none⟩ (.int .i64 x.vote)).setCell ⟨w.heap.size + 1 + 1, 3, none⟩ (.int .i64 x.prev)).setCell ⟨w.heap.size + 1 + 1, 4, none⟩ (.slice aa (List.length x.l) cc)).setCell ⟨w.heap.size + 1 + 1, 5, none⟩ (.string x.snap)) := ((((((Only.refl _ _).set 0 (.int .i64 x.kind)).set 1 (.int .i64 x.term)).set 2 (.int .i64 x.vote)).set 3 (.int .i64 x.prev)).set 4 (.slice aa (List.length x.l) cc)).set 5 (.string x.snap)
   have hfin : Below w.heap.size w W' := Hbl.out.trans ((o1.toBelow (by omega) (by have := Hs5.out; omega)).trans ((og.toBelow (by omega) (by have := o1.size; have := Hs5.out; omega)).trans (ho.toBelow (by omega) (by have := o1.size; have := og.size; have := Hs5.out; omega))))
   have g1 : Blk ((((((W1.setCell ⟨w.heap.size + 1 + 1, 0, none⟩ (.int .i64 x.kind)).setCell ⟨w.heap.size + 1 + 1, 1, none⟩ (.int .i64 x.term)).setCell ⟨w.heap.size + 1 + 1, 2, none⟩ (.int .i64 x.vote)).setCell ⟨w.heap.size + 1 + 1, 3, none⟩ (.int .i64 x.prev)).setCell ⟨w.heap.size + 1 + 1, 4, none⟩ (.slice aa (List.length x.l) cc)).setCell ⟨w.heap.size + 1 + 1, 5, none⟩ (.string x.snap)) (w.heap.size + 1 + 1) 127 #[.int .i64 x.kind, .int .i64 x.term, .int .i64 x.vote, .int .i64 x.prev, .slice aa (List.length x.l) cc, .string x.snap] := (((((((Hpg.out.only o1 (by omega)).setAt 0 (.int .i64 x.kind)).setAt 1 (.int .i64 x.term)).setAt 2 (.int .i64 x.vote)).setAt 3 (.int .i64 x.prev)).setAt 4 (.slice aa (List.length x.l) cc)).setAt 5 (.string x.snap))
   have g' := g1.only ho (by omega)
   have y' := ((Hpy.out.only o1 (by omega)).only og (by omega)).only ho (by omega)
   have s' := ((Hps.out.only o1 (by omega)).only og (by omega)).only ho (by omega)
   have r' := (r1.box.only og (show w.heap.size + 1 + 1 + 1 + 1 ≠ w.heap.size + 1 + 1 by omega)).only ho (by omega)
   have k0 : W'.cell? ⟨w.heap.size + 1 + 1, 0, none⟩ = some (.int .i64 x.kind) := g'.cell (i := 0) rfl
   have k1 : W'.cell? ⟨w.heap.size + 1 + 1, 1, none⟩ = some (.int .i64 x.term) := g'.cell (i := 1) rfl
   have k2 : W'.cell? ⟨w.heap.size + 1 + 1, 2, none⟩ = some (.int .i64 x.vote) := g'.cell (i := 2) rfl
   have k3 : W'.cell? ⟨w.heap.size + 1 + 1, 3, none⟩ = some (.int .i64 x.prev) := g'.cell (i := 3) rfl
   have k4 : W'.cell? ⟨w.heap.size + 1 + 1, 4, none⟩ = some (.slice aa (List.length x.l) cc) := g'.cell (i := 4) rfl
   have k5 : W'.cell? ⟨w.heap.size + 1 + 1, 5, none⟩ = some (.string x.snap) := g'.cell (i := 5) rfl
   have rr0 : W'.cell? ⟨w.heap.size + 1, 0, none⟩ = some (.int .i64 0) := s'.cell (i := 0) rfl
   have zz0 := s'.thaw 0
   have rr1 : W'.cell? ⟨w.heap.size + 1, 1, none⟩ = some (.int .i64 0) := s'.cell (i := 1) rfl
   have zz1 := s'.thaw 1
   have rr2 : W'.cell? ⟨w.heap.size + 1, 2, none⟩ = some (.int .i64 0) := s'.cell (i := 2) rfl
   have zz2 := s'.thaw 2
   have rr3 : W'.cell? ⟨w.heap.size + 1, 3, none⟩ = some (.int .i64 0) := s'.cell (i := 3) rfl
   have zz3 := s'.thaw 3
   have rr4 : W'.cell? ⟨w.heap.size + 1, 4, none⟩ = some (.slice none 0 0) := s'.cell (i := 4) rfl
   have zz4 := s'.thaw 4
   have rr5 : W'.cell? ⟨w.heap.size + 1, 5, none⟩ = some (.string ⟨#[]⟩) := s'.cell (i := 5) rfl
   have zz5 := s'.thaw 5
   have c1 := y'.row1
   obtain ⟨c2, c3⟩ := r'.row2
   have qg := g'.lt
   have qy := y'.lt
   have qr := r'.lt
   have qs := s'.lt
   have HOw := hidP (Qbj (Qbj (Qbj hb og (by have := Hs5.out; omega)) ho (by have := Hs5.out; omega)) (((((((Only.refl (w.heap.size + 1) W').set 0 (.int .i64 x.kind)).set 1 (.int .i64 x.term)).set 2 (.int .i64 x.vote)).set 3 (.int .i64 x.prev)).set 4 (.slice aa (List.length x.l) cc)).set 5 (.string x.snap)) (by have := Hs5.out; omega))
   have Hf := hidP hfin
   clear hb
   clear ho g' y' r' s' g1 o1 r1 hmf og hfin HT Hps Hpn Hpy Hpg Hbl hAlt hA
   go_wp2_with fail
   go_region
   go_wp2
   have oz : Below w.heap.size w ((((((W'.setCell ⟨w.heap.size + 1, 0, none⟩ (.int .i64 x.kind)).setCell ⟨w.heap.size + 1, 1, none⟩ (.int .i64 x.term)).setCell ⟨w.heap.size + 1, 2, none⟩ (.int .i64 x.vote)).setCell ⟨w.heap.size + 1, 3, none⟩ (.int .i64 x.prev)).setCell ⟨w.heap.size + 1, 4, none⟩ (.slice aa (List.length x.l) cc)).setCell ⟨w.heap.size + 1, 5, none⟩ (.string x.snap)) := Hf.out.trans (Only.toBelow (b := w.heap.size + 1) (((((((Only.refl _ _).set 0 (.int .i64 x.kind)).set 1 (.int .i64 x.term)).set 2 (.int .i64 x.vote)).set 3 (.int .i64 x.prev)).set 4 (.slice aa (List.length x.l) cc)).set 5 (.string x.snap)) (by omega) Hf.out.size)
   exact bodyPost_ret (v := .tuple #[.agg #[.int .i64 x.kind, .int .i64 x.term, .int .i64 x.vote, .int .i64 x.prev, .slice aa (List.length x.l) cc, .string x.snap], .int .i64 (c : Int), .bool true]) (by simp [results, Tryz.results159, go_sem, rr0, rr1, rr2, rr3, rr4, rr5]) rfl ⟨oz.drew, .inl ⟨x, c, aa, cc, rfl, Qch (C := w.heap.size) (Qcu HOw.out (Below.drew (Below.refl _ _))) (by have := Hs5.out; omega), rfl⟩⟩
 . have hfin : Below w.heap.size w W' := Hbl.out.trans ((o1.toBelow (by omega) (by have := Hs5.out; omega)).trans (ho.toBelow (by omega) (by have := o1.size; have := Hs5.out; omega)))
   have s' := (Hps.out.only o1 (by omega)).only ho (by omega)
   have n' := (Hpn.out.only o1 (by omega)).only ho (by omega)
   have k0 : W'.cell? ⟨w.heap.size + 1 + 1 + 1, 0, none⟩ = some (.int .i64 0) := n'.cell (i := 0) rfl
   have k1 : W'.cell? ⟨w.heap.size + 1 + 1 + 1, 1, none⟩ = some (.int .i64 0) := n'.cell (i := 1) rfl
   have k2 : W'.cell? ⟨w.heap.size + 1 + 1 + 1, 2, none⟩ = some (.int .i64 0) := n'.cell (i := 2) rfl
   have k3 : W'.cell? ⟨w.heap.size + 1 + 1 + 1, 3, none⟩ = some (.int .i64 0) := n'.cell (i := 3) rfl
   have k4 : W'.cell? ⟨w.heap.size + 1 + 1 + 1, 4, none⟩ = some (.slice none 0 0) := n'.cell (i := 4) rfl
   have k5 : W'.cell? ⟨w.heap.size + 1 + 1 + 1, 5, none⟩ = some (.string ⟨#[]⟩) := n'.cell (i := 5) rfl
   have rr0 : W'.cell? ⟨w.heap.size + 1, 0, none⟩ = some (.int .i64 0) := s'.cell (i := 0) rfl
   have zz0 := s'.thaw 0
   have rr1 : W'.cell? ⟨w.heap.size + 1, 1, none⟩ = some (.int .i64 0) := s'.cell (i := 1) rfl
   have zz1 := s'.thaw 1
   have rr2 : W'.cell? ⟨w.heap.size + 1, 2, none⟩ = some (.int .i64 0) := s'.cell (i := 2) rfl
   have zz2 := s'.thaw 2
   have rr3 : W'.cell? ⟨w.heap.size + 1, 3, none⟩ = some (.int .i64 0) := s'.cell (i := 3) rfl
   have zz3 := s'.thaw 3
   have rr4 : W'.cell? ⟨w.heap.size + 1, 4, none⟩ = some (.slice none 0 0) := s'.cell (i := 4) rfl
   have zz4 := s'.thaw 4
   have rr5 : W'.cell? ⟨w.heap.size + 1, 5, none⟩ = some (.string ⟨#[]⟩) := s'.cell (i := 5) rfl
   have zz5 := s'.thaw 5
   have qs := s'.lt
   have qn := n'.lt
   have Hf := hidP hfin
   clear ho s' n' o1 hmf hfin HT Hps Hpn Hpy Hpg Hbl hAlt hA
   go_wp2
   have oz : Below w.heap.size w ((((((W'.setCell ⟨w.heap.size + 1, 0, none⟩ (.int .i64 0)).setCell ⟨w.heap.size + 1, 1, none⟩ (.int .i64 0)).setCell ⟨w.heap.size + 1, 2, none⟩ (.int .i64 0)).setCell ⟨w.heap.size + 1, 3, none⟩ (.int .i64 0)).setCell ⟨w.heap.size + 1, 4, none⟩ (.slice none 0 0)).setCell ⟨w.heap.size + 1, 5, none⟩ (.string ⟨#[]⟩)) := Hf.out.trans (Only.toBelow (b := w.heap.size + 1) (((((((Only.refl _ _).set 0 (.int .i64 0)).set 1 (.int .i64 0)).set 2 (.int .i64 0)).set 3 (.int .i64 0)).set 4 (.slice none 0 0)).set 5 (.string ⟨#[]⟩)) (by omega) Hf.out.size)
   exact bodyPost_ret (v := .tuple #[.agg #[.int .i64 0, .int .i64 0, .int .i64 0, .int .i64 0, .slice none 0 0, .string ⟨#[]⟩], .int .i64 0, .bool false]) (by simp [results, Tryz.results159, go_sem, rr0, rr1, rr2, rr3, rr4, rr5]) rfl ⟨oz, rfl⟩
theorem Blk.row6n {W : World} {B : Nat} {t : TypeId} {a b c d e f : Value} (h : Blk W B t #[a, b, c, d, e, f]) : W.cell? ⟨B, 0, none⟩ = some a /\ W.cell? ⟨B, 1, none⟩ = some b /\ W.cell? ⟨B, 2, none⟩ = some c /\ W.cell? ⟨B, 3, none⟩ = some d /\ W.cell? ⟨B, 4, none⟩ = some e /\ W.cell? ⟨B, 5, none⟩ = some f :=
 ⟨h.cell (by rfl), h.cell (by rfl), h.cell (by rfl), h.cell (by rfl), h.cell (by rfl), h.cell (by rfl)⟩
end Go.Proofs.YtglegpkcikacoaaGreatDoor.Gen
