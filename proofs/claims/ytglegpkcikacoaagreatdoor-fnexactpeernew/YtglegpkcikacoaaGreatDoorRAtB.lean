/-
  Bytes read at a place: they, the place behind them and true; nothing, 0 and false where the reader panics. Condition: at most 1048576 bytes.
-/
import Derived.Test.YtglegpkcikacoaaGreatDoorRMg
set_option linter.unusedVariables false
set_option linter.unusedSimpArgs false
set_option maxRecDepth 100000
set_option maxHeartbeats 8000000
namespace Go.Proofs.YtglegpkcikacoaaGreatDoor.Gen
open ChangeShapes WideShapes ChangeAt RowKit Joins Deep Base
theorem isBy.mono {B B' : Nat} {L : List UInt8} {v : Value} {W : World} (h : isBy B L v W) (hB : B' <= B) : isBy B' L v W := by
 obtain ⟨b, c, e, h1, h2⟩ := h
 exact ⟨b, c, e, Nat.le_trans hB h1, h2⟩
theorem Qgy (o : Option (List UInt8 × Nat)) (f : FuncId) (cp : Array Value) (z y g r : Nat) (A : Option Addr) (cap : Nat) (l : List UInt8) (i : Int) (W : World)
 (hcf : ∀ (p : Value) (W : World), (callFunc f (#[p] ++ cp)).run Tryz.prog W = .ok (.enter f (#[p] ++ cp)) W)
 (pz : Blk W z 202 #[.func (.func f) #[] cp]) (py : Blk W y 204 #[.pointer (some ⟨r, 0, none⟩)]) (pg : Blk W g 37 #[.slice none 0 0]) (hgr : g ≠ r)
 (h : Calls Tryz.prog f (#[.pointer (some ⟨r, 0, none⟩)] ++ cp) W fun e W' => Qd6 (isBy W.heap.size) r A cap l W e W' o) :
 Calls Tryz.prog 183 #[.pointer (some ⟨z, 0, none⟩), .pointer (some ⟨y, 0, none⟩), .pointer (some ⟨g, 0, none⟩)] W fun e W' =>
  (∃ x c bb cc W0, o = some (x, c) /\ isBy W.heap.size x (.slice (some ⟨bb, 0, none⟩) (List.length x) cc) W0 /\ e = .returned (.tuple #[]) /\ Only r W W0 /\ Rd W0 r A cap l (c : Int) /\ W' = (W0.setCell ⟨g, 0, none⟩ (.slice (some ⟨bb, 0, none⟩) (List.length x) cc))) ∨ (o = none /\ Only r W W' /\ ∃ t v, e = .panicked [{ v := .iface t v, recovered := false }]) := by
 have HH := hidP h
 have c0 := pz.row1
 have c1 := py.row1
 have HG := hidP pg
 clear h pz py pg
 go_enter Tryz.func183, Tryz.ntmps183
 go_wp2_with fail
 refine HH.out.mono ?_
 intro e W1 h1
 cases o with
 | none =>
  obtain ⟨o1, t, v, rfl⟩ := h1
  exact ⟨rfl, .inr ⟨rfl, o1, t, v, rfl⟩⟩
 | some x =>
  obtain ⟨x, c⟩ := x
  obtain ⟨o1, r1, v, rfl, hby⟩ := h1
  have HBy := hidP hby
  obtain ⟨bb, cc, rfl, _⟩ := hby
  have p1 := HG.out.only o1 hgr
  have d0 := p1.row1
  have f0 := p1.thaw 0
  have q0 := p1.lt
  have HO1 := hidP o1
  have HR1 := hidP r1
  clear o1 r1 p1 c0 c1
  go_wp2
  go_end0
  exact .inl ⟨x, c, bb, cc, W1, rfl, HBy.out, rfl, HO1.out, HR1.out, rfl⟩
theorem Qh4 (o : Option (List UInt8 × Nat)) (f : FuncId) (cp : Array Value) (A : Option Addr) (cap : Nat) (l : List UInt8) (i : Int) (hi : I64 i) (w : World) (hA : At w A l)
 (hcf : ∀ (p : Value) (W : World), (callFunc f (#[p] ++ cp)).run Tryz.prog W = .ok (.enter f (#[p] ++ cp)) W)
 (h : ∀ W r, Below w.heap.size w W -> w.heap.size + 2 = r -> W.heap.size = w.heap.size + 5 -> Rd W r A cap l i -> Calls Tryz.prog f (#[.pointer (some ⟨r, 0, none⟩)] ++ cp) W fun e W' => Qd6 (isBy W.heap.size) r A cap l W e W' o) :
 Calls Tryz.prog 157 #[.slice A l.length cap, .int .i64 i, .func (.func f) #[] cp] w fun e w' => Below w.heap.size w w' /\
  ((∃ x c bb cc, o = some (x, c) /\ isBy w.heap.size x (.slice (some ⟨bb, 0, none⟩) (List.length x) cc) w' /\ e = .returned (.tuple #[.slice (some ⟨bb, 0, none⟩) (List.length x) cc, .int .i64 (c : Int), .bool true])) ∨ (o = none /\ e = .returned (.tuple #[.slice none 0 0, .int .i64 0, .bool false]))) := by
 have hmf : ∀ (fn : Fn) (first cap : Array Value) (w : World), (Instr.makeFunc fn first cap).run Tryz.prog w = .ok (.func fn first cap) w := fun _ _ _ _ => rfl
 have hA' : At (((((w.alloc (.cells #[.func (.func f) #[] cp] 202)).alloc (.cells #[.slice none 0 0] 37)).alloc (.cells #[.slice A l.length cap, .int .i64 i] 246)).alloc (.cells #[.pointer (some ⟨w.heap.size + 1 + 1, 0, none⟩)] 204)).alloc (.cells #[.bool false] 4)) A l :=
  hA.below (Qaa (Qaa (Qaa (Qaa (Qaa (Below.refl _ w) _) _) _) _) _)
 have hAlt : ∀ c o, A = some ⟨c, o, none⟩ -> l = [] ∨ c < w.heap.size := fun c o e => hA.imp id fun ⟨b, o', e', hb, _⟩ => by rw [e] at e'; cases e'; exact hb
 have hcf1 : ∀ W : World, (callFunc 183 #[.pointer (some ⟨w.heap.size, 0, none⟩), .pointer (some ⟨w.heap.size + 1 + 1 + 1, 0, none⟩), .pointer (some ⟨w.heap.size + 1, 0, none⟩)]).run Tryz.prog W = .ok (.enter 183 #[.pointer (some ⟨w.heap.size, 0, none⟩), .pointer (some ⟨w.heap.size + 1 + 1 + 1, 0, none⟩), .pointer (some ⟨w.heap.size + 1, 0, none⟩)]) W := fun W => by simp [go_sem]
 have pz := ((((Blk.new w 202 #[.func (.func f) #[] cp]).alloc (.cells #[.slice none 0 0] 37)).alloc (.cells #[.slice A l.length cap, .int .i64 i] 246)).alloc (.cells #[.pointer (some ⟨w.heap.size + 1 + 1, 0, none⟩)] 204)).alloc (.cells #[.bool false] 4)
 have pg := (((Blk.new (w.alloc (.cells #[.func (.func f) #[] cp] 202)) 37 #[.slice none 0 0]).alloc (.cells #[.slice A l.length cap, .int .i64 i] 246)).alloc (.cells #[.pointer (some ⟨w.heap.size + 1 + 1, 0, none⟩)] 204)).alloc (.cells #[.bool false] 4)
 have pr := ((Blk.new ((w.alloc (.cells #[.func (.func f) #[] cp] 202)).alloc (.cells #[.slice none 0 0] 37)) 246 #[.slice A l.length cap, .int .i64 i]).alloc (.cells #[.pointer (some ⟨w.heap.size + 1 + 1, 0, none⟩)] 204)).alloc (.cells #[.bool false] 4)
 have py := (Blk.new (((w.alloc (.cells #[.func (.func f) #[] cp] 202)).alloc (.cells #[.slice none 0 0] 37)).alloc (.cells #[.slice A l.length cap, .int .i64 i] 246)) 204 #[.pointer (some ⟨w.heap.size + 1 + 1, 0, none⟩)]).alloc (.cells #[.bool false] 4)
 have pd := Blk.new ((((w.alloc (.cells #[.func (.func f) #[] cp] 202)).alloc (.cells #[.slice none 0 0] 37)).alloc (.cells #[.slice A l.length cap, .int .i64 i] 246)).alloc (.cells #[.pointer (some ⟨w.heap.size + 1 + 1, 0, none⟩)] 204)) 4 #[.bool false]
 have hbl := Qaa (Qaa (Qaa (Qaa (Qaa (Below.refl _ w) (.cells #[.func (.func f) #[] cp] 202)) (.cells #[.slice none 0 0] 37)) (.cells #[.slice A l.length cap, .int .i64 i] 246)) (.cells #[.pointer (some ⟨w.heap.size + 1 + 1, 0, none⟩)] 204)) (.cells #[.bool false] 4)
 simp only [World.size_alloc] at pg pr py pd
 generalize hW5 : (((((w.alloc (.cells #[.func (.func f) #[] cp] 202)).alloc (.cells #[.slice none 0 0] 37)).alloc (.cells #[.slice A l.length cap, .int .i64 i] 246)).alloc (.cells #[.pointer (some ⟨w.heap.size + 1 + 1, 0, none⟩)] 204)).alloc (.cells #[.bool false] 4)) = W5 at *
 have s5 : W5.heap.size = w.heap.size + 5 := by rw [← hW5]; simp
 have hrd : Rd W5 (w.heap.size + 1 + 1) A cap l i := ⟨pr, by
  rcases hA' with h | ⟨b, o, e, hb, hi⟩
  . exact .inl h
  . rcases hAlt b o e with h | h
    . exact .inl h
    . exact .inr ⟨b, o, e, hb, by omega, hi⟩, hi⟩
 have hdo := Qgy o f cp w.heap.size (w.heap.size + 1 + 1 + 1) (w.heap.size + 1) (w.heap.size + 1 + 1) A cap l i W5 hcf pz py pg (by omega) (h W5 _ hbl rfl s5 hrd)
 have htr := Qhu 183 #[.pointer (some ⟨w.heap.size, 0, none⟩), .pointer (some ⟨w.heap.size + 1 + 1 + 1, 0, none⟩), .pointer (some ⟨w.heap.size + 1, 0, none⟩)] ((((w.alloc (.cells #[.func (.func f) #[] cp] 202)).alloc (.cells #[.slice none 0 0] 37)).alloc (.cells #[.slice A l.length cap, .int .i64 i] 246)).alloc (.cells #[.pointer (some ⟨w.heap.size + 1 + 1, 0, none⟩)] 204))
  (fun W' => ∃ x c bb cc W0, o = some (x, c) /\ isBy W5.heap.size x (.slice (some ⟨bb, 0, none⟩) (List.length x) cc) W0 /\ Only (w.heap.size + 1 + 1) W5 W0 /\ Rd W0 (w.heap.size + 1 + 1) A cap l (c : Int) /\ W' = (W0.setCell ⟨w.heap.size + 1, 0, none⟩ (.slice (some ⟨bb, 0, none⟩) (List.length x) cc))) (fun W' => o = none /\ Only (w.heap.size + 1 + 1) W5 W') hcf1 (by
   rw [hW5]
   refine hdo.mono fun e W' h1 => ?_
   rcases h1 with ⟨x, c, bb, cc, W0, h1, hb, h2, h3, h4, rfl⟩ | ⟨h1, h2, t, v, rfl⟩
   . exact ⟨by simpa using (pd.only h3 (by omega)).other (by omega) 0 (.slice (some ⟨bb, 0, none⟩) (List.length x) cc), .inl ⟨h2, x, c, bb, cc, W0, h1, hb, h3, h4, rfl⟩⟩
   . exact ⟨by simpa using pd.only h2 (by omega), .inr ⟨t, v, rfl, h1, h2⟩⟩)
 have HT := hidP htr
 have Hpy := hidP py
 have Hpg := hidP pg
 have Hbl := hidP hbl
 have Hs5 := hidP s5
 clear htr hdo hrd pz pr pg pd h hcf hcf1 py hbl s5 hW5 hA'
 go_enter Tryz.func157, Tryz.ntmps157
 go_wp2_with fail
 refine HT.out.mono ?_
 rintro e W' ⟨W0, ho, hh⟩
 simp only [World.size_alloc] at ho
 rcases hh with ⟨rfl, x, c, bb, cc, W1, rfl, hb, o1, r1, rfl⟩ | ⟨rfl, rfl, o1⟩
 . have hfin : Hid (Below w.heap.size w W') := Hbl.out.trans ((o1.toBelow (by omega) (by have := Hs5.out; omega)).trans ((Qam (Below.refl _ _) (by omega) (.slice (some ⟨bb, 0, none⟩) (List.length x) cc)).trans (ho.toBelow (by omega) (by have := o1.size; have := Hs5.out; simp; omega))))
   have g' := ((Hpg.out.only o1 (by omega)).setAt 0 (.slice (some ⟨bb, 0, none⟩) (List.length x) cc)).only ho (by omega)
   have y' := ((Hpy.out.only o1 (by omega)).other (by omega) 0 (.slice (some ⟨bb, 0, none⟩) (List.length x) cc)).only ho (by omega)
   have r' := (r1.box.other (show w.heap.size + 1 + 1 ≠ w.heap.size + 1 by omega) 0 (.slice (some ⟨bb, 0, none⟩) (List.length x) cc)).only ho (by omega)
   have c0 := g'.row1
   have c1 := y'.row1
   obtain ⟨c2, c3⟩ := r'.row2
   have q0 := g'.lt
   have q1 := y'.lt
   have q2 := r'.lt
   have HBy := hidP (((hb.only ((Only.refl (w.heap.size + 1) W1).set 0 (.slice (some ⟨bb, 0, none⟩) (List.length x) cc)) (by have := Hs5.out; omega)).only ho (by have := Hs5.out; omega)).mono (B' := w.heap.size) (by have := Hs5.out; omega))
   clear ho g' y' r' o1 r1 hmf hb
   go_wp2_with fail
   go_quiet (fail)
   go_wp2
   exact bodyPost_ret (v := .tuple #[.slice (some ⟨bb, 0, none⟩) (List.length x) cc, .int .i64 (c : Int), .bool true]) (by simp [results, Tryz.results157, go_sem]) rfl ⟨below_drewN hfin.out _, .inl ⟨x, c, bb, cc, rfl, HBy.out.below (below_drewN (Below.refl _ _) _), rfl⟩⟩
 . have hfin : Hid (Below w.heap.size w W') := Hbl.out.trans ((o1.toBelow (by omega) (by have := Hs5.out; omega)).trans (ho.toBelow (by omega) (by have := o1.size; have := Hs5.out; omega)))
   clear hmf
   go_wp2
   exact bodyPost_ret (v := .tuple #[.slice none 0 0, .int .i64 0, .bool false]) (by simp [results, Tryz.results157, go_sem]) rfl ⟨hfin.out, rfl⟩
end Go.Proofs.YtglegpkcikacoaaGreatDoor.Gen
