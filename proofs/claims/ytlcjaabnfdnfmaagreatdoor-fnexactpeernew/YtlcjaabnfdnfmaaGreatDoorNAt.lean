/-
  The note that begins at a place, as the program tells it. Condition: at most 1048576 bytes.
-/
import Derived.Test.YtlcjaabnfdnfmaaGreatDoorNOk
import Derived.Test.YtlcjaabnfdnfmaaGreatDoorHOk
set_option linter.unusedVariables false
set_option linter.unusedSimpArgs false
set_option maxRecDepth 100000
set_option maxHeartbeats 8000000
namespace Go.Proofs.YtlcjaabnfdnfmaaGreatDoor.Gen
open ChangeShapes WideShapes ChangeAt RowKit Joins Deep Base
def Nt.ok (x : Nt) : Bool := noteB x.kind x.term x.vote x.prev x.l x.snap
def ofN (l : List UInt8) (i : Int) : Option (Nt × Nat) := match Qeb l i with
  | none => none
  | some (L, c) => match Qck L 0 with
    | none => none
    | some (x, d) => if d = L.length /\ x.ok = true then some (x, c) else none
theorem Qfj {α : Type} {get : Int -> Option (α × Nat)} {P : α -> Prop} (hget : ∀ (i : Nat) x c, get (i : Int) = some (x, c) -> P x) : ∀ (n c : Nat) {xs : List α} {d : Nat}, Qa0 get n c = some (xs, d) -> ∀ x ∈ xs, P x
 | 0, c, xs, d, h => by
  simp only [Qa0, Option.some.injEq, Prod.mk.injEq] at h
  obtain ⟨rfl, rfl⟩ := h
  simp
 | n + 1, c, xs, d, h => by
  simp only [Qa0] at h
  cases hx : get (c : Int) with
  | none => simp [hx] at h
  | some p =>
  obtain ⟨x, e⟩ := p
  simp only [hx] at h
  cases hy : Qa0 get n e with
  | none => simp [hy] at h
  | some q =>
  obtain ⟨ys, f⟩ := q
  simp only [hy, Option.some.injEq, Prod.mk.injEq] at h
  obtain ⟨rfl, rfl⟩ := h
  intro y hy'
  rcases List.mem_cons.1 hy' with e' | e'
  . subst e'; exact hget _ _ _ hx
  . exact Qfj hget n e hy y e'
theorem getEnt_fit {l : List UInt8} (hl : l.length <= 1048576) {i : Nat} {x : En} {c : Nat} (h : Qbs l (i : Int) = some (x, c)) : x.fit := by
 unfold Qbs at h
 cases hx1 : getN l (i : Int) with
 | none => simp [hx1] at h
 | some p1 =>
 obtain ⟨n1, c1⟩ := p1
 cases hx2 : getC l (c1 : Int) with
 | none => simp [hx1, hx2] at h
 | some p2 =>
 obtain ⟨x2, c2⟩ := p2
 simp only [hx1, hx2, Option.some.injEq, Prod.mk.injEq] at h
 obtain ⟨rfl, _⟩ := h
 unfold getC at hx2
 cases hq : q8 l (some (c1 : Int)) with
 | none => rw [hq] at hx2; cases hx2
 | some p =>
  rw [hq] at hx2
  simp only [Option.map_some, Option.some.injEq, Prod.mk.injEq] at hx2
  obtain ⟨rfl, _⟩ := hx2
  have h1 := tV_le l (nO (q6 l (some (c1 : Int))))
  have h2 := tV_le l (nO (q7 l (some (c1 : Int))))
  exact ⟨Nat.le_trans h1 (by omega), Nat.le_trans h2 (by omega)⟩
theorem getNt_fit {l : List UInt8} (hl : l.length <= 1048576) {i : Int} {x : Nt} {c : Nat} (h : Qck l i = some (x, c)) : x.l.length <= 1048576 /\ (∀ y ∈ x.l, y.fit) /\ x.snap.size <= 1048576 /\ c <= l.length := by
 unfold Qck at h
 cases hx1 : getN l i with
 | none => simp [hx1] at h
 | some p1 =>
 obtain ⟨n1, c1⟩ := p1
 cases hx2 : getN l (c1 : Int) with
 | none => simp [hx1, hx2] at h
 | some p2 =>
 obtain ⟨n2, c2⟩ := p2
 cases hx3 : getN l (c2 : Int) with
 | none => simp [hx1, hx2, hx3] at h
 | some p3 =>
 obtain ⟨n3, c3⟩ := p3
 cases hx4 : getN l (c3 : Int) with
 | none => simp [hx1, hx2, hx3, hx4] at h
 | some p4 =>
 obtain ⟨n4, c4⟩ := p4
 cases hx5 : Qci l (Qbs l) (c4 : Int) with
 | none => simp [hx1, hx2, hx3, hx4, hx5] at h
 | some p5 =>
 obtain ⟨s5, c5⟩ := p5
 cases hx6 : getT l (c5 : Int) with
 | none => simp [hx1, hx2, hx3, hx4, hx5, hx6] at h
 | some p6 =>
 obtain ⟨s6, c6⟩ := p6
 simp only [hx1, hx2, hx3, hx4, hx5, hx6, Option.some.injEq, Prod.mk.injEq] at h
 obtain ⟨rfl, rfl⟩ := h
 have h5 := Qgr (fun i x c h => Qfk h) hx5
 have h6 := Qc4 hx6
 refine ⟨by show s5.length <= _; omega, ?_, by show s6.size <= _; omega, h6.2.2.1⟩
 unfold Qci at hx5
 cases hn : getN l (c4 : Int) with
 | none => simp [hn] at hx5
 | some p =>
 obtain ⟨n, c⟩ := p
 simp only [hn] at hx5
 exact Qfj (fun i x c h => getEnt_fit hl h) n c hx5
theorem getNt_nil : Qck [] 0 = none := by
 unfold Qck
 rw [Qja (by simp)]
theorem noteAt_any (A : Option Addr) (cap : Nat) (l : List UInt8) (hl : l.length <= 1048576) (hcap : l.length <= cap) (hcm : cap <= 9223372036854775807) (i : Int) (hi : I64 i) (w : World) (hA : At w A l) :
 Calls Tryz.prog 129 #[.slice A l.length cap, .int .i64 i] w fun e w' => Below w.heap.size w w' /\
  ((∃ x c aa cc, ofN l i = some (x, c) /\ w'.ownsRow w.heap.size 112 (Cel.k En) (.slice aa (List.length x.l) cc) (List.length x.l) (flat x.l) /\ e = .returned (.tuple #[.agg #[.int .i64 x.kind, .int .i64 x.term, .int .i64 x.vote, .int .i64 x.prev, .slice aa (List.length x.l) cc, .string x.snap], .int .i64 (c : Int), .nilIface])) ∨ (ofN l i = none /\ e = .returned (.tuple #[.agg #[.int .i64 0, .int .i64 0, .int .i64 0, .int .i64 0, .slice none 0 0, .string ⟨#[]⟩], .int .i64 0, .iface 166 (.agg #[.int .i64 i])]))) := by
 have hbl := Qaa (Below.refl _ w) (.cells #[.int .i64 0, .int .i64 0, .int .i64 0, .int .i64 0, .slice none 0 0, .string ⟨#[]⟩] 127)
 have p0 := Blk.new w 127 #[.int .i64 0, .int .i64 0, .int .i64 0, .int .i64 0, .slice none 0 0, .string ⟨#[]⟩]
 have hR := hidP (Qh4 (Qeb l i) 158 #[] A cap l i hi (w.alloc (.cells #[.int .i64 0, .int .i64 0, .int .i64 0, .int .i64 0, .slice none 0 0, .string ⟨#[]⟩] 127)) (hA.below hbl) (fun p W => by simp [go_sem]) (fun W r _ _ _ hrd => Qjy r A cap l i hl hcap hcm W hrd))
 have Hp0 := hidP p0
 have Hbl := hidP hbl
 clear hA p0 hbl
 go_enter Tryz.func129, Tryz.ntmps129
 go_wp2_with fail
 refine hR.out.mono ?_
 rintro e w1 ⟨g1, h1⟩
 have P1 := hidP (Hp0.out.below g1 Hp0.out.lt)
 have B1 := hidP (via0 g1 Hbl.out)
 clear g1 hR Hp0 Hbl
 rcases h1 with ⟨L, c, bb, cc, hg, hby, rfl⟩ | ⟨hg, rfl⟩
 . obtain ⟨b', c', e', hb1, hb2, hb3, hb4, hb5⟩ := hby
   simp only [Value.slice.injEq, Option.some.injEq, Addr.mk.injEq, and_true] at e'
   obtain ⟨rfl, _, rfl⟩ := e'
   have hfl := getFr_le hg
   have hatL : At w1 (some ⟨bb, 0, none⟩) L := .inr ⟨_, _, rfl, hb2, hb3⟩
   have hR2 := hidP (Qe6 (Qck L 0) 160 #[] (some ⟨bb, 0, none⟩) cc L 0 ⟨by omega, by omega⟩ w1 hatL (fun p W => by simp [go_sem]) (fun W r hrd => Qgo r (some ⟨bb, 0, none⟩) cc L 0 (by omega) hb4 hb5 W hrd))
   have Hg := hidP hg
   clear hb1 hb2 hb3 hb4 hb5 hatL hg
   go_wp2_with fail
   refine hR2.out.mono ?_
   rintro e w2 ⟨g2, h2⟩
   have p := P1.out.below g2 P1.out.lt
   have HB := hidP (via0 g2 B1.out)
   clear hR2
   rcases h2 with ⟨x, d, aa, cc2, hx, hown, rfl⟩ | ⟨hx, rfl⟩
   . obtain ⟨f1, f2, f3, f4⟩ := getNt_fit (by omega) hx
     have hat2 := (Qdh (α := En) hown).at
     have HP := hidP p
     have q2 := p.lt
     have hO : Hid (ofN l i = if d = L.length /\ x.ok = true then some (x, c) else none) := by show _ = _; simp [ofN, Hg.out, hx]
     have HOw := hidP (Qch (C := w.heap.size + 1) hown P1.out.lt)
     have Hat := hidP hat2
     have Hf2 := hidP f2
     clear hown hat2 p g2 hx f2
     by_cases hd : d = L.length
     . subst hd
       have hO1 : Hid (ofN l i = if x.ok = true then some (x, c) else none) := by show _ = _; rw [hO.out]; simp
       have hI := hidP (fun W (h : At W aa x.l) => Qf5 x.kind x.term x.vote x.prev x.snap (by omega) aa cc2 x.l (by omega) Hf2.out W h)
       clear hO
       go_wp2_with fail
       refine (hI.out _ (Hat.out.below (Qaa (Below.refl _ _) _))).mono ?_
       rintro e w3 ⟨rfl, g3⟩
       have g23 : Below w2.heap.size w2 w3 := via0 g3 (Qaa (Below.refl _ _) _)
       have p := HP.out.below g23 HP.out.lt
       have x3 := (Blk.new w2 127 #[.int .i64 x.kind, .int .i64 x.term, .int .i64 x.vote, .int .i64 x.prev, .slice aa (List.length x.l) cc2, .string x.snap]).below g3 (by simp)
       replace HB := hidP (via0 g23 HB.out)
       replace HOw := hidP (Qcu HOw.out g23)
       have hsx : w.heap.size < w2.heap.size := HP.out.lt
       clear g3 g23 HP Hat hI
       have hbx : noteB x.kind x.term x.vote x.prev x.l x.snap = x.ok := rfl
       rw [hbx]
       have rr0 : w3.cell? ⟨w.heap.size, 0, none⟩ = some (.int .i64 0) := p.cell (i := 0) rfl
       have zz0 := p.thaw 0
       have rr1 : w3.cell? ⟨w.heap.size, 1, none⟩ = some (.int .i64 0) := p.cell (i := 1) rfl
       have zz1 := p.thaw 1
       have rr2 : w3.cell? ⟨w.heap.size, 2, none⟩ = some (.int .i64 0) := p.cell (i := 2) rfl
       have zz2 := p.thaw 2
       have rr3 : w3.cell? ⟨w.heap.size, 3, none⟩ = some (.int .i64 0) := p.cell (i := 3) rfl
       have zz3 := p.thaw 3
       have rr4 : w3.cell? ⟨w.heap.size, 4, none⟩ = some (.slice none 0 0) := p.cell (i := 4) rfl
       have zz4 := p.thaw 4
       have rr5 : w3.cell? ⟨w.heap.size, 5, none⟩ = some (.string ⟨#[]⟩) := p.cell (i := 5) rfl
       have zz5 := p.thaw 5
       have qs := p.lt
       cases hok : x.ok with
       | true =>
        have HN : Hid (ofN l i = some (x, c)) := by show _ = _; rw [hO1.out, hok]; rfl
        have k0 : w3.cell? ⟨w2.heap.size, 0, none⟩ = some (.int .i64 x.kind) := x3.cell (i := 0) rfl
        have k1 : w3.cell? ⟨w2.heap.size, 1, none⟩ = some (.int .i64 x.term) := x3.cell (i := 1) rfl
        have k2 : w3.cell? ⟨w2.heap.size, 2, none⟩ = some (.int .i64 x.vote) := x3.cell (i := 2) rfl
        have k3 : w3.cell? ⟨w2.heap.size, 3, none⟩ = some (.int .i64 x.prev) := x3.cell (i := 3) rfl
        have k4 : w3.cell? ⟨w2.heap.size, 4, none⟩ = some (.slice aa (List.length x.l) cc2) := x3.cell (i := 4) rfl
        have k5 : w3.cell? ⟨w2.heap.size, 5, none⟩ = some (.string x.snap) := x3.cell (i := 5) rfl
        have qx := x3.lt
        have oo := (((((((Only.refl (w.heap.size) w3).set 0 (.int .i64 x.kind)).set 1 (.int .i64 x.term)).set 2 (.int .i64 x.vote)).set 3 (.int .i64 x.prev)).set 4 (.slice aa (List.length x.l) cc2)).set 5 (.string x.snap))
        have HBz := hidP (HB.out.trans (oo.toBelow (Nat.le_refl _) HB.out.size))
        have HOz := hidP (Qbj (B := w.heap.size + 1) (HOw.out) oo (by omega))
        clear oo
        go_wp2
        refine bodyPost_ret (v := .tuple #[.agg #[.int .i64 x.kind, .int .i64 x.term, .int .i64 x.vote, .int .i64 x.prev, .slice aa (List.length x.l) cc2, .string x.snap], .int .i64 (c : Int), .nilIface]) (by simp [results, Tryz.results129, go_sem, rr0, rr1, rr2, rr3, rr4, rr5]) rfl ⟨HBz.out, .inl ⟨x, c, aa, cc2, HN.out, Qch HOz.out (by omega), rfl⟩⟩
       | false =>
        have HN : Hid (ofN l i = none) := by show _ = _; rw [hO1.out, hok]; rfl
        go_wp2
        refine bodyPost_ret (v := .tuple #[.agg #[.int .i64 0, .int .i64 0, .int .i64 0, .int .i64 0, .slice none 0 0, .string ⟨#[]⟩], .int .i64 0, .iface 166 (.agg #[.int .i64 i])]) (by simp [results, Tryz.results129, go_sem, rr0, rr1, rr2, rr3, rr4, rr5]) rfl ⟨HB.out.trans ((((((((Only.refl (w.heap.size) w3).set 0 (.int .i64 0)).set 1 (.int .i64 0)).set 2 (.int .i64 0)).set 3 (.int .i64 0)).set 4 (.slice none 0 0)).set 5 (.string ⟨#[]⟩)).toBelow (Nat.le_refl _) HB.out.size), .inr ⟨HN.out, rfl⟩⟩
     . have HN : Hid (ofN l i = none) := by show _ = _; rw [hO.out, if_neg (fun h => hd h.1)]
       have hd' : ¬ ((d : Int) = (L.length : Int)) := by omega
       have p := HP.out.alloc (.cells #[.int .i64 x.kind, .int .i64 x.term, .int .i64 x.vote, .int .i64 x.prev, .slice aa (List.length x.l) cc2, .string x.snap] 127)
       have HB2 : Hid (Below w.heap.size w (w2.alloc (.cells #[.int .i64 x.kind, .int .i64 x.term, .int .i64 x.vote, .int .i64 x.prev, .slice aa (List.length x.l) cc2, .string x.snap] 127))) := hidP (Qaa HB.out _)
       clear HB
       have HB := HB2
       have rr0 : (w2.alloc (.cells #[.int .i64 x.kind, .int .i64 x.term, .int .i64 x.vote, .int .i64 x.prev, .slice aa (List.length x.l) cc2, .string x.snap] 127)).cell? ⟨w.heap.size, 0, none⟩ = some (.int .i64 0) := p.cell (i := 0) rfl
       have zz0 := p.thaw 0
       have rr1 : (w2.alloc (.cells #[.int .i64 x.kind, .int .i64 x.term, .int .i64 x.vote, .int .i64 x.prev, .slice aa (List.length x.l) cc2, .string x.snap] 127)).cell? ⟨w.heap.size, 1, none⟩ = some (.int .i64 0) := p.cell (i := 1) rfl
       have zz1 := p.thaw 1
       have rr2 : (w2.alloc (.cells #[.int .i64 x.kind, .int .i64 x.term, .int .i64 x.vote, .int .i64 x.prev, .slice aa (List.length x.l) cc2, .string x.snap] 127)).cell? ⟨w.heap.size, 2, none⟩ = some (.int .i64 0) := p.cell (i := 2) rfl
       have zz2 := p.thaw 2
       have rr3 : (w2.alloc (.cells #[.int .i64 x.kind, .int .i64 x.term, .int .i64 x.vote, .int .i64 x.prev, .slice aa (List.length x.l) cc2, .string x.snap] 127)).cell? ⟨w.heap.size, 3, none⟩ = some (.int .i64 0) := p.cell (i := 3) rfl
       have zz3 := p.thaw 3
       have rr4 : (w2.alloc (.cells #[.int .i64 x.kind, .int .i64 x.term, .int .i64 x.vote, .int .i64 x.prev, .slice aa (List.length x.l) cc2, .string x.snap] 127)).cell? ⟨w.heap.size, 4, none⟩ = some (.slice none 0 0) := p.cell (i := 4) rfl
       have zz4 := p.thaw 4
       have rr5 : (w2.alloc (.cells #[.int .i64 x.kind, .int .i64 x.term, .int .i64 x.vote, .int .i64 x.prev, .slice aa (List.length x.l) cc2, .string x.snap] 127)).cell? ⟨w.heap.size, 5, none⟩ = some (.string ⟨#[]⟩) := p.cell (i := 5) rfl
       have zz5 := p.thaw 5
       have qs := p.lt
       clear hO HOw Hat Hf2 HP HB2 q2
       go_wp2
       refine bodyPost_ret (v := .tuple #[.agg #[.int .i64 0, .int .i64 0, .int .i64 0, .int .i64 0, .slice none 0 0, .string ⟨#[]⟩], .int .i64 0, .iface 166 (.agg #[.int .i64 i])]) (by simp [results, Tryz.results129, go_sem, rr0, rr1, rr2, rr3, rr4, rr5]) rfl ⟨?_, .inr ⟨HN.out, rfl⟩⟩
       exact HB.out.trans ((((((((Only.refl (w.heap.size) _).set 0 (.int .i64 0)).set 1 (.int .i64 0)).set 2 (.int .i64 0)).set 3 (.int .i64 0)).set 4 (.slice none 0 0)).set 5 (.string ⟨#[]⟩)).toBelow (Nat.le_refl _) HB.out.size)
   . have HN : Hid (ofN l i = none) := by show _ = _; simp [ofN, Hg.out, hx]
     have p := (P1.out.below g2 P1.out.lt).alloc (.cells #[.int .i64 0, .int .i64 0, .int .i64 0, .int .i64 0, .slice none 0 0, .string ⟨#[]⟩] 127)
     have HB2 : Hid (Below w.heap.size w (w2.alloc (.cells #[.int .i64 0, .int .i64 0, .int .i64 0, .int .i64 0, .slice none 0 0, .string ⟨#[]⟩] 127))) := hidP (Qaa HB.out _)
     clear HB
     have HB := HB2
     have rr0 : (w2.alloc (.cells #[.int .i64 0, .int .i64 0, .int .i64 0, .int .i64 0, .slice none 0 0, .string ⟨#[]⟩] 127)).cell? ⟨w.heap.size, 0, none⟩ = some (.int .i64 0) := p.cell (i := 0) rfl
     have zz0 := p.thaw 0
     have rr1 : (w2.alloc (.cells #[.int .i64 0, .int .i64 0, .int .i64 0, .int .i64 0, .slice none 0 0, .string ⟨#[]⟩] 127)).cell? ⟨w.heap.size, 1, none⟩ = some (.int .i64 0) := p.cell (i := 1) rfl
     have zz1 := p.thaw 1
     have rr2 : (w2.alloc (.cells #[.int .i64 0, .int .i64 0, .int .i64 0, .int .i64 0, .slice none 0 0, .string ⟨#[]⟩] 127)).cell? ⟨w.heap.size, 2, none⟩ = some (.int .i64 0) := p.cell (i := 2) rfl
     have zz2 := p.thaw 2
     have rr3 : (w2.alloc (.cells #[.int .i64 0, .int .i64 0, .int .i64 0, .int .i64 0, .slice none 0 0, .string ⟨#[]⟩] 127)).cell? ⟨w.heap.size, 3, none⟩ = some (.int .i64 0) := p.cell (i := 3) rfl
     have zz3 := p.thaw 3
     have rr4 : (w2.alloc (.cells #[.int .i64 0, .int .i64 0, .int .i64 0, .int .i64 0, .slice none 0 0, .string ⟨#[]⟩] 127)).cell? ⟨w.heap.size, 4, none⟩ = some (.slice none 0 0) := p.cell (i := 4) rfl
     have zz4 := p.thaw 4
     have rr5 : (w2.alloc (.cells #[.int .i64 0, .int .i64 0, .int .i64 0, .int .i64 0, .slice none 0 0, .string ⟨#[]⟩] 127)).cell? ⟨w.heap.size, 5, none⟩ = some (.string ⟨#[]⟩) := p.cell (i := 5) rfl
     have zz5 := p.thaw 5
     have qs := p.lt
     clear HB2 g2 hx
     go_wp2
     refine bodyPost_ret (v := .tuple #[.agg #[.int .i64 0, .int .i64 0, .int .i64 0, .int .i64 0, .slice none 0 0, .string ⟨#[]⟩], .int .i64 0, .iface 166 (.agg #[.int .i64 i])]) (by simp [results, Tryz.results129, go_sem, rr0, rr1, rr2, rr3, rr4, rr5]) rfl ⟨?_, .inr ⟨HN.out, rfl⟩⟩
     exact HB.out.trans ((((((((Only.refl (w.heap.size) _).set 0 (.int .i64 0)).set 1 (.int .i64 0)).set 2 (.int .i64 0)).set 3 (.int .i64 0)).set 4 (.slice none 0 0)).set 5 (.string ⟨#[]⟩)).toBelow (Nat.le_refl _) HB.out.size)
 . have HN : Hid (ofN l i = none) := by show _ = _; simp [ofN, hg]
   have hR2 := hidP (Qe6 (Qck [] 0) 160 #[] none 0 [] 0 ⟨by omega, by omega⟩ w1 (.inl rfl) (fun p W => by simp [go_sem]) (fun W r hrd => Qgo r none 0 [] 0 (by simp) (by simp) (by omega) W hrd))
   clear hg
   go_wp2_with fail
   refine hR2.out.mono ?_
   rintro e w2 ⟨g2, h2⟩
   rcases h2 with ⟨x, d, aa, cc2, hx, hown, rfl⟩ | ⟨hx, rfl⟩
   . rw [getNt_nil] at hx; cases hx
   have p := (P1.out.below g2 P1.out.lt).alloc (.cells #[.int .i64 0, .int .i64 0, .int .i64 0, .int .i64 0, .slice none 0 0, .string ⟨#[]⟩] 127)
   have HB2 : Hid (Below w.heap.size w (w2.alloc (.cells #[.int .i64 0, .int .i64 0, .int .i64 0, .int .i64 0, .slice none 0 0, .string ⟨#[]⟩] 127))) := hidP (Qaa (via0 g2 B1.out) _)
   have HB := HB2
   have rr0 : (w2.alloc (.cells #[.int .i64 0, .int .i64 0, .int .i64 0, .int .i64 0, .slice none 0 0, .string ⟨#[]⟩] 127)).cell? ⟨w.heap.size, 0, none⟩ = some (.int .i64 0) := p.cell (i := 0) rfl
   have zz0 := p.thaw 0
   have rr1 : (w2.alloc (.cells #[.int .i64 0, .int .i64 0, .int .i64 0, .int .i64 0, .slice none 0 0, .string ⟨#[]⟩] 127)).cell? ⟨w.heap.size, 1, none⟩ = some (.int .i64 0) := p.cell (i := 1) rfl
   have zz1 := p.thaw 1
   have rr2 : (w2.alloc (.cells #[.int .i64 0, .int .i64 0, .int .i64 0, .int .i64 0, .slice none 0 0, .string ⟨#[]⟩] 127)).cell? ⟨w.heap.size, 2, none⟩ = some (.int .i64 0) := p.cell (i := 2) rfl
   have zz2 := p.thaw 2
   have rr3 : (w2.alloc (.cells #[.int .i64 0, .int .i64 0, .int .i64 0, .int .i64 0, .slice none 0 0, .string ⟨#[]⟩] 127)).cell? ⟨w.heap.size, 3, none⟩ = some (.int .i64 0) := p.cell (i := 3) rfl
   have zz3 := p.thaw 3
   have rr4 : (w2.alloc (.cells #[.int .i64 0, .int .i64 0, .int .i64 0, .int .i64 0, .slice none 0 0, .string ⟨#[]⟩] 127)).cell? ⟨w.heap.size, 4, none⟩ = some (.slice none 0 0) := p.cell (i := 4) rfl
   have zz4 := p.thaw 4
   have rr5 : (w2.alloc (.cells #[.int .i64 0, .int .i64 0, .int .i64 0, .int .i64 0, .slice none 0 0, .string ⟨#[]⟩] 127)).cell? ⟨w.heap.size, 5, none⟩ = some (.string ⟨#[]⟩) := p.cell (i := 5) rfl
   have zz5 := p.thaw 5
   have qs := p.lt
   clear HB2 g2 hx hR2
   go_wp2
   refine bodyPost_ret (v := .tuple #[.agg #[.int .i64 0, .int .i64 0, .int .i64 0, .int .i64 0, .slice none 0 0, .string ⟨#[]⟩], .int .i64 0, .iface 166 (.agg #[.int .i64 i])]) (by simp [results, Tryz.results129, go_sem, rr0, rr1, rr2, rr3, rr4, rr5]) rfl ⟨?_, .inr ⟨HN.out, rfl⟩⟩
   exact HB.out.trans ((((((((Only.refl (w.heap.size) _).set 0 (.int .i64 0)).set 1 (.int .i64 0)).set 2 (.int .i64 0)).set 3 (.int .i64 0)).set 4 (.slice none 0 0)).set 5 (.string ⟨#[]⟩)).toBelow (Nat.le_refl _) HB.out.size)
end Go.Proofs.YtlcjaabnfdnfmaaGreatDoor.Gen
namespace Go.Proofs.YtlcjaabnfdnfmaaGreatDoor.Gen
open ChangeShapes WideShapes ChangeAt RowKit Joins Deep Base
def Qjf (ln : Int) (ns ps : List Int) : Bool := ns.all (fun z => inB z 1 (ln + 1)) && ps.all (fun z => inB z 0 ln)
def Qea (rpcF : RpP -> Bool) (id : Int) (hs : List RpC) : Bool := hs.all (fun z => rpcF z.p && z.frm == id)
def peerB (rpcF : RpP -> Bool) (ro wi le ke id te vo base bt : Int) (l : List En) (x : KC) (role : Int) (vn nn pn : Nat) (ns ps : List Int) (com : Int) (y : KC) (su : Int) (dn : Nat) (hs : List RpC) (size : Int) : Bool :=
  inB size 1 5 && inB id 0 (size - 1) && Qfi ro wi le ke te vo base bt l x && decide (vo < size) && inB role 0 2 && decide ((vn : Int) = size) && decide ((nn : Int) = size) && decide ((pn : Int) = size) && Qjf (Qb1 base l) ns ps && Qea rpcF id hs && inB com base (Qb1 base l) && Qbu ro wi le ke y && Qd5 su dn && decide (hs.length <= 40)
theorem last_in {base bt : Int} {l : List En} (h : logB base bt l = true) : 0 <= Qb1 base l /\ Qb1 base l <= 300 := by
 simp only [logB, Bool.and_eq_true, decide_eq_true_eq] at h
 obtain ⟨⟨⟨⟨h3, h4⟩, h5⟩, h6⟩, h7⟩ := h
 have h3 := in_le h3
 unfold Qb1
 split
 . exact h3
 . rw [IntKind.wrap_i64]; omega
theorem hard_log {ro wi le ke te vo base bt : Int} {l : List En} {x : KC} (h : Qfi ro wi le ke te vo base bt l x = true) : logB base bt l = true := by
 simp only [Qfi, Bool.and_eq_true] at h
 exact h.1.1.2
theorem feed_drop {ln : Int} {ns ps : List Int} {n : Nat} (h1 : n < ns.length) (h2 : n < ps.length) : Qjf ln (ns.drop n) (ps.drop n) = (inB ns[n] 1 (ln + 1) && inB ps[n] 0 ln && Qjf ln (ns.drop (n + 1)) (ps.drop (n + 1))) := by
 unfold Qjf
 rw [List.drop_eq_getElem_cons h1, List.drop_eq_getElem_cons h2]
 simp only [List.all_cons]
 generalize inB ns[n] 1 (ln + 1) = a
 generalize inB ps[n] 0 ln = b
 cases a<;>cases b<;>simp
theorem hold_drop {rpcF : RpP -> Bool} {id : Int} {hs : List RpC} {n : Nat} (h1 : n < hs.length) : Qea rpcF id (hs.drop n) = (rpcF hs[n].p && hs[n].frm == id && Qea rpcF id (hs.drop (n + 1))) := by
 unfold Qea
 rw [List.drop_eq_getElem_cons h1]
 rfl
end Go.Proofs.YtlcjaabnfdnfmaaGreatDoor.Gen
