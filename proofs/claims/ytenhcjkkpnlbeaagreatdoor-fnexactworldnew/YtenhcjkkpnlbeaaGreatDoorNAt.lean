/-
  The note that begins at a place, as the program tells it. Condition: at most 1048576 bytes.
-/
import Derived.Test.YtenhcjkkpnlbeaaGreatDoorNOk
import Derived.Test.YtenhcjkkpnlbeaaGreatDoorMakOk2
set_option linter.unusedVariables false
set_option linter.unusedSimpArgs false
set_option maxRecDepth 100000
set_option maxHeartbeats 8000000
namespace Go.Proofs.YtenhcjkkpnlbeaaGreatDoor.Gen
open ChangeShapes WideShapes ChangeAt RowKit Joins Deep Base
def Nt.ok (x : Nt) : Bool := noteB x.kind x.term x.vote x.prev x.l x.snap
def ofN (l : List UInt8) (i : Int) : Option (Nt × Nat) := match Qf3 l i with
  | none => none
  | some (L, c) => match Qds L 0 with
    | none => none
    | some (x, d) => if d = L.length /\ x.ok = true then some (x, c) else none
theorem Qhf {α : Type} {get : Int -> Option (α × Nat)} {P : α -> Prop} (hget : ∀ (i : Nat) x c, get (i : Int) = some (x, c) -> P x) : ∀ (n c : Nat) {xs : List α} {d : Nat}, Qbv get n c = some (xs, d) -> ∀ x ∈ xs, P x
 | 0, c, xs, d, h => by
  simp only [Qbv, Option.some.injEq, Prod.mk.injEq] at h
  obtain ⟨rfl, rfl⟩ := h
  simp
 | n + 1, c, xs, d, h => by
  simp only [Qbv] at h
  cases hx : get (c : Int) with
  | none => simp [hx] at h
  | some p =>
  obtain ⟨x, e⟩ := p
  simp only [hx] at h
  cases hy : Qbv get n e with
  | none => simp [hy] at h
  | some q =>
  obtain ⟨ys, f⟩ := q
  simp only [hy, Option.some.injEq, Prod.mk.injEq] at h
  obtain ⟨rfl, rfl⟩ := h
  intro y hy'
  rcases List.mem_cons.1 hy' with e' | e'
  . subst e'; exact hget _ _ _ hx
  . exact Qhf hget n e hy y e'
theorem getEnt_fit {l : List UInt8} (hl : l.length <= 1048576) {i : Nat} {x : En} {c : Nat} (h : Qcw l (i : Int) = some (x, c)) : x.fit := by
 unfold Qcw at h
 cases hx1 : getN l (i : Int) with
 | none => simp [hx1] at h
 | some p1 =>
 obtain ⟨n1, c1⟩ := p1
 cases hx2 : getC l (c1 : Int) with
 | none => simp [hx1, hx2] at h
 | some p2 =>
 obtain ⟨x2, c2⟩ := p2
 simp only [hx1, hx2, Option.some.injEq, Prod.mk.injEq] at h
 obtain ⟨rfl, _⟩ := h
 unfold getC at hx2
 cases hq : q8 l (some (c1 : Int)) with
 | none => rw [hq] at hx2; cases hx2
 | some p =>
  rw [hq] at hx2
  simp only [Option.map_some, Option.some.injEq, Prod.mk.injEq] at hx2
  obtain ⟨rfl, _⟩ := hx2
  have h1 := tV_le l (nO (q6 l (some (c1 : Int))))
  have h2 := tV_le l (nO (q7 l (some (c1 : Int))))
  exact ⟨Nat.le_trans h1 (by omega), Nat.le_trans h2 (by omega)⟩
theorem getNt_fit {l : List UInt8} (hl : l.length <= 1048576) {i : Int} {x : Nt} {c : Nat} (h : Qds l i = some (x, c)) : x.l.length <= 1048576 /\ (∀ y ∈ x.l, y.fit) /\ x.snap.size <= 1048576 /\ c <= l.length := by
 unfold Qds at h
 cases hx1 : getN l i with
 | none => simp [hx1] at h
 | some p1 =>
 obtain ⟨n1, c1⟩ := p1
 cases hx2 : getN l (c1 : Int) with
 | none => simp [hx1, hx2] at h
 | some p2 =>
 obtain ⟨n2, c2⟩ := p2
 cases hx3 : getN l (c2 : Int) with
 | none => simp [hx1, hx2, hx3] at h
 | some p3 =>
 obtain ⟨n3, c3⟩ := p3
 cases hx4 : getN l (c3 : Int) with
 | none => simp [hx1, hx2, hx3, hx4] at h
 | some p4 =>
 obtain ⟨n4, c4⟩ := p4
 cases hx5 : Qdq l (Qcw l) (c4 : Int) with
 | none => simp [hx1, hx2, hx3, hx4, hx5] at h
 | some p5 =>
 obtain ⟨s5, c5⟩ := p5
 cases hx6 : getT l (c5 : Int) with
 | none => simp [hx1, hx2, hx3, hx4, hx5, hx6] at h
 | some p6 =>
 obtain ⟨s6, c6⟩ := p6
 simp only [hx1, hx2, hx3, hx4, hx5, hx6, Option.some.injEq, Prod.mk.injEq] at h
 obtain ⟨rfl, rfl⟩ := h
 have h5 := Qit (fun i x c h => Qhg h) hx5
 have h6 := Qd9 hx6
 refine ⟨by show s5.length <= _; omega, ?_, by show s6.size <= _; omega, h6.2.2.1⟩
 unfold Qdq at hx5
 cases hn : getN l (c4 : Int) with
 | none => simp [hn] at hx5
 | some p =>
 obtain ⟨n, c⟩ := p
 simp only [hn] at hx5
 exact Qhf (fun i x c h => getEnt_fit hl h) n c hx5
theorem getNt_nil : Qds [] 0 = none := by
 unfold Qds
 rw [Qlm (by simp)]
theorem noteAt_any (A : Option Addr) (cap : Nat) (l : List UInt8) (hl : l.length <= 1048576) (hcap : l.length <= cap) (hcm : cap <= 9223372036854775807) (i : Int) (hi : I64 i) (w : World) (hA : At w A l) :
 Calls Tryz.prog 154 #[.slice A l.length cap, .int .i64 i] w fun e w' => Below w.heap.size w w' /\
  ((∃ x c aa cc, ofN l i = some (x, c) /\ w'.ownsRow w.heap.size 127 (Cel.k En) (.slice aa (List.length x.l) cc) (List.length x.l) (flat x.l) /\ e = .returned (.tuple #[.agg (Qbh x.kind x.term x.vote x.prev aa (List.length x.l) cc x.snap), .int .i64 (c : Int), .nilIface])) ∨ (ofN l i = none /\ e = .returned (.tuple #[.agg Qal, .int .i64 0, .iface 193 (.agg #[.int .i64 i])]))) := by
 have hbl := Qab (Below.refl _ w) (.cells Qal 154)
 have p0 := Blk.new w 154 Qal
 have hR := hidP (Qkd (Qf3 l i) 179 #[] A cap l i hi (w.alloc (.cells Qal 154)) (hA.below hbl) (fun p W => by simp [go_sem]) (fun W r _ _ _ hrd => Qmf r A cap l i hl hcap hcm W hrd))
 have Hp0 := hidP p0
 have Hbl := hidP hbl
 clear hA p0 hbl
 go_enter Tryz.func154, Tryz.ntmps154
 go_wp2_with fail
 refine hR.out.mono ?_
 rintro e w1 ⟨g1, h1⟩
 have P1 := hidP (Hp0.out.below g1 Hp0.out.lt)
 have B1 := hidP (via0 g1 Hbl.out)
 clear g1 hR Hp0 Hbl
 rcases h1 with ⟨L, c, bb, cc, hg, hby, rfl⟩ | ⟨hg, rfl⟩
 . obtain ⟨b', c', e', hb1, hb2, hb3, hb4, hb5⟩ := hby
   simp only [Value.slice.injEq, Option.some.injEq, Addr.mk.injEq, and_true] at e'
   obtain ⟨rfl, _, rfl⟩ := e'
   have hfl := getFr_le hg
   have hatL : At w1 (some ⟨bb, 0, none⟩) L := .inr ⟨_, _, rfl, hb2, hb3⟩
   have hR2 := hidP (Qgy (Qds L 0) 181 #[] (some ⟨bb, 0, none⟩) cc L 0 ⟨by omega, by omega⟩ w1 hatL (fun p W => by simp [go_sem]) (fun W r hrd => Qiq r (some ⟨bb, 0, none⟩) cc L 0 (by omega) hb4 hb5 W hrd))
   have Hg := hidP hg
   clear hb1 hb2 hb3 hb4 hb5 hatL hg
   go_wp2_with fail
   refine hR2.out.mono ?_
   rintro e w2 ⟨g2, h2⟩
   have p := P1.out.below g2 P1.out.lt
   have HB := hidP (via0 g2 B1.out)
   clear hR2
   rcases h2 with ⟨x, d, aa, cc2, hx, hown, rfl⟩ | ⟨hx, rfl⟩
   . obtain ⟨f1, f2, f3, f4⟩ := getNt_fit (by omega) hx
     have hat2 := (Qet (α := En) hown).at
     have HP := hidP p
     have q2 := p.lt
     have hO : Hid (ofN l i = if d = L.length /\ x.ok = true then some (x, c) else none) := by show _ = _; simp [ofN, Hg.out, hx]
     have HOw := hidP (Qdo (C := w.heap.size + 1) hown P1.out.lt)
     have Hat := hidP hat2
     have Hf2 := hidP f2
     clear hown hat2 p g2 hx f2
     by_cases hd : d = L.length
     . subst hd
       have hO1 : Hid (ofN l i = if x.ok = true then some (x, c) else none) := by show _ = _; rw [hO.out]; simp
       have hI := hidP (fun W (h : At W aa x.l) => Qh9 x.kind x.term x.vote x.prev x.snap (by omega) aa cc2 x.l (by omega) Hf2.out W h)
       clear hO
       go_wp2_with fail
       refine (hI.out _ (Hat.out.below (Qab (Below.refl _ _) _))).mono ?_
       rintro e w3 ⟨rfl, g3⟩
       have g23 : Below w2.heap.size w2 w3 := via0 g3 (Qab (Below.refl _ _) _)
       have p := HP.out.below g23 HP.out.lt
       have x3 := (Blk.new w2 154 (Qbh x.kind x.term x.vote x.prev aa (List.length x.l) cc2 x.snap)).below g3 (by simp)
       replace HB := hidP (via0 g23 HB.out)
       replace HOw := hidP (Qdz HOw.out g23)
       have hsx : w.heap.size < w2.heap.size := HP.out.lt
       clear g3 g23 HP Hat hI
       have hbx : noteB x.kind x.term x.vote x.prev x.l x.snap = x.ok := rfl
       rw [hbx]
       have rr0 : w3.cell? ⟨w.heap.size, 0, none⟩ = some (.int .i64 0) := p.cell (i := 0) rfl
       have zz0 := p.thaw 0
       have rr1 : w3.cell? ⟨w.heap.size, 1, none⟩ = some (.int .i64 0) := p.cell (i := 1) rfl
       have zz1 := p.thaw 1
       have rr2 : w3.cell? ⟨w.heap.size, 2, none⟩ = some (.int .i64 0) := p.cell (i := 2) rfl
       have zz2 := p.thaw 2
       have rr3 : w3.cell? ⟨w.heap.size, 3, none⟩ = some (.int .i64 0) := p.cell (i := 3) rfl
       have zz3 := p.thaw 3
       have rr4 : w3.cell? ⟨w.heap.size, 4, none⟩ = some (.slice none 0 0) := p.cell (i := 4) rfl
       have zz4 := p.thaw 4
       have rr5 : w3.cell? ⟨w.heap.size, 5, none⟩ = some (.string ⟨#[]⟩) := p.cell (i := 5) rfl
       have zz5 := p.thaw 5
       have qs := p.lt
       cases hok : x.ok with
       | true =>
        have HN : Hid (ofN l i = some (x, c)) := by show _ = _; rw [hO1.out, hok]; rfl
        have k0 : w3.cell? ⟨w2.heap.size, 0, none⟩ = some (.int .i64 x.kind) := x3.cell (i := 0) rfl
        have k1 : w3.cell? ⟨w2.heap.size, 1, none⟩ = some (.int .i64 x.term) := x3.cell (i := 1) rfl
        have k2 : w3.cell? ⟨w2.heap.size, 2, none⟩ = some (.int .i64 x.vote) := x3.cell (i := 2) rfl
        have k3 : w3.cell? ⟨w2.heap.size, 3, none⟩ = some (.int .i64 x.prev) := x3.cell (i := 3) rfl
        have k4 : w3.cell? ⟨w2.heap.size, 4, none⟩ = some (.slice aa (List.length x.l) cc2) := x3.cell (i := 4) rfl
        have k5 : w3.cell? ⟨w2.heap.size, 5, none⟩ = some (.string x.snap) := x3.cell (i := 5) rfl
        have qx := x3.lt
        have oo := (((((((Only.refl (w.heap.size) w3).set 0 (.int .i64 x.kind)).set 1 (.int .i64 x.term)).set 2 (.int .i64 x.vote)).set 3 (.int .i64 x.prev)).set 4 (.slice aa (List.length x.l) cc2)).set 5 (.string x.snap))
        have HBz := hidP (HB.out.trans (oo.toBelow (Nat.le_refl _) HB.out.size))
        have HOz := hidP (Qck (B := w.heap.size + 1) (HOw.out) oo (by omega))
        clear oo
        go_wp2
        refine bodyPost_ret (v := .tuple #[.agg (Qbh x.kind x.term x.vote x.prev aa (List.length x.l) cc2 x.snap), .int .i64 (c : Int), .nilIface]) (by simp [results, Tryz.results154, go_sem, rr0, rr1, rr2, rr3, rr4, rr5]) rfl ⟨HBz.out, .inl ⟨x, c, aa, cc2, HN.out, Qdo HOz.out (by omega), rfl⟩⟩
       | false =>
        have HN : Hid (ofN l i = none) := by show _ = _; rw [hO1.out, hok]; rfl
        go_wp2
        refine bodyPost_ret (v := .tuple #[.agg Qal, .int .i64 0, .iface 193 (.agg #[.int .i64 i])]) (by simp [results, Tryz.results154, go_sem, rr0, rr1, rr2, rr3, rr4, rr5]) rfl ⟨HB.out.trans ((((((((Only.refl (w.heap.size) w3).set 0 (.int .i64 0)).set 1 (.int .i64 0)).set 2 (.int .i64 0)).set 3 (.int .i64 0)).set 4 (.slice none 0 0)).set 5 (.string ⟨#[]⟩)).toBelow (Nat.le_refl _) HB.out.size), .inr ⟨HN.out, rfl⟩⟩
     . have HN : Hid (ofN l i = none) := by show _ = _; rw [hO.out, if_neg (fun h => hd h.1)]
       have hd' : ¬ ((d : Int) = (L.length : Int)) := by omega
       have p := HP.out.alloc (.cells (Qbh x.kind x.term x.vote x.prev aa (List.length x.l) cc2 x.snap) 154)
       have HB2 : Hid (Below w.heap.size w (w2.alloc (.cells (Qbh x.kind x.term x.vote x.prev aa (List.length x.l) cc2 x.snap) 154))) := hidP (Qab HB.out _)
       clear HB
       have HB := HB2
       have rr0 : (w2.alloc (.cells (Qbh x.kind x.term x.vote x.prev aa (List.length x.l) cc2 x.snap) 154)).cell? ⟨w.heap.size, 0, none⟩ = some (.int .i64 0) := p.cell (i := 0) rfl
       have zz0 := p.thaw 0
       have rr1 : (w2.alloc (.cells (Qbh x.kind x.term x.vote x.prev aa (List.length x.l) cc2 x.snap) 154)).cell? ⟨w.heap.size, 1, none⟩ = some (.int .i64 0) := p.cell (i := 1) rfl
       have zz1 := p.thaw 1
       have rr2 : (w2.alloc (.cells (Qbh x.kind x.term x.vote x.prev aa (List.length x.l) cc2 x.snap) 154)).cell? ⟨w.heap.size, 2, none⟩ = some (.int .i64 0) := p.cell (i := 2) rfl
       have zz2 := p.thaw 2
       have rr3 : (w2.alloc (.cells (Qbh x.kind x.term x.vote x.prev aa (List.length x.l) cc2 x.snap) 154)).cell? ⟨w.heap.size, 3, none⟩ = some (.int .i64 0) := p.cell (i := 3) rfl
       have zz3 := p.thaw 3
       have rr4 : (w2.alloc (.cells (Qbh x.kind x.term x.vote x.prev aa (List.length x.l) cc2 x.snap) 154)).cell? ⟨w.heap.size, 4, none⟩ = some (.slice none 0 0) := p.cell (i := 4) rfl
       have zz4 := p.thaw 4
       have rr5 : (w2.alloc (.cells (Qbh x.kind x.term x.vote x.prev aa (List.length x.l) cc2 x.snap) 154)).cell? ⟨w.heap.size, 5, none⟩ = some (.string ⟨#[]⟩) := p.cell (i := 5) rfl
       have zz5 := p.thaw 5
       have qs := p.lt
       clear hO HOw Hat Hf2 HP HB2 q2
       go_wp2
       refine bodyPost_ret (v := .tuple #[.agg Qal, .int .i64 0, .iface 193 (.agg #[.int .i64 i])]) (by simp [results, Tryz.results154, go_sem, rr0, rr1, rr2, rr3, rr4, rr5]) rfl ⟨?_, .inr ⟨HN.out, rfl⟩⟩
       exact HB.out.trans ((((((((Only.refl (w.heap.size) _).set 0 (.int .i64 0)).set 1 (.int .i64 0)).set 2 (.int .i64 0)).set 3 (.int .i64 0)).set 4 (.slice none 0 0)).set 5 (.string ⟨#[]⟩)).toBelow (Nat.le_refl _) HB.out.size)
   . have HN : Hid (ofN l i = none) := by show _ = _; simp [ofN, Hg.out, hx]
     have p := (P1.out.below g2 P1.out.lt).alloc (.cells Qal 154)
     have HB2 : Hid (Below w.heap.size w (w2.alloc (.cells Qal 154))) := hidP (Qab HB.out _)
     clear HB
     have HB := HB2
     have rr0 : (w2.alloc (.cells Qal 154)).cell? ⟨w.heap.size, 0, none⟩ = some (.int .i64 0) := p.cell (i := 0) rfl
     have zz0 := p.thaw 0
     have rr1 : (w2.alloc (.cells Qal 154)).cell? ⟨w.heap.size, 1, none⟩ = some (.int .i64 0) := p.cell (i := 1) rfl
     have zz1 := p.thaw 1
     have rr2 : (w2.alloc (.cells Qal 154)).cell? ⟨w.heap.size, 2, none⟩ = some (.int .i64 0) := p.cell (i := 2) rfl
     have zz2 := p.thaw 2
     have rr3 : (w2.alloc (.cells Qal 154)).cell? ⟨w.heap.size, 3, none⟩ = some (.int .i64 0) := p.cell (i := 3) rfl
     have zz3 := p.thaw 3
     have rr4 : (w2.alloc (.cells Qal 154)).cell? ⟨w.heap.size, 4, none⟩ = some (.slice none 0 0) := p.cell (i := 4) rfl
     have zz4 := p.thaw 4
     have rr5 : (w2.alloc (.cells Qal 154)).cell? ⟨w.heap.size, 5, none⟩ = some (.string ⟨#[]⟩) := p.cell (i := 5) rfl
     have zz5 := p.thaw 5
     have qs := p.lt
     clear HB2 g2 hx
     go_wp2
     refine bodyPost_ret (v := .tuple #[.agg Qal, .int .i64 0, .iface 193 (.agg #[.int .i64 i])]) (by simp [results, Tryz.results154, go_sem, rr0, rr1, rr2, rr3, rr4, rr5]) rfl ⟨?_, .inr ⟨HN.out, rfl⟩⟩
     exact HB.out.trans ((((((((Only.refl (w.heap.size) _).set 0 (.int .i64 0)).set 1 (.int .i64 0)).set 2 (.int .i64 0)).set 3 (.int .i64 0)).set 4 (.slice none 0 0)).set 5 (.string ⟨#[]⟩)).toBelow (Nat.le_refl _) HB.out.size)
 . have HN : Hid (ofN l i = none) := by show _ = _; simp [ofN, hg]
   have hR2 := hidP (Qgy (Qds [] 0) 181 #[] none 0 [] 0 ⟨by omega, by omega⟩ w1 (.inl rfl) (fun p W => by simp [go_sem]) (fun W r hrd => Qiq r none 0 [] 0 (by simp) (by simp) (by omega) W hrd))
   clear hg
   go_wp2_with fail
   refine hR2.out.mono ?_
   rintro e w2 ⟨g2, h2⟩
   rcases h2 with ⟨x, d, aa, cc2, hx, hown, rfl⟩ | ⟨hx, rfl⟩
   . rw [getNt_nil] at hx; cases hx
   have p := (P1.out.below g2 P1.out.lt).alloc (.cells Qal 154)
   have HB2 : Hid (Below w.heap.size w (w2.alloc (.cells Qal 154))) := hidP (Qab (via0 g2 B1.out) _)
   have HB := HB2
   have rr0 : (w2.alloc (.cells Qal 154)).cell? ⟨w.heap.size, 0, none⟩ = some (.int .i64 0) := p.cell (i := 0) rfl
   have zz0 := p.thaw 0
   have rr1 : (w2.alloc (.cells Qal 154)).cell? ⟨w.heap.size, 1, none⟩ = some (.int .i64 0) := p.cell (i := 1) rfl
   have zz1 := p.thaw 1
   have rr2 : (w2.alloc (.cells Qal 154)).cell? ⟨w.heap.size, 2, none⟩ = some (.int .i64 0) := p.cell (i := 2) rfl
   have zz2 := p.thaw 2
   have rr3 : (w2.alloc (.cells Qal 154)).cell? ⟨w.heap.size, 3, none⟩ = some (.int .i64 0) := p.cell (i := 3) rfl
   have zz3 := p.thaw 3
   have rr4 : (w2.alloc (.cells Qal 154)).cell? ⟨w.heap.size, 4, none⟩ = some (.slice none 0 0) := p.cell (i := 4) rfl
   have zz4 := p.thaw 4
   have rr5 : (w2.alloc (.cells Qal 154)).cell? ⟨w.heap.size, 5, none⟩ = some (.string ⟨#[]⟩) := p.cell (i := 5) rfl
   have zz5 := p.thaw 5
   have qs := p.lt
   clear HB2 g2 hx hR2
   go_wp2
   refine bodyPost_ret (v := .tuple #[.agg Qal, .int .i64 0, .iface 193 (.agg #[.int .i64 i])]) (by simp [results, Tryz.results154, go_sem, rr0, rr1, rr2, rr3, rr4, rr5]) rfl ⟨?_, .inr ⟨HN.out, rfl⟩⟩
   exact HB.out.trans ((((((((Only.refl (w.heap.size) _).set 0 (.int .i64 0)).set 1 (.int .i64 0)).set 2 (.int .i64 0)).set 3 (.int .i64 0)).set 4 (.slice none 0 0)).set 5 (.string ⟨#[]⟩)).toBelow (Nat.le_refl _) HB.out.size)
end Go.Proofs.YtenhcjkkpnlbeaaGreatDoor.Gen
namespace Go.Proofs.YtenhcjkkpnlbeaaGreatDoor.Gen
open ChangeShapes WideShapes ChangeAt RowKit Joins Deep Base
instance : Inhabited KC := ⟨⟨none, 0, [], none, 0, [], none, 0, [], 0, none, 0, [], none, 0, []⟩⟩
instance : Inhabited PC := ⟨⟨0, 0, 0, 0, 0, none, 0, [], default, 0, none, 0, [], none, 0, [], none, 0, [], 0, default, none, 0, [], 0, none, 0, []⟩⟩
instance : Cel PC where
  k := 26
  cs p := (Qam p).toList
  len _ := rfl
  one p u hu := (Array.all_eq_true_iff_forall_mem.1 (Qc7 p)) u (by simpa using hu)
theorem In.el {α : Type} [Cel α] {w : World} {b o : Nat} {l : List α} (h : In w b o l) (n : Nat) (hn : n < l.length) : w.rangeAt b (o + n * Cel.k α) (Cel.cs l[n]) := fun j v hv => h.cell n hn (f := j) hv
theorem Qgh {P : Program} {a : Act} {op : Oper} {w : World} {ty : TypeId} {x : Operand} (ho : op.op = .load ty x) {b o : Nat} (hx : a.eval x = .pointer (some ⟨b, o, none⟩)) {cs : List Value} (hc : w.rangeAt b o cs) {fs : Array Field} (hu : P.underlying ty = some (.struct fs)) (hi : (P.info? ty).map (·.size) = some cs.length) : (execOp a.eval op).run P w = .ok (.value (.agg cs.toArray)) w := by
 unfold execOp
 simp only [ho, hx, Instr.loadAt, Instr.sureAddr, Sem.run_bind, Sem.run_pure, Result.andThen_ok, run_loadVar_mid w b o ty cs (.struct fs) hc hu rfl hi]
theorem Qas {w w' : World} {b o : Nat} {cs : List Value} (h : w.rangeAt b o cs) (g : Below w.heap.size w w') (hb : b < w.heap.size) : w'.rangeAt b o cs := fun j v hv => ((Qax g).1 _ _ hb).trans (h j v hv)
def pcP (w : World) (p : PC) (S : Nat -> Prop) : Prop := POwn w p S
theorem Qcc : Firm pcP := fun w w' x S T h k hd => POwn.offp h k hd
def SameN (qs ps : List PC) : Prop := qs.length = ps.length /\ ∀ (i : Nat) (h : i < qs.length) (h' : i < ps.length), SameP qs[i] ps[i]
def EachN (w : World) (l : List PC) : Prop := ∀ x ∈ l, PAt w x
theorem EachN.below {w w' : World} {l : List PC} (h : EachN w l) (g : Below w.heap.size w w') : EachN w' l := fun x hx => (h x hx).below g
theorem own_eachN {S : Nat -> Prop} {w : World} {a : Option Addr} {l : List PC} (h : Own pcP w a l S) : EachN w l := h.each (fun x S hx => POwn.at hx)
theorem infoPC : (Tryz.prog.info? 56).map (fun i => (i.zero, i.size, i.bytes)) = some (some (.agg Qaa), 26, 464) := by kernel_rfl
theorem Qj9 : (Tryz.prog.info? 56).map (·.size) = some 26 := by kernel_rfl
theorem Qlt (A A' : Option Addr) (cap cap' : Nat) (xs ys : List PC) (hl : ys.length <= 1048576) (hs : SameN xs ys) (hf : ∀ p ∈ ys, PFit p) (w : World) (hA : At w A xs) (hE : EachN w xs) (hA' : At w A' ys) (hE' : EachN w ys) :
 Calls Tryz.prog 16 #[.slice A ys.length cap, .slice A' ys.length cap'] w fun e w' => e = .returned (.bool true) /\ Below w.heap.size w w' := by
 have HA := hidP (And.intro hA hE)
 have HA' := hidP (And.intro hA' hE')
 have Hs := hidP hs
 have Hf := hidP hf
 clear hA hA' hE hE' hs hf
 go_enter Tryz.func16, Tryz.ntmps16
 go_wp2
 go_loopw [5] (fun i w' => ∃ (n : Nat), i = .int .i64 (n : Int) /\ n <= ys.length /\ Below w.heap.size w w') (fun i _ => ys.length - (intOf i).toNat)
 case atStart => exact ⟨0, rfl, by omega, Below.refl _ _⟩
 case round =>
  obtain ⟨n, rfl, hn, hbl⟩ := hrel
  by_cases hlt : n < ys.length
  . have hla : n < xs.length := by rw [Hs.out.1]; exact hlt
    obtain ⟨b, o, rfl, hbs, hin⟩ : ∃ b o, A = some ⟨b, o, none⟩ /\ b < w.heap.size /\ In w b o xs := by
     rcases HA.out.1 with h | h
     . subst h; simp at hla
     . exact h
    obtain ⟨b', o', rfl, hbs', hin'⟩ : ∃ b o, A' = some ⟨b, o, none⟩ /\ b < w.heap.size /\ In w b o ys := by
     rcases HA'.out.1 with h | h
     . subst h; simp at hlt
     . exact h
    have hb1 : b < wr.heap.size := Nat.lt_of_lt_of_le hbs hbl.size
    have hb2 : b' < wr.heap.size := Nat.lt_of_lt_of_le hbs' hbl.size
    have R1 := hidP ((hin.below hbs hbl).el n hla)
    have R2 := hidP ((hin'.below hbs' hbl).el n hlt)
    have hi0 : (0 : Int) <= (n : Int) := by omega
    have hi1 : (n : Int) < (ys.length : Int) := by omega
    have HC : Hid (∀ W : World, Below w.heap.size w W -> Calls Tryz.prog 51 #[.agg (Cel.cs xs[n]).toArray, .agg (Cel.cs ys[n]).toArray] W fun e w' => e = .returned (.bool true) /\ Below W.heap.size W w') := fun W g => eqQ (Hf.out _ (List.getElem_mem hlt)) (Hs.out.2 n hla hlt) (SameP.refl _) ((HA.out.2 _ (List.getElem_mem hla)).below g) ((HA'.out.2 _ (List.getElem_mem hlt)).below g)
    go_wp2_with fail
    refine wp_region_noPanic ?_
    refine wp_region_held_drew (S := (fun (W : World) => W.rangeAt b (o + n * 26) (Cel.cs xs[n]) /\ W.rangeAt b' (o' + n * 26) (Cel.cs ys[n]))) (by kernel_rfl) ?_ (fun hH => ?_)
    . exact ⟨R1.out, R2.out⟩
    refine zt1 0 ?_; refine ztn (h := ?_); try simp only [zX,zY]
    refine zte ?_
    refine zt1 1 ?_; refine ztn (h := ?_); try simp only [zX,zY]
    refine zte ?_
    refine zt1 2 ?_; refine ztn (h := ?_); try simp only [zX,zY]
    refine zte ?_
    refine zt1 3 ?_; refine ztn (hy := fun w' hSw => Qgh rfl rfl hSw.1 Tryz.underlying56 Qj9) (h := ?_); try simp only [zX,zY]
    refine zte ?_
    refine zt1 4 ?_; refine ztn (h := ?_); try simp only [zX,zY]
    refine zte ?_
    refine zt1 5 ?_; refine ztn (h := ?_); try simp only [zX,zY]
    refine zte ?_
    refine zt1 6 ?_; refine ztn (h := ?_); try simp only [zX,zY]
    refine zte ?_
    refine zt1 7 ?_; refine ztn (hy := fun w' hSw => Qgh rfl rfl hSw.2 Tryz.underlying56 Qj9) (h := ?_); try simp only [zX,zY]
    refine zte ?_
    refine zR1 8 (fun K hK => ?_)
    simp only [zG]
    go_simp
    refine (HC.out _ hbl.drew).mono ?_; rintro e w2 ⟨rfl, g1⟩
    refine hK.out _ _ ⟨Qas R1.out (via0 g1 (Below.drew (Below.refl _ _))) hb1, Qas R2.out (via0 g1 (Below.drew (Below.refl _ _))) hb2⟩ fun hH => ?_; clear hK K; try simp only [zX,zY]
    refine zt1 9 ?_; refine ztn (h := ?_); try simp only [zX,zY]
    refine zte ?_
    refine zdn ?_
    clear hH
    go_wp2
    exact ⟨⟨n + 1, by go_num, by omega, via0 g1 hbl.drew⟩, by simp [intOf]; omega⟩
  . go_wp2
    go_ret
    exact ⟨rfl, hbl⟩
end Go.Proofs.YtenhcjkkpnlbeaaGreatDoor.Gen
