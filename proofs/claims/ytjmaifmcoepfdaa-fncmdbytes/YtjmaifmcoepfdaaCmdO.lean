/-
  CmdOf, the program's and the specification's: the same command, the same place, or zero, 0 and false. Condition: at most 1048576 bytes.
-/
import Derived.Test.YtjmaifmcoepfdaaReadAtC
import Derived.Test.YtjmaifmcoepfdaaCmdAns
namespace Go.Proofs.Ytjmaifmcoepfdaa.Gen
open Go.ChangeShapes Go.WideShapes Go.ChangeAt Go.RowKit Go.Joins Go.Deep Base
set_option linter.unusedVariables false

def Cm.ok (x : Cm) : Bool := CmdOk.okB x.who x.seq x.op x.a x.b x.c x.k x.t
/-- What CmdOf answers. -/
def ofC (l : List UInt8) (i : Int) : Option (Cm × Nat) := match getC l i with
  | some (x, c) => if x.ok = true then some (x, c) else none
  | none => none
def ofT (o : Option (Cm × Nat)) : Value := match o with
  | some (x, c) => .tuple #[x.v, .int .i64 (c : Int), .bool true]
  | none => .tuple #[Cm.v Cm.zero, .int .i64 0, .bool false]
theorem getC_txt {l : List UInt8} {i : Int} {x : Cm} {c : Nat} (h : getC l i = some (x, c)) : x.k.size ≤ l.length ∧ x.t.size ≤ l.length := by
  unfold getC at h
  cases hq : q8 l (some i) with
  | none => rw [hq] at h; cases h
  | some p =>
    rw [hq] at h
    simp only [Option.map_some, Option.some.injEq, Prod.mk.injEq] at h
    obtain ⟨rfl, _⟩ := h
    exact ⟨tV_le l _, tV_le l _⟩

set_option maxRecDepth 100000 in
set_option maxHeartbeats 4000000 in
theorem implCmdOf_any (A : Option Addr) (cap : Nat) (l : List UInt8) (hl : l.length ≤ 1048576) (hcap : l.length ≤ cap) (hcm : cap ≤ 9223372036854775807) (i : Int) (hi : I64 i) (w : World) (hA : At w A l) :
    Calls Try.prog 25 #[.slice A l.length cap, .int .i64 i] w fun e w' => e = .returned (ofT (ofC l i)) ∧ Below w.heap.size w w' := by
  have hbl := alloc0 (Below.refl _ w) (.cells #[.int .i64 0, .int .i64 0, .int .i64 0, .int .i64 0, .int .i64 0, .int .i64 0, .string ⟨#[]⟩, .string ⟨#[]⟩] 35)
  have hR := hidP (readAtC_any (getC l i) 56 #[] A cap l i hi (w.alloc (.cells #[.int .i64 0, .int .i64 0, .int .i64 0, .int .i64 0, .int .i64 0, .int .i64 0, .string ⟨#[]⟩, .string ⟨#[]⟩] 35)) (hA.below hbl) (fun p W => by simp [go_sem]) (fun W r hrd => readCmd_any r A cap l i hl hcap hcm W hrd))
  have p0 := hidP (Blk.new w 35 #[.int .i64 0, .int .i64 0, .int .i64 0, .int .i64 0, .int .i64 0, .int .i64 0, .string ⟨#[]⟩, .string ⟨#[]⟩])
  clear hA
  go_enter Try.func25, Try.ntmps25
  go_wp2_with fail
  refine hR.out.mono ?_
  rintro e w1 ⟨g1, h1⟩
  have p1 := p0.out.below g1 p0.out.lt
  have B1 := via0 g1 hbl
  have q1 := p1.lt
  rcases h1 with ⟨x, c, hg, rfl⟩ | ⟨hg, rfl⟩
  · obtain ⟨hk, ht⟩ := getC_txt hg
    have Hg := hidP hg
    have Hp1 := hidP p1
    have HB1 := hidP B1
    clear hR p0 g1 p1 B1 hg hbl
    unfold Cm.v
    go_wp2_with fail
    refine (CmdOk.impl_any x.who x.seq x.op x.a x.b x.c x.k x.t (by omega) (by omega) _).mono ?_
    rintro e w2 ⟨rfl, g2⟩
    have p2 := (Hp1.out.alloc (.cells #[.int .i64 x.who, .int .i64 x.seq, .int .i64 x.op, .int .i64 x.a, .int .i64 x.b, .int .i64 x.c, .string x.k, .string x.t] 35)).below g2 (by simp; omega)
    have x2 := (Blk.new w1 35 #[.int .i64 x.who, .int .i64 x.seq, .int .i64 x.op, .int .i64 x.a, .int .i64 x.b, .int .i64 x.c, .string x.k, .string x.t]).below g2 (by simp)
    have B2 := via0 g2 (alloc0 HB1.out _)
    have hs12 : w1.heap.size < w2.heap.size := x2.lt
    have rr0 : w2.cell? ⟨w.heap.size, 0, none⟩ = some (.int .i64 0) := p2.cell (i := 0) rfl
    have zz0 := p2.thaw 0
    have rr1 : w2.cell? ⟨w.heap.size, 1, none⟩ = some (.int .i64 0) := p2.cell (i := 1) rfl
    have zz1 := p2.thaw 1
    have rr2 : w2.cell? ⟨w.heap.size, 2, none⟩ = some (.int .i64 0) := p2.cell (i := 2) rfl
    have zz2 := p2.thaw 2
    have rr3 : w2.cell? ⟨w.heap.size, 3, none⟩ = some (.int .i64 0) := p2.cell (i := 3) rfl
    have zz3 := p2.thaw 3
    have rr4 : w2.cell? ⟨w.heap.size, 4, none⟩ = some (.int .i64 0) := p2.cell (i := 4) rfl
    have zz4 := p2.thaw 4
    have rr5 : w2.cell? ⟨w.heap.size, 5, none⟩ = some (.int .i64 0) := p2.cell (i := 5) rfl
    have zz5 := p2.thaw 5
    have rr6 : w2.cell? ⟨w.heap.size, 6, none⟩ = some (.string ⟨#[]⟩) := p2.cell (i := 6) rfl
    have zz6 := p2.thaw 6
    have rr7 : w2.cell? ⟨w.heap.size, 7, none⟩ = some (.string ⟨#[]⟩) := p2.cell (i := 7) rfl
    have zz7 := p2.thaw 7
    have kk0 : w2.cell? ⟨w1.heap.size, 0, none⟩ = some (.int .i64 x.who) := x2.cell (i := 0) rfl
    have kk1 : w2.cell? ⟨w1.heap.size, 1, none⟩ = some (.int .i64 x.seq) := x2.cell (i := 1) rfl
    have kk2 : w2.cell? ⟨w1.heap.size, 2, none⟩ = some (.int .i64 x.op) := x2.cell (i := 2) rfl
    have kk3 : w2.cell? ⟨w1.heap.size, 3, none⟩ = some (.int .i64 x.a) := x2.cell (i := 3) rfl
    have kk4 : w2.cell? ⟨w1.heap.size, 4, none⟩ = some (.int .i64 x.b) := x2.cell (i := 4) rfl
    have kk5 : w2.cell? ⟨w1.heap.size, 5, none⟩ = some (.int .i64 x.c) := x2.cell (i := 5) rfl
    have kk6 : w2.cell? ⟨w1.heap.size, 6, none⟩ = some (.string x.k) := x2.cell (i := 6) rfl
    have kk7 : w2.cell? ⟨w1.heap.size, 7, none⟩ = some (.string x.t) := x2.cell (i := 7) rfl
    have q2 := p2.lt
    have Hf := hidP B2
    clear Hp1 HB1 g2 p2 x2 B2
    cases hok : CmdOk.okB x.who x.seq x.op x.a x.b x.c x.k x.t with
    | false =>
      have hO : Hid (ofC l i = none) := by show _ = _; unfold ofC; rw [Hg.out]; simp [Cm.ok, hok]
      go_wp2
      have oz : Below w.heap.size w ((((((((w2.setCell ⟨w.heap.size, 0, none⟩ (.int .i64 0)).setCell ⟨w.heap.size, 1, none⟩ (.int .i64 0)).setCell ⟨w.heap.size, 2, none⟩ (.int .i64 0)).setCell ⟨w.heap.size, 3, none⟩ (.int .i64 0)).setCell ⟨w.heap.size, 4, none⟩ (.int .i64 0)).setCell ⟨w.heap.size, 5, none⟩ (.int .i64 0)).setCell ⟨w.heap.size, 6, none⟩ (.string ⟨#[]⟩)).setCell ⟨w.heap.size, 7, none⟩ (.string ⟨#[]⟩)) := Hf.out.trans (Only.toBelow (b := w.heap.size) (((((((((Only.refl _ _).set 0 (.int .i64 0)).set 1 (.int .i64 0)).set 2 (.int .i64 0)).set 3 (.int .i64 0)).set 4 (.int .i64 0)).set 5 (.int .i64 0)).set 6 (.string ⟨#[]⟩)).set 7 (.string ⟨#[]⟩)) (Nat.le_refl _) Hf.out.size)
      exact bodyPost_ret (v := .tuple #[Cm.v Cm.zero, .int .i64 0, .bool false]) (by simp [results, Try.results25, go_sem, Cm.v, Cm.zero, rr0, rr1, rr2, rr3, rr4, rr5, rr6, rr7]) rfl ⟨by rw [hO.out]; rfl, oz⟩
    | true =>
      have hO : Hid (ofC l i = some (x, c)) := by show _ = _; unfold ofC; rw [Hg.out]; simp [Cm.ok, hok]
      go_wp2
      have oz : Below w.heap.size w ((((((((w2.setCell ⟨w.heap.size, 0, none⟩ (.int .i64 x.who)).setCell ⟨w.heap.size, 1, none⟩ (.int .i64 x.seq)).setCell ⟨w.heap.size, 2, none⟩ (.int .i64 x.op)).setCell ⟨w.heap.size, 3, none⟩ (.int .i64 x.a)).setCell ⟨w.heap.size, 4, none⟩ (.int .i64 x.b)).setCell ⟨w.heap.size, 5, none⟩ (.int .i64 x.c)).setCell ⟨w.heap.size, 6, none⟩ (.string x.k)).setCell ⟨w.heap.size, 7, none⟩ (.string x.t)) := Hf.out.trans (Only.toBelow (b := w.heap.size) (((((((((Only.refl _ _).set 0 (.int .i64 x.who)).set 1 (.int .i64 x.seq)).set 2 (.int .i64 x.op)).set 3 (.int .i64 x.a)).set 4 (.int .i64 x.b)).set 5 (.int .i64 x.c)).set 6 (.string x.k)).set 7 (.string x.t)) (Nat.le_refl _) Hf.out.size)
      exact bodyPost_ret (v := .tuple #[Cm.v x, .int .i64 (c : Int), .bool true]) (by simp [results, Try.results25, go_sem, Cm.v, rr0, rr1, rr2, rr3, rr4, rr5, rr6, rr7]) rfl ⟨by rw [hO.out]; rfl, oz⟩
  · have hO : Hid (ofC l i = none) := by show _ = _; unfold ofC; rw [hg]
    have rr0 : w1.cell? ⟨w.heap.size, 0, none⟩ = some (.int .i64 0) := p1.cell (i := 0) rfl
    have zz0 := p1.thaw 0
    have rr1 : w1.cell? ⟨w.heap.size, 1, none⟩ = some (.int .i64 0) := p1.cell (i := 1) rfl
    have zz1 := p1.thaw 1
    have rr2 : w1.cell? ⟨w.heap.size, 2, none⟩ = some (.int .i64 0) := p1.cell (i := 2) rfl
    have zz2 := p1.thaw 2
    have rr3 : w1.cell? ⟨w.heap.size, 3, none⟩ = some (.int .i64 0) := p1.cell (i := 3) rfl
    have zz3 := p1.thaw 3
    have rr4 : w1.cell? ⟨w.heap.size, 4, none⟩ = some (.int .i64 0) := p1.cell (i := 4) rfl
    have zz4 := p1.thaw 4
    have rr5 : w1.cell? ⟨w.heap.size, 5, none⟩ = some (.int .i64 0) := p1.cell (i := 5) rfl
    have zz5 := p1.thaw 5
    have rr6 : w1.cell? ⟨w.heap.size, 6, none⟩ = some (.string ⟨#[]⟩) := p1.cell (i := 6) rfl
    have zz6 := p1.thaw 6
    have rr7 : w1.cell? ⟨w.heap.size, 7, none⟩ = some (.string ⟨#[]⟩) := p1.cell (i := 7) rfl
    have zz7 := p1.thaw 7
    have Hf := hidP B1
    clear hR p0 g1 p1 B1 hg hbl
    unfold Cm.v Cm.zero
    go_wp2
    have oz : Below w.heap.size w ((((((((w1.setCell ⟨w.heap.size, 0, none⟩ (.int .i64 0)).setCell ⟨w.heap.size, 1, none⟩ (.int .i64 0)).setCell ⟨w.heap.size, 2, none⟩ (.int .i64 0)).setCell ⟨w.heap.size, 3, none⟩ (.int .i64 0)).setCell ⟨w.heap.size, 4, none⟩ (.int .i64 0)).setCell ⟨w.heap.size, 5, none⟩ (.int .i64 0)).setCell ⟨w.heap.size, 6, none⟩ (.string ⟨#[]⟩)).setCell ⟨w.heap.size, 7, none⟩ (.string ⟨#[]⟩)) := Hf.out.trans (Only.toBelow (b := w.heap.size) (((((((((Only.refl _ _).set 0 (.int .i64 0)).set 1 (.int .i64 0)).set 2 (.int .i64 0)).set 3 (.int .i64 0)).set 4 (.int .i64 0)).set 5 (.int .i64 0)).set 6 (.string ⟨#[]⟩)).set 7 (.string ⟨#[]⟩)) (Nat.le_refl _) Hf.out.size)
    exact bodyPost_ret (v := .tuple #[Cm.v Cm.zero, .int .i64 0, .bool false]) (by simp [results, Try.results25, go_sem, Cm.v, Cm.zero, q1, rr0, rr1, rr2, rr3, rr4, rr5, rr6, rr7]) rfl ⟨by rw [hO.out]; rfl, alloc0 oz _⟩

set_option maxRecDepth 100000 in
set_option maxHeartbeats 4000000 in
theorem specCmdOf_any (A : Option Addr) (cap : Nat) (l : List UInt8) (hl : l.length ≤ 1048576) (hcap : l.length ≤ cap) (hcm : cap ≤ 9223372036854775807) (i : Int) (hi : I64 i) (w : World) (hA : At w A l) :
    Calls Try.prog 26 #[.slice A l.length cap, .int .i64 i] w fun e w' => e = .returned (ofT (ofC l i)) ∧ Below w.heap.size w w' := by
  have hbl := alloc0 (alloc0 (Below.refl _ w) (.cells #[.int .i64 0, .int .i64 0, .int .i64 0, .int .i64 0, .int .i64 0, .int .i64 0, .string ⟨#[]⟩, .string ⟨#[]⟩] 35)) (.cells #[.slice A l.length cap, .int .i64 i, .bool true] 77)
  have p0 := (Blk.new w 35 #[.int .i64 0, .int .i64 0, .int .i64 0, .int .i64 0, .int .i64 0, .int .i64 0, .string ⟨#[]⟩, .string ⟨#[]⟩]).alloc (.cells #[.slice A l.length cap, .int .i64 i, .bool true] 77)
  have u0 := Blk.new (w.alloc (.cells #[.int .i64 0, .int .i64 0, .int .i64 0, .int .i64 0, .int .i64 0, .int .i64 0, .string ⟨#[]⟩, .string ⟨#[]⟩] 35)) 77 #[.slice A l.length cap, .int .i64 i, .bool true]
  simp only [World.size_alloc] at u0
  have hcu : CuO ((w.alloc (.cells #[.int .i64 0, .int .i64 0, .int .i64 0, .int .i64 0, .int .i64 0, .int .i64 0, .string ⟨#[]⟩, .string ⟨#[]⟩] 35)).alloc (.cells #[.slice A l.length cap, .int .i64 i, .bool true] 77)) (w.heap.size + 1) A cap l (some i) := by
    refine ⟨i, true, u0, ?_, hi, rfl⟩
    rcases hA with h | ⟨b, o, e, hb, hin⟩
    · exact .inl h
    · exact .inr ⟨b, o, e, by simp; omega, by omega, hin.below hb hbl⟩
  have HC := hidP hcu
  have Hp0 := hidP p0
  clear hA hcu u0 p0
  go_enter Try.func26, Try.ntmps26
  go_wp2_with fail
  refine (l7Cmd_any (w.heap.size + 1) A cap l hl hcap hcm (some i) _ HC.out).mono ?_
  rintro e w1 ⟨rfl, o1, h1⟩
  have B1 : Below w.heap.size w w1 := hbl.trans (o1.toBelow (by omega) hbl.size)
  have p1 := Hp0.out.only o1 (by omega)
  have hk := tV_le l (nO (q6 l (some i)))
  have ht := tV_le l (nO (q7 l (some i)))
  have hxk : (cmOf l (some i)).k.size ≤ l.length := hk
  have hxt : (cmOf l (some i)).t.size ≤ l.length := ht
  have hgc : Hid (getC l i = (q8 l (some i)).map fun p => (cmOf l (some i), p.2)) := hidP rfl
  clear hk ht
  generalize cmOf l (some i) = x at *
  obtain ⟨i1, ok1, hc1⟩ := h1
  have hst := hc1.st
  cases hq : q8 l (some i) with
  | none =>
    have hO : Hid (ofC l i = none) := by show _ = _; unfold ofC; rw [hgc.out, hq]; rfl
    rw [hq] at hst
    obtain rfl : ok1 = false := by cases ok1; · rfl
                                   · simp [nO] at hst
    have c2 := (hc1.box.row3).2.2
    have qc := hc1.box.lt
    have rr0 : w1.cell? ⟨w.heap.size, 0, none⟩ = some (.int .i64 0) := p1.cell (i := 0) rfl
    have zz0 := p1.thaw 0
    have rr1 : w1.cell? ⟨w.heap.size, 1, none⟩ = some (.int .i64 0) := p1.cell (i := 1) rfl
    have zz1 := p1.thaw 1
    have rr2 : w1.cell? ⟨w.heap.size, 2, none⟩ = some (.int .i64 0) := p1.cell (i := 2) rfl
    have zz2 := p1.thaw 2
    have rr3 : w1.cell? ⟨w.heap.size, 3, none⟩ = some (.int .i64 0) := p1.cell (i := 3) rfl
    have zz3 := p1.thaw 3
    have rr4 : w1.cell? ⟨w.heap.size, 4, none⟩ = some (.int .i64 0) := p1.cell (i := 4) rfl
    have zz4 := p1.thaw 4
    have rr5 : w1.cell? ⟨w.heap.size, 5, none⟩ = some (.int .i64 0) := p1.cell (i := 5) rfl
    have zz5 := p1.thaw 5
    have rr6 : w1.cell? ⟨w.heap.size, 6, none⟩ = some (.string ⟨#[]⟩) := p1.cell (i := 6) rfl
    have zz6 := p1.thaw 6
    have rr7 : w1.cell? ⟨w.heap.size, 7, none⟩ = some (.string ⟨#[]⟩) := p1.cell (i := 7) rfl
    have zz7 := p1.thaw 7
    have q1 := p1.lt
    have Hf := hidP B1
    clear hc1 hst HC Hp0 o1 p1 hbl B1 hgc hq
    unfold Cm.v
    go_wp2
    have oz : Below w.heap.size w ((((((((w1.setCell ⟨w.heap.size, 0, none⟩ (.int .i64 0)).setCell ⟨w.heap.size, 1, none⟩ (.int .i64 0)).setCell ⟨w.heap.size, 2, none⟩ (.int .i64 0)).setCell ⟨w.heap.size, 3, none⟩ (.int .i64 0)).setCell ⟨w.heap.size, 4, none⟩ (.int .i64 0)).setCell ⟨w.heap.size, 5, none⟩ (.int .i64 0)).setCell ⟨w.heap.size, 6, none⟩ (.string ⟨#[]⟩)).setCell ⟨w.heap.size, 7, none⟩ (.string ⟨#[]⟩)) := Hf.out.trans (Only.toBelow (b := w.heap.size) (((((((((Only.refl _ _).set 0 (.int .i64 0)).set 1 (.int .i64 0)).set 2 (.int .i64 0)).set 3 (.int .i64 0)).set 4 (.int .i64 0)).set 5 (.int .i64 0)).set 6 (.string ⟨#[]⟩)).set 7 (.string ⟨#[]⟩)) (Nat.le_refl _) Hf.out.size)
    exact bodyPost_ret (v := .tuple #[Cm.v Cm.zero, .int .i64 0, .bool false]) (by simp [results, Try.results26, go_sem, Cm.v, Cm.zero, q1, rr0, rr1, rr2, rr3, rr4, rr5, rr6, rr7]) rfl ⟨by rw [hO.out]; rfl, alloc0 oz _⟩
  | some y =>
    obtain ⟨s8, c⟩ := y
    rw [hq] at hst hgc
    simp only [Option.map_some] at hgc
    obtain ⟨rfl, rfl⟩ : ok1 = true ∧ i1 = (c : Int) := by
      cases ok1
      · simp [nO] at hst
      · simp [nO] at hst; exact ⟨rfl, hst.symm⟩
    obtain ⟨c0, c1, c2⟩ := hc1.box.row3
    have qc := hc1.box.lt
    have q1 := p1.lt
    have Hc1 := hidP hc1.box
    have Hp1 := hidP p1
    have HB1 := hidP B1
    clear hc1 hst HC Hp0 o1 p1 hbl B1 hq
    unfold Cm.v
    go_wp2_with fail
    refine (CmdOk.spec_any x.who x.seq x.op x.a x.b x.c x.k x.t (by omega) (by omega) _).mono ?_
    rintro e w2 ⟨rfl, g2⟩
    have p2 := (Hp1.out.alloc (.cells #[.int .i64 x.who, .int .i64 x.seq, .int .i64 x.op, .int .i64 x.a, .int .i64 x.b, .int .i64 x.c, .string x.k, .string x.t] 35)).below g2 (by simp; omega)
    have u2 := (Hc1.out.alloc (.cells #[.int .i64 x.who, .int .i64 x.seq, .int .i64 x.op, .int .i64 x.a, .int .i64 x.b, .int .i64 x.c, .string x.k, .string x.t] 35)).below g2 (by simp; omega)
    have x2 := (Blk.new w1 35 #[.int .i64 x.who, .int .i64 x.seq, .int .i64 x.op, .int .i64 x.a, .int .i64 x.b, .int .i64 x.c, .string x.k, .string x.t]).below g2 (by simp)
    have B2 := via0 g2 (alloc0 HB1.out _)
    have hs12 : w1.heap.size < w2.heap.size := x2.lt
    obtain ⟨e0, e1, e2⟩ := u2.row3
    have qu := u2.lt
    have rr0 : w2.cell? ⟨w.heap.size, 0, none⟩ = some (.int .i64 0) := p2.cell (i := 0) rfl
    have zz0 := p2.thaw 0
    have rr1 : w2.cell? ⟨w.heap.size, 1, none⟩ = some (.int .i64 0) := p2.cell (i := 1) rfl
    have zz1 := p2.thaw 1
    have rr2 : w2.cell? ⟨w.heap.size, 2, none⟩ = some (.int .i64 0) := p2.cell (i := 2) rfl
    have zz2 := p2.thaw 2
    have rr3 : w2.cell? ⟨w.heap.size, 3, none⟩ = some (.int .i64 0) := p2.cell (i := 3) rfl
    have zz3 := p2.thaw 3
    have rr4 : w2.cell? ⟨w.heap.size, 4, none⟩ = some (.int .i64 0) := p2.cell (i := 4) rfl
    have zz4 := p2.thaw 4
    have rr5 : w2.cell? ⟨w.heap.size, 5, none⟩ = some (.int .i64 0) := p2.cell (i := 5) rfl
    have zz5 := p2.thaw 5
    have rr6 : w2.cell? ⟨w.heap.size, 6, none⟩ = some (.string ⟨#[]⟩) := p2.cell (i := 6) rfl
    have zz6 := p2.thaw 6
    have rr7 : w2.cell? ⟨w.heap.size, 7, none⟩ = some (.string ⟨#[]⟩) := p2.cell (i := 7) rfl
    have zz7 := p2.thaw 7
    have kk0 : w2.cell? ⟨w1.heap.size, 0, none⟩ = some (.int .i64 x.who) := x2.cell (i := 0) rfl
    have kk1 : w2.cell? ⟨w1.heap.size, 1, none⟩ = some (.int .i64 x.seq) := x2.cell (i := 1) rfl
    have kk2 : w2.cell? ⟨w1.heap.size, 2, none⟩ = some (.int .i64 x.op) := x2.cell (i := 2) rfl
    have kk3 : w2.cell? ⟨w1.heap.size, 3, none⟩ = some (.int .i64 x.a) := x2.cell (i := 3) rfl
    have kk4 : w2.cell? ⟨w1.heap.size, 4, none⟩ = some (.int .i64 x.b) := x2.cell (i := 4) rfl
    have kk5 : w2.cell? ⟨w1.heap.size, 5, none⟩ = some (.int .i64 x.c) := x2.cell (i := 5) rfl
    have kk6 : w2.cell? ⟨w1.heap.size, 6, none⟩ = some (.string x.k) := x2.cell (i := 6) rfl
    have kk7 : w2.cell? ⟨w1.heap.size, 7, none⟩ = some (.string x.t) := x2.cell (i := 7) rfl
    have q2 := p2.lt
    have Hf := hidP B2
    clear Hp1 HB1 g2 p2 x2 B2 Hc1 u2 c0 c1 c2 qc
    cases hok : CmdOk.okB x.who x.seq x.op x.a x.b x.c x.k x.t with
    | false =>
      have hO : Hid (ofC l i = none) := by show _ = _; unfold ofC; rw [hgc.out]; simp [Cm.ok, hok]
      go_wp2
      have oz : Below w.heap.size w ((((((((w2.setCell ⟨w.heap.size, 0, none⟩ (.int .i64 0)).setCell ⟨w.heap.size, 1, none⟩ (.int .i64 0)).setCell ⟨w.heap.size, 2, none⟩ (.int .i64 0)).setCell ⟨w.heap.size, 3, none⟩ (.int .i64 0)).setCell ⟨w.heap.size, 4, none⟩ (.int .i64 0)).setCell ⟨w.heap.size, 5, none⟩ (.int .i64 0)).setCell ⟨w.heap.size, 6, none⟩ (.string ⟨#[]⟩)).setCell ⟨w.heap.size, 7, none⟩ (.string ⟨#[]⟩)) := Hf.out.trans (Only.toBelow (b := w.heap.size) (((((((((Only.refl _ _).set 0 (.int .i64 0)).set 1 (.int .i64 0)).set 2 (.int .i64 0)).set 3 (.int .i64 0)).set 4 (.int .i64 0)).set 5 (.int .i64 0)).set 6 (.string ⟨#[]⟩)).set 7 (.string ⟨#[]⟩)) (Nat.le_refl _) Hf.out.size)
      exact bodyPost_ret (v := .tuple #[Cm.v Cm.zero, .int .i64 0, .bool false]) (by simp [results, Try.results26, go_sem, Cm.v, Cm.zero, rr0, rr1, rr2, rr3, rr4, rr5, rr6, rr7]) rfl ⟨by rw [hO.out]; rfl, oz⟩
    | true =>
      have hO : Hid (ofC l i = some (x, c)) := by show _ = _; unfold ofC; rw [hgc.out]; simp [Cm.ok, hok]
      go_wp2_with fail
      go_region
      go_wp2
      have oz : Below w.heap.size w ((((((((w2.setCell ⟨w.heap.size, 0, none⟩ (.int .i64 x.who)).setCell ⟨w.heap.size, 1, none⟩ (.int .i64 x.seq)).setCell ⟨w.heap.size, 2, none⟩ (.int .i64 x.op)).setCell ⟨w.heap.size, 3, none⟩ (.int .i64 x.a)).setCell ⟨w.heap.size, 4, none⟩ (.int .i64 x.b)).setCell ⟨w.heap.size, 5, none⟩ (.int .i64 x.c)).setCell ⟨w.heap.size, 6, none⟩ (.string x.k)).setCell ⟨w.heap.size, 7, none⟩ (.string x.t)) := Hf.out.trans (Only.toBelow (b := w.heap.size) (((((((((Only.refl _ _).set 0 (.int .i64 x.who)).set 1 (.int .i64 x.seq)).set 2 (.int .i64 x.op)).set 3 (.int .i64 x.a)).set 4 (.int .i64 x.b)).set 5 (.int .i64 x.c)).set 6 (.string x.k)).set 7 (.string x.t)) (Nat.le_refl _) Hf.out.size)
      exact bodyPost_ret (v := .tuple #[Cm.v x, .int .i64 (c : Int), .bool true]) (by simp [results, Try.results26, go_sem, Cm.v, rr0, rr1, rr2, rr3, rr4, rr5, rr6, rr7]) rfl ⟨by rw [hO.out]; rfl, oz.drew⟩
end Go.Proofs.Ytjmaifmcoepfdaa.Gen
