/-
  A keeper, read by the program's reader. Condition: at most 1048576 bytes.
-/
import Derived.Test.YtjjbbkmedpfenaaGreatRKeep1
import Derived.Test.YtjjbbkmedpfenaaGreatRMany
namespace Go.Proofs.YtjjbbkmedpfenaaGreat.Gen
open Go.ChangeShapes Go.WideShapes Go.ChangeAt Go.RowKit Go.Joins Go.Deep Base
set_option linter.unusedVariables false
set_option linter.unusedSimpArgs false

def isKp (B : Nat) (x : PK) (v : Value) (W : World) : Prop := ∃ y : KC, v = .agg y.cells ∧ y.p = x ∧ KOwn W y (fun b => B ≤ b ∧ b < W.heap.size)
def Thr (rA : Option Addr) (rs : List RC) (mA : Option Addr) (ms : List MC) (gA : Option Addr) (gs : List GC) (s0 s1 s2 s3 : Nat) (W : World) : Prop := Own rowP W rA rs (fun b => s0 ≤ b ∧ b < s1) ∧ Own makP W mA ms (fun b => s1 ≤ b ∧ b < s2) ∧ Own grpP W gA gs (fun b => s2 ≤ b ∧ b < s3)
theorem Thr.stay {rA : Option Addr} {rs : List RC} {mA : Option Addr} {ms : List MC} {gA : Option Addr} {gs : List GC} {s0 s1 s2 s3 : Nat} (h1 : s0 ≤ s1) (h2 : s1 ≤ s2) (h3 : s2 ≤ s3) : Stay s0 s3 (Thr rA rs mA ms gA gs s0 s1 s2 s3) :=
  fun W W' T h k hT => ⟨h.1.offp rowP_firm k (fun x hx e => by have := hT x e; omega), h.2.1.offp makP_firm k (fun x hx e => by have := hT x e; omega), h.2.2.offp grpP_firm k (fun x hx e => by have := hT x e; omega)⟩

theorem kown_make {rA : Option Addr} {rs : List RC} {mA : Option Addr} {ms : List MC} {gA : Option Addr} {gs : List GC} {s s0 s1 s2 s3 rc mc gc : Nat} {W : World} {a1 a2 : Option Addr} {d1 d2 : Nat} {ds : List Int} {ls : List An} {time : Int} (h : Thr rA rs mA ms gA gs s0 s1 s2 s3 W) (h1 : s0 ≤ s1) (h2 : s1 ≤ s2) (h3 : s2 ≤ s3) (o1 : W.ownsRow s3 3 1 (.slice a1 ds.length d1) ds.length (flat ds)) (o2 : W.ownsRow s3 77 4 (.slice a2 ls.length d2) ls.length (flat ls)) (dis : ∀ x, (Value.slice a1 ds.length d1).ownBlock = some x → (Value.slice a2 ls.length d2).ownBlock ≠ some x) (hs : s3 ≤ W.heap.size) (h0 : s ≤ s0) :
    KOwn W ⟨rA, rc, rs, mA, mc, ms, gA, gc, gs, time, a1, d1, ds, a2, d2, ls⟩ (fun b => s ≤ b ∧ b < W.heap.size) := by
  refine ⟨fun b => if b < s1 then 1 else if b < s2 then 2 else if b < s3 then 3 else if (Value.slice a1 ds.length d1).ownBlock = some b then 4 else 5, ⟨h.1.mono ?_, h.2.1.mono ?_, h.2.2.mono ?_, (owns_own o1).mono ?_, (owns_own o2).mono ?_⟩⟩
  · intro b hb
    exact ⟨⟨by omega, by omega⟩, if_pos hb.2⟩
  · intro b hb
    refine ⟨⟨by omega, by omega⟩, ?_⟩
    show (if b < s1 then 1 else _) = 2
    rw [if_neg (by omega), if_pos hb.2]
  · intro b hb
    refine ⟨⟨by omega, by omega⟩, ?_⟩
    show (if b < s1 then 1 else _) = 3
    rw [if_neg (by omega), if_neg (by omega), if_pos hb.2]
  · intro b hb
    have h5 := o1.lt b hb
    refine ⟨⟨by omega, h5.2⟩, ?_⟩
    show (if b < s1 then 1 else _) = 4
    rw [if_neg (by omega), if_neg (by omega), if_neg (by omega), if_pos hb]
  · intro b hb
    have h5 := o2.lt b hb
    refine ⟨⟨by omega, h5.2⟩, ?_⟩
    show (if b < s1 then 1 else _) = 5
    rw [if_neg (by omega), if_neg (by omega), if_neg (by omega), if_neg (fun e => dis b e hb)]

set_option maxRecDepth 100000 in
set_option maxHeartbeats 8000000 in
theorem readKp_any (rows : Int) (hrw : I64 rows) (r : Nat) (A : Option Addr) (cap : Nat) (l : List UInt8) (i : Int) (hl : l.length ≤ 1048576) (hcap : l.length ≤ cap) (hcm : cap ≤ 9223372036854775807) (w : World) (h : Rd w r A cap l i) :
    Calls Tryz.prog 18 #[.pointer (some ⟨r, 0, none⟩), .int .i64 rows] w fun e w' => Reads (isKp w.heap.size) r A cap l w e w' (getKp rows.toNat l i) := by
  obtain ⟨hr, hfar⟩ := h.far'
  have Hla : Hid (l = [] ∨ ∀ c o, A = some ⟨c, o, none⟩ → c < w.heap.size) := hidP hfar
  have Hrw := hidP hrw
  have Hfar : Hid (l = [] ∨ ∀ c o, A = some ⟨c, o, none⟩ → c ≠ w.heap.size + 1 + 1) := hidP (hfar.imp id fun h c o e => by have := h c o e; omega)
  have Hfar0 : Hid (l = [] ∨ ∀ c o, A = some ⟨c, o, none⟩ → c ≠ w.heap.size + 1) := hidP (hfar.imp id fun h c o e => by have := h c o e; omega)
  have hBr : w.heap.size ≠ r := by omega
  have bt0 := ((Blk.new w 3 #[.int .i64 rows]).alloc (.cells #[.slice none 0 0, .slice none 0 0, .slice none 0 0, .int .i64 0, .slice none 0 0, .slice none 0 0] 31)).alloc (.cells #[.slice none 0 0, .slice none 0 0, .slice none 0 0, .int .i64 0, .slice none 0 0, .slice none 0 0] 31)
  have pr0 := (Blk.new (w.alloc (.cells #[.int .i64 rows] 3)) 31 #[.slice none 0 0, .slice none 0 0, .slice none 0 0, .int .i64 0, .slice none 0 0, .slice none 0 0]).alloc (.cells #[.slice none 0 0, .slice none 0 0, .slice none 0 0, .int .i64 0, .slice none 0 0, .slice none 0 0] 31)
  have px0 := Blk.new ((w.alloc (.cells #[.int .i64 rows] 3)).alloc (.cells #[.slice none 0 0, .slice none 0 0, .slice none 0 0, .int .i64 0, .slice none 0 0, .slice none 0 0] 31)) 31 #[.slice none 0 0, .slice none 0 0, .slice none 0 0, .int .i64 0, .slice none 0 0, .slice none 0 0]
  have HC0 := hidP (h.below (alloc0 (alloc0 (alloc0 (Below.refl _ w) (.cells #[.int .i64 rows] 3)) (.cells #[.slice none 0 0, .slice none 0 0, .slice none 0 0, .int .i64 0, .slice none 0 0, .slice none 0 0] 31)) (.cells #[.slice none 0 0, .slice none 0 0, .slice none 0 0, .int .i64 0, .slice none 0 0, .slice none 0 0] 31)))
  have HO0 : Hid (Only r w (((w.alloc (.cells #[.int .i64 rows] 3)).alloc (.cells #[.slice none 0 0, .slice none 0 0, .slice none 0 0, .int .i64 0, .slice none 0 0, .slice none 0 0] 31)).alloc (.cells #[.slice none 0 0, .slice none 0 0, .slice none 0 0, .int .i64 0, .slice none 0 0, .slice none 0 0] 31))) := (Only.refl r w).below (alloc0 (alloc0 (alloc0 (Below.refl _ w) _) _) _)
  have hsz0 : (((w.alloc (.cells #[.int .i64 rows] 3)).alloc (.cells #[.slice none 0 0, .slice none 0 0, .slice none 0 0, .int .i64 0, .slice none 0 0, .slice none 0 0] 31)).alloc (.cells #[.slice none 0 0, .slice none 0 0, .slice none 0 0, .int .i64 0, .slice none 0 0, .slice none 0 0] 31)).heap.size = w.heap.size + 3 := by simp
  simp only [World.size_alloc] at px0 pr0
  have Hpx0 := hidP px0
  have Hpr0 := hidP pr0
  have Hbt0 := hidP bt0
  have Hsz0 := hidP hsz0
  clear px0 pr0 bt0 hsz0 h hfar
  go_enter Tryz.func18, Tryz.ntmps18
  go_wp2_with fail
  refine (readListRw_any r A cap l i hl hcap hcm _ HC0.out).mono ?_
  intro e w1 h1
  cases hx1 : getList l (getRw l) i with
  | none =>
    have hN : getKp rows.toNat l i = none := by simp [getKp, hx1]
    rw [hx1] at h1
    obtain ⟨o1, t, v, rfl⟩ := h1
    refine ⟨rfl, ?_⟩
    rw [hN]
    exact ⟨only_trans HO0.out o1, t, v, rfl⟩
  | some x =>
  obtain ⟨xs1, c1⟩ := x
  rw [hx1] at h1
  obtain ⟨o1, h1, v, rfl, rs, rA, rc, rfl, hrm, hrc, hro⟩ := h1
  have hsz1 : Hid (w.heap.size + 3 ≤ w1.heap.size) := by
    show _ ≤ _
    have h5 := o1.size
    rw [Hsz0.out] at h5
    exact h5
  have p1 : Blk w1 (w.heap.size + 1 + 1) 31 #[.slice none 0 0, .slice none 0 0, .slice none 0 0, .int .i64 0, .slice none 0 0, .slice none 0 0] := Hpx0.out.only o1 (by omega)
  have g1 := Hpr0.out.only o1 (by omega)
  have b1 := Hbt0.out.only o1 hBr
  have d1 : w1.cell? ⟨w.heap.size + 1 + 1, 0, none⟩ = some (.slice none 0 0) := p1.cell (i := 0) rfl
  have f1 := p1.thaw 0
  have q1' := p1.lt
  have R1 : Hid (Own rowP (w1.setCell ⟨w.heap.size + 1 + 1, 0, none⟩ (Value.slice rA (List.length rs) rc)) rA rs (fun b => w.heap.size + 3 ≤ b ∧ b < w1.heap.size)) := by
    show Own _ _ _ _ _
    rw [Hsz0.out] at hro
    exact hro.offp rowP_firm (Offp.of_only ((Only.refl (w.heap.size + 1 + 1) w1).set 0 (Value.slice rA (List.length rs) rc))) (fun b hb => by show b ≠ _; omega)
  clear hro
  have Hpx1 : Hid (Blk (w1.setCell ⟨w.heap.size + 1 + 1, 0, none⟩ (Value.slice rA (List.length rs) rc)) (w.heap.size + 1 + 1) 31 #[Value.slice rA (List.length rs) rc, .slice none 0 0, .slice none 0 0, .int .i64 0, .slice none 0 0, .slice none 0 0]) := hidP (p1.setAt 0 (Value.slice rA (List.length rs) rc))
  have Hpr1 := hidP (g1.other (show w.heap.size + 1 ≠ w.heap.size + 1 + 1 by omega) 0 (Value.slice rA (List.length rs) rc))
  have Hbt1 := hidP (b1.other (show w.heap.size ≠ w.heap.size + 1 + 1 by omega) 0 (Value.slice rA (List.length rs) rc))
  have HC1 := hidP (h1.offp (Offp.of_only ((Only.refl (w.heap.size + 1 + 1) w1).set 0 (Value.slice rA (List.length rs) rc))) (by show r ≠ _; omega) Hfar.out)
  have HO1 := hidP (only_offp (only_trans HO0.out o1) (Offp.of_only ((Only.refl (w.heap.size + 1 + 1) w1).set 0 (Value.slice rA (List.length rs) rc))) (fun x e => by subst e; omega))
  clear o1 h1 p1 g1 b1 HC0 HO0 Hpx0 Hpr0 Hbt0
  go_wp2_with fail
  refine (readListMr_any r A cap l (c1 : Int) hl hcap hcm _ HC1.out).mono ?_
  intro e w2 h2
  cases hx2 : getList l (getMr l) (c1 : Int) with
  | none =>
    have hN : getKp rows.toNat l i = none := by simp [getKp, hx1, hx2]
    rw [hx2] at h2
    obtain ⟨o2, t, v, rfl⟩ := h2
    refine ⟨rfl, ?_⟩
    rw [hN]
    exact ⟨only_trans HO1.out o2, t, v, rfl⟩
  | some x =>
  obtain ⟨xs2, c2⟩ := x
  rw [hx2] at h2
  obtain ⟨o2, h2, v, rfl, ms, mA, mc, rfl, hmm, hmc, hmo⟩ := h2
  have hsz2 : Hid (w1.heap.size ≤ w2.heap.size) := by
    show _ ≤ _
    have h5 := o2.size
    simp only [World.size_setCell] at h5
    exact h5
  have p2 : Blk w2 (w.heap.size + 1 + 1) 31 #[Value.slice rA (List.length rs) rc, .slice none 0 0, .slice none 0 0, .int .i64 0, .slice none 0 0, .slice none 0 0] := Hpx1.out.only o2 (by omega)
  have g2 := Hpr1.out.only o2 (by omega)
  have b2 := Hbt1.out.only o2 hBr
  have d2 : w2.cell? ⟨w.heap.size + 1 + 1, 1, none⟩ = some (.slice none 0 0) := p2.cell (i := 1) rfl
  have f2 := p2.thaw 1
  have q2' := p2.lt
  have R2 : Hid (Own rowP (w2.setCell ⟨w.heap.size + 1 + 1, 1, none⟩ (Value.slice mA (List.length ms) mc)) rA rs (fun b => w.heap.size + 3 ≤ b ∧ b < w1.heap.size) ∧ Own makP (w2.setCell ⟨w.heap.size + 1 + 1, 1, none⟩ (Value.slice mA (List.length ms) mc)) mA ms (fun b => w1.heap.size ≤ b ∧ b < w2.heap.size)) := by
    show _ ∧ _
    simp only [World.size_setCell] at hmo
    have hs1 := hsz1.out
    exact ⟨(R1.out.offp rowP_firm (Offp.of_only o2) (fun b hb => by show b ≠ _; omega)).offp rowP_firm (Offp.of_only ((Only.refl (w.heap.size + 1 + 1) w2).set 1 (Value.slice mA (List.length ms) mc))) (fun b hb => by show b ≠ _; omega), hmo.offp makP_firm (Offp.of_only ((Only.refl (w.heap.size + 1 + 1) w2).set 1 (Value.slice mA (List.length ms) mc))) (fun b hb => by show b ≠ _; omega)⟩
  clear hmo R1
  have Hpx2 : Hid (Blk (w2.setCell ⟨w.heap.size + 1 + 1, 1, none⟩ (Value.slice mA (List.length ms) mc)) (w.heap.size + 1 + 1) 31 #[Value.slice rA (List.length rs) rc, Value.slice mA (List.length ms) mc, .slice none 0 0, .int .i64 0, .slice none 0 0, .slice none 0 0]) := hidP (p2.setAt 1 (Value.slice mA (List.length ms) mc))
  have Hpr2 := hidP (g2.other (show w.heap.size + 1 ≠ w.heap.size + 1 + 1 by omega) 1 (Value.slice mA (List.length ms) mc))
  have Hbt2 := hidP (b2.other (show w.heap.size ≠ w.heap.size + 1 + 1 by omega) 1 (Value.slice mA (List.length ms) mc))
  have HC2 := hidP (h2.offp (Offp.of_only ((Only.refl (w.heap.size + 1 + 1) w2).set 1 (Value.slice mA (List.length ms) mc))) (by show r ≠ _; omega) Hfar.out)
  have HO2 := hidP (only_offp (only_trans HO1.out o2) (Offp.of_only ((Only.refl (w.heap.size + 1 + 1) w2).set 1 (Value.slice mA (List.length ms) mc))) (fun x e => by subst e; omega))
  clear o2 h2 p2 g2 b2 HC1 HO1 Hpx1 Hpr1 Hbt1 d1 f1 q1'
  go_wp2_with fail
  refine (readListGr_any rows Hrw.out w.heap.size r hBr A cap l (c2 : Int) hl hcap hcm _ (Hbt2.out) HC2.out).mono ?_
  intro e w3 h3
  cases hx3 : getList l (getGr rows.toNat l) (c2 : Int) with
  | none =>
    have hN : getKp rows.toNat l i = none := by simp [getKp, hx1, hx2, hx3]
    rw [hx3] at h3
    obtain ⟨o3, t, v, rfl⟩ := h3
    refine ⟨rfl, ?_⟩
    rw [hN]
    exact ⟨only_trans HO2.out o3, t, v, rfl⟩
  | some x =>
  obtain ⟨xs3, c3⟩ := x
  rw [hx3] at h3
  obtain ⟨o3, h3, v, rfl, gs, gA, gc, rfl, hgm, hgc, hgo⟩ := h3
  have hsz3 : Hid (w2.heap.size ≤ w3.heap.size) := by
    show _ ≤ _
    have h5 := o3.size
    simp only [World.size_setCell] at h5
    exact h5
  have p3 : Blk w3 (w.heap.size + 1 + 1) 31 #[Value.slice rA (List.length rs) rc, Value.slice mA (List.length ms) mc, .slice none 0 0, .int .i64 0, .slice none 0 0, .slice none 0 0] := Hpx2.out.only o3 (by omega)
  have g3 := Hpr2.out.only o3 (by omega)
  have b3 := Hbt2.out.only o3 hBr
  have d3 : w3.cell? ⟨w.heap.size + 1 + 1, 2, none⟩ = some (.slice none 0 0) := p3.cell (i := 2) rfl
  have f3 := p3.thaw 2
  have q3' := p3.lt
  have R3 : Hid (Thr rA rs mA ms gA gs (w.heap.size + 3) w1.heap.size w2.heap.size w3.heap.size (w3.setCell ⟨w.heap.size + 1 + 1, 2, none⟩ (Value.slice gA (List.length gs) gc))) := by
    show _ ∧ _ ∧ _
    simp only [World.size_setCell] at hgo
    have hs1 := hsz1.out
    have hs2 := hsz2.out
    exact ⟨(R2.out.1.offp rowP_firm (Offp.of_only o3) (fun b hb => by show b ≠ _; omega)).offp rowP_firm (Offp.of_only ((Only.refl (w.heap.size + 1 + 1) w3).set 2 (Value.slice gA (List.length gs) gc))) (fun b hb => by show b ≠ _; omega), (R2.out.2.offp makP_firm (Offp.of_only o3) (fun b hb => by show b ≠ _; omega)).offp makP_firm (Offp.of_only ((Only.refl (w.heap.size + 1 + 1) w3).set 2 (Value.slice gA (List.length gs) gc))) (fun b hb => by show b ≠ _; omega), hgo.offp grpP_firm (Offp.of_only ((Only.refl (w.heap.size + 1 + 1) w3).set 2 (Value.slice gA (List.length gs) gc))) (fun b hb => by show b ≠ _; omega)⟩
  have HST : Hid (Stay (w.heap.size + 3) w3.heap.size (Thr rA rs mA ms gA gs (w.heap.size + 3) w1.heap.size w2.heap.size w3.heap.size)) := Thr.stay hsz1.out hsz2.out hsz3.out
  clear hgo R2
  have Hpx3 : Hid (Blk (w3.setCell ⟨w.heap.size + 1 + 1, 2, none⟩ (Value.slice gA (List.length gs) gc)) (w.heap.size + 1 + 1) 31 #[Value.slice rA (List.length rs) rc, Value.slice mA (List.length ms) mc, Value.slice gA (List.length gs) gc, .int .i64 0, .slice none 0 0, .slice none 0 0]) := hidP (p3.setAt 2 (Value.slice gA (List.length gs) gc))
  have Hpr3 := hidP (g3.other (show w.heap.size + 1 ≠ w.heap.size + 1 + 1 by omega) 2 (Value.slice gA (List.length gs) gc))
  have Hbt3 := hidP (b3.other (show w.heap.size ≠ w.heap.size + 1 + 1 by omega) 2 (Value.slice gA (List.length gs) gc))
  have HC3 := hidP (h3.offp (Offp.of_only ((Only.refl (w.heap.size + 1 + 1) w3).set 2 (Value.slice gA (List.length gs) gc))) (by show r ≠ _; omega) Hfar.out)
  have HO3 := hidP (only_offp (only_trans HO2.out o3) (Offp.of_only ((Only.refl (w.heap.size + 1 + 1) w3).set 2 (Value.slice gA (List.length gs) gc))) (fun x e => by subst e; omega))
  clear o3 h3 p3 g3 b3 HC2 HO2 Hpx2 Hpr2 Hbt2 d2 f2 q2'
  go_wp2_with fail
  refine (readNum_any r A cap l (c3 : Int) hl _ HC3.out).mono ?_
  intro e w4 h4
  cases hx4 : getN l (c3 : Int) with
  | none =>
    have hN : getKp rows.toNat l i = none := by simp [getKp, hx1, hx2, hx3, hx4]
    rw [hx4] at h4
    obtain ⟨o4, t, v, rfl⟩ := h4
    refine ⟨rfl, ?_⟩
    rw [hN]
    exact ⟨only_trans HO3.out o4, t, v, rfl⟩
  | some x =>
  obtain ⟨t4, c4⟩ := x
  rw [hx4] at h4
  obtain ⟨o4, h4, v, rfl, rfl⟩ := h4
  have hsz4 : Hid (w3.heap.size ≤ w4.heap.size) := by
    show _ ≤ _
    have h5 := o4.size
    simp only [World.size_setCell] at h5
    exact h5
  have p4 : Blk w4 (w.heap.size + 1 + 1) 31 #[Value.slice rA (List.length rs) rc, Value.slice mA (List.length ms) mc, Value.slice gA (List.length gs) gc, .int .i64 0, .slice none 0 0, .slice none 0 0] := Hpx3.out.only o4 (by omega)
  have g4 := Hpr3.out.only o4 (by omega)
  have b4 := Hbt3.out.only o4 hBr
  have d4 : w4.cell? ⟨w.heap.size + 1 + 1, 3, none⟩ = some (.int .i64 0) := p4.cell (i := 3) rfl
  have f4 := p4.thaw 3
  have q4' := p4.lt
  have R4 := hidP (HST.out _ _ _ (HST.out _ _ _ R3.out (Offp.of_only o4) (fun x e => by subst e; omega)) (Offp.of_only ((Only.refl (w.heap.size + 1 + 1) w4).set 3 (Value.int .i64 (t4 : Int)))) (fun x e => by subst e; omega))
  clear R3
  have Hpx4 : Hid (Blk (w4.setCell ⟨w.heap.size + 1 + 1, 3, none⟩ (Value.int .i64 (t4 : Int))) (w.heap.size + 1 + 1) 31 #[Value.slice rA (List.length rs) rc, Value.slice mA (List.length ms) mc, Value.slice gA (List.length gs) gc, Value.int .i64 (t4 : Int), .slice none 0 0, .slice none 0 0]) := hidP (p4.setAt 3 (Value.int .i64 (t4 : Int)))
  have Hpr4 := hidP (g4.other (show w.heap.size + 1 ≠ w.heap.size + 1 + 1 by omega) 3 (Value.int .i64 (t4 : Int)))
  have Hbt4 := hidP (b4.other (show w.heap.size ≠ w.heap.size + 1 + 1 by omega) 3 (Value.int .i64 (t4 : Int)))
  have HC4 := hidP (h4.offp (Offp.of_only ((Only.refl (w.heap.size + 1 + 1) w4).set 3 (Value.int .i64 (t4 : Int)))) (by show r ≠ _; omega) Hfar.out)
  have HO4 := hidP (only_offp (only_trans HO3.out o4) (Offp.of_only ((Only.refl (w.heap.size + 1 + 1) w4).set 3 (Value.int .i64 (t4 : Int)))) (fun x e => by subst e; omega))
  clear o4 h4 p4 g4 b4 HC3 HO3 Hpx3 Hpr3 Hbt3 d3 f3 q3'
  have Hrm := hidP hrm
  have Hmm := hidP hmm
  have Hgm := hidP hgm
  have hs3 : Hid (w.heap.size + 3 ≤ w3.heap.size) := Nat.le_trans hsz1.out (Nat.le_trans hsz2.out hsz3.out)
  have K0 : Hid (KR (Thr rA rs mA ms gA gs (w.heap.size + 3) w1.heap.size w2.heap.size w3.heap.size) w3.heap.size w (w4.setCell ⟨w.heap.size + 1 + 1, 3, none⟩ (Value.int .i64 (t4 : Int))) r A cap l c4 (Value.slice rA (List.length rs) rc) (Value.slice mA (List.length ms) mc) (Value.slice gA (List.length gs) gc) (Value.int .i64 (t4 : Int)) none 0 [] none 0 []) := ⟨HC4.out, HO4.out, Hpx4.out, Hpr4.out, World.ownsRow_nil _ _ _ _, World.ownsRow_nil _ _ _ _, fun x e => by simp [Value.ownBlock] at e, R4.out, HST.out, hs3.out, by simp only [World.size_setCell]; exact hsz4.out, hr, Hla.out⟩
  have hN : Hid (getKp rows.toNat l i = (match getMany (getDl l) 4 c4 with | none => none | some (ps, c5) => some (⟨xs1, xs2, xs3, (t4 : Int), ps.map Prod.fst, ps.map Prod.snd⟩, c5))) := hidP (by simp [getKp, hx1, hx2, hx3, hx4]; cases getMany (getDl l) 4 c4 <;> rfl)
  have Hz1 := hsz1
  clear hrm hmm hgm HC4 HO4 Hpx4 Hpr4 Hbt4 R4 HST hx1 hx2 hx3 hx4 Hsz0
  go_wp2
  clear d4 f4 q4'
  go_loopw [19] (fun j W => ∃ (k c d1 d2 : Nat) (a1 a2 : Option Addr) (ps : List (Int × An)), j = .int .i64 (k : Int) ∧ k ≤ 4 ∧ Hid (ps.length = k ∧ (k = 0 ∨ k ≤ c ∧ c ≤ l.length)) ∧ Hid (KR (Thr rA rs mA ms gA gs (w.heap.size + 3) w1.heap.size w2.heap.size w3.heap.size) w3.heap.size w W r A cap l c (Value.slice rA (List.length rs) rc) (Value.slice mA (List.length ms) mc) (Value.slice gA (List.length gs) gc) (Value.int .i64 (t4 : Int)) a1 d1 (ps.map Prod.fst) a2 d2 (ps.map Prod.snd)) ∧ Hid (getMany (getDl l) 4 c4 = addTo ps (getMany (getDl l) (4 - k) c))) (fun j _ => 4 - (intOf j).toNat)
  case atStart => exact ⟨0, c4, 0, 0, none, none, [], rfl, by omega, ⟨rfl, .inl rfl⟩, K0, by show _ = _; simp [addTo]⟩
  case round =>
    clear K0
    obtain ⟨k, c, d1, d2, a1, a2, ps, rfl, hk, hkc, G, hm⟩ := hrel
    by_cases hlt : k < 4
    · have hlt' : (k : Int) < 4 := by omega
      obtain ⟨m, hm1⟩ : ∃ m, 4 - k = m + 1 := ⟨4 - k - 1, by omega⟩
      have hm2 : Hid (4 - (k + 1) = m) := by show _ = _; omega
      rw [hm1] at hm
      clear hm1
      have hln1 : (ps.map Prod.fst).length ≤ 2000000 := by have := hkc.out; simp; omega
      have hln2 : (ps.map Prod.snd).length ≤ 2000000 := by have := hkc.out; simp; omega
      obtain ⟨ds, hds⟩ : ∃ ds, Hid (ds = ps.map Prod.fst) := ⟨_, rfl⟩
      obtain ⟨ls, hls⟩ : ∃ ls, Hid (ls = ps.map Prod.snd) := ⟨_, rfl⟩
      rw [← hds.out, ← hls.out] at G
      rw [← hds.out] at hln1
      rw [← hls.out] at hln2
      have S1 : (fun (W : World) => W.cell? ⟨w.heap.size + 1 + 1, 4, none⟩ = some (.slice a1 (List.length ds) d1)) wr.drew := G.out.drew.box.cell (i := 4) rfl
      have GD1 := hidP G.out.drew
      clear G
      go_wp2_with fail
      have hH := S1
      refine region_upTo 7 (fun (W : World) => W.cell? ⟨w.heap.size + 1 + 1, 4, none⟩ = some (.slice a1 (List.length ds) d1)) (by kernel_rfl) ?_
      refine' upTo_taken (i := 0) (v := _) (by kernel_rfl) rfl (by kernel_rfl) (by decide) (by kernel_rfl) (by kernel_rfl) (fun _ _ _ h => h) (Or.inl ⟨by rfl, ?hy1⟩) (by assumption) ?rest1
      case hy1 => (intro w hSw; (try dsimp only at hSw); go_simp <;> with_reducible rfl)
      try simp only [Act.put, List.setIfInBounds_toArray, List.set_cons_zero, List.set_cons_succ, List.getElem_toArray, List.getElem_cons_succ, List.getElem_cons_zero]
      refine' upTo_taken (i := 1) (v := _) (by kernel_rfl) rfl (by kernel_rfl) (by decide) (by kernel_rfl) (by kernel_rfl) (fun _ _ _ h => h) (Or.inl ⟨by rfl, ?hy2⟩) (by assumption) ?rest2
      case hy2 => (intro w hSw; (try dsimp only at hSw); go_simp <;> with_reducible rfl)
      try simp only [Act.put, List.setIfInBounds_toArray, List.set_cons_zero, List.set_cons_succ, List.getElem_toArray, List.getElem_cons_succ, List.getElem_cons_zero]
      refine' upTo_taken (i := 2) (v := _) (by kernel_rfl) rfl (by kernel_rfl) (by decide) (by kernel_rfl) (by kernel_rfl) (fun _ _ _ h => h) (Or.inl ⟨by rfl, ?hy3⟩) (by assumption) ?rest3
      case hy3 => (intro w hSw; (try dsimp only at hSw); go_simp <;> with_reducible rfl)
      try simp only [Act.put, List.setIfInBounds_toArray, List.set_cons_zero, List.set_cons_succ, List.getElem_toArray, List.getElem_cons_succ, List.getElem_cons_zero]
      refine upTo_next (i := 3) (by kernel_rfl) rfl (fun K hK => ?_)
      simp only [List.getElem_toArray, List.getElem_cons_succ, List.getElem_cons_zero]
      go_simp
      refine (readNum_any r A cap l (c : Int) hl _ GD1.out.rd).mono ?_
      intro e v1 h1
      cases hy1 : getN l (c : Int) with
      | none =>
        rw [hy1] at h1
        obtain ⟨o1, t, v, rfl⟩ := h1
        refine ⟨rfl, ?_⟩
        rw [hN.out, hm.out, many_none ps (by simp [getDl, hy1])]
        exact ⟨only_trans GD1.out.only o1, t, v, rfl⟩
      | some x =>
      obtain ⟨x1, e1⟩ := x
      rw [hy1] at h1
      obtain ⟨o1, h1, v, rfl, rfl⟩ := h1
      have hge1 := getN_le hy1
      have GE1 := hidP (GD1.out.step o1 h1)
      obtain ⟨a1', d1', X1, hrun1, hbx1, GF1⟩ := GE1.out.app1 (x1 : Int) hln1
      have T1 : (fun (W : World) => W.cell? ⟨w.heap.size + 1 + 1, 4, none⟩ = some (.slice a1 (List.length ds) d1)) v1 := GE1.out.box.cell (i := 4) rfl
      have TA1 : (fun (W : World) => W.cell? ⟨w.heap.size + 1 + 1, 4, none⟩ = some (.slice a1 (List.length ds) d1)) (v1.alloc (.cells #[.int .i64 (x1 : Int)] 3)) := (GE1.out.box.alloc _).cell (i := 4) rfl
      have TB1 : (fun (W : World) => W.cell? ⟨w.heap.size + 1 + 1, 4, none⟩ = some (.slice a1 (List.length ds) d1)) X1 := hbx1.cell (i := 4) rfl
      have ff1 := hbx1.thaw 4
      have hrun1' := hidP hrun1
      refine hK.out _ _ (Or.inr T1) ?_
      clear hK K
      try simp only [Act.put, List.setIfInBounds_toArray, List.set_cons_zero, List.set_cons_succ, List.getElem_toArray, List.getElem_cons_succ, List.getElem_cons_zero]
      refine upTo_next (i := 4) (by kernel_rfl) rfl (fun K hK => ?_)
      simp only [List.getElem_toArray, List.getElem_cons_succ, List.getElem_cons_zero]
      go_simp
      refine hK.out _ _ (Or.inr TA1) ?_
      clear hK K
      try simp only [Act.put, List.setIfInBounds_toArray, List.set_cons_zero, List.set_cons_succ, List.getElem_toArray, List.getElem_cons_succ, List.getElem_cons_zero]
      refine upTo_next (i := 5) (by kernel_rfl) rfl (fun K hK => ?_)
      simp only [List.getElem_toArray, List.getElem_cons_succ, List.getElem_cons_zero]
      rw [if_pos (by rfl)]; refine wp_append_is _ _ _ (by rfl) _ _ _ (by rfl) (by rfl) hrun1'.out ?_
      refine hK.out _ _ (Or.inr TB1) ?_
      clear hK K
      try simp only [Act.put, List.setIfInBounds_toArray, List.set_cons_zero, List.set_cons_succ, List.getElem_toArray, List.getElem_cons_succ, List.getElem_cons_zero]
      refine' upTo_taken (i := 6) (v := _) (by kernel_rfl) rfl (by kernel_rfl) (by decide) (by kernel_rfl) (by kernel_rfl) (fun _ _ _ h => h) (Or.inl ⟨by rfl, ?hy4⟩) (by assumption) ?rest4
      case hy4 => (intro w hSw; (try dsimp only at hSw); go_simp <;> with_reducible rfl)
      try simp only [Act.put, List.setIfInBounds_toArray, List.set_cons_zero, List.set_cons_succ, List.getElem_toArray, List.getElem_cons_succ, List.getElem_cons_zero]
      refine upTo_next (i := 7) (by kernel_rfl) rfl (fun K hK => ?_)
      simp only [List.getElem_toArray, List.getElem_cons_succ, List.getElem_cons_zero]
      go_simp
      refine hK.out _ _ (Or.inl rfl) ?_
      clear hK K
      try simp only [Act.put, List.setIfInBounds_toArray, List.set_cons_zero, List.set_cons_succ, List.getElem_toArray, List.getElem_cons_succ, List.getElem_cons_zero]
      refine upTo_done (by kernel_rfl) ?_ _
      have G2 := hidP GF1
      clear GF1 GE1 GD1 T1 TA1 TB1 S1 hH o1 h1 hrun1 hrun1' hbx1 ff1
      generalize X1.setCell ⟨w.heap.size + 1 + 1, 4, none⟩ (.slice a1' (ds.length + 1) d1') = Y1 at *
      have S2 : (fun (W : World) => W.cell? ⟨w.heap.size + 1 + 1, 5, none⟩ = some (.slice a2 (List.length ls) d2)) Y1.drew := G2.out.drew.box.cell (i := 5) rfl
      have GD2 := hidP G2.out.drew
      clear G2
      go_wp2_with fail
      have hH := S2
      refine region_upTo 7 (fun (W : World) => W.cell? ⟨w.heap.size + 1 + 1, 5, none⟩ = some (.slice a2 (List.length ls) d2)) (by kernel_rfl) ?_
      refine' upTo_taken (i := 0) (v := _) (by kernel_rfl) rfl (by kernel_rfl) (by decide) (by kernel_rfl) (by kernel_rfl) (fun _ _ _ h => h) (Or.inl ⟨by rfl, ?hy5⟩) (by assumption) ?rest5
      case hy5 => (intro w hSw; (try dsimp only at hSw); go_simp <;> with_reducible rfl)
      try simp only [Act.put, List.setIfInBounds_toArray, List.set_cons_zero, List.set_cons_succ, List.getElem_toArray, List.getElem_cons_succ, List.getElem_cons_zero]
      refine' upTo_taken (i := 1) (v := _) (by kernel_rfl) rfl (by kernel_rfl) (by decide) (by kernel_rfl) (by kernel_rfl) (fun _ _ _ h => h) (Or.inl ⟨by rfl, ?hy6⟩) (by assumption) ?rest6
      case hy6 => (intro w hSw; (try dsimp only at hSw); go_simp <;> with_reducible rfl)
      try simp only [Act.put, List.setIfInBounds_toArray, List.set_cons_zero, List.set_cons_succ, List.getElem_toArray, List.getElem_cons_succ, List.getElem_cons_zero]
      refine' upTo_taken (i := 2) (v := _) (by kernel_rfl) rfl (by kernel_rfl) (by decide) (by kernel_rfl) (by kernel_rfl) (fun _ _ _ h => h) (Or.inl ⟨by rfl, ?hy7⟩) (by assumption) ?rest7
      case hy7 => (intro w hSw; (try dsimp only at hSw); go_simp <;> with_reducible rfl)
      try simp only [Act.put, List.setIfInBounds_toArray, List.set_cons_zero, List.set_cons_succ, List.getElem_toArray, List.getElem_cons_succ, List.getElem_cons_zero]
      refine upTo_next (i := 3) (by kernel_rfl) rfl (fun K hK => ?_)
      simp only [List.getElem_toArray, List.getElem_cons_succ, List.getElem_cons_zero]
      go_simp
      refine (readAn_any r A cap l (e1 : Int) hl hcap hcm _ GD2.out.rd).mono ?_
      intro e v2 h2
      cases hy2 : getAn l (e1 : Int) with
      | none =>
        rw [hy2] at h2
        obtain ⟨o2, t, v, rfl⟩ := h2
        refine ⟨rfl, ?_⟩
        rw [hN.out, hm.out, many_none ps (by simp [getDl, hy1, hy2])]
        exact ⟨only_trans GD2.out.only o2, t, v, rfl⟩
      | some x =>
      obtain ⟨x2, e2⟩ := x
      rw [hy2] at h2
      obtain ⟨o2, h2, v, rfl, rfl⟩ := h2
      have hge2 := getAn_le hy2
      have GE2 := hidP (GD2.out.step o2 h2)
      obtain ⟨a2', d2', X2, hrun2, hbx2, GF2⟩ := GE2.out.app2 x2 hln2
      have T2 : (fun (W : World) => W.cell? ⟨w.heap.size + 1 + 1, 5, none⟩ = some (.slice a2 (List.length ls) d2)) v2 := GE2.out.box.cell (i := 5) rfl
      have TA2 : (fun (W : World) => W.cell? ⟨w.heap.size + 1 + 1, 5, none⟩ = some (.slice a2 (List.length ls) d2)) (v2.alloc (.cells #[.int .i64 x2.code, .int .i64 x2.n, .string x2.key, .string x2.text] 77)) := (GE2.out.box.alloc _).cell (i := 5) rfl
      have TB2 : (fun (W : World) => W.cell? ⟨w.heap.size + 1 + 1, 5, none⟩ = some (.slice a2 (List.length ls) d2)) X2 := hbx2.cell (i := 5) rfl
      have ff2 := hbx2.thaw 5
      have hrun2' := hidP hrun2
      refine hK.out _ _ (Or.inr T2) ?_
      clear hK K
      try simp only [Act.put, List.setIfInBounds_toArray, List.set_cons_zero, List.set_cons_succ, List.getElem_toArray, List.getElem_cons_succ, List.getElem_cons_zero]
      refine upTo_next (i := 4) (by kernel_rfl) rfl (fun K hK => ?_)
      simp only [List.getElem_toArray, List.getElem_cons_succ, List.getElem_cons_zero]
      go_simp
      refine hK.out _ _ (Or.inr TA2) ?_
      clear hK K
      try simp only [Act.put, List.setIfInBounds_toArray, List.set_cons_zero, List.set_cons_succ, List.getElem_toArray, List.getElem_cons_succ, List.getElem_cons_zero]
      refine upTo_next (i := 5) (by kernel_rfl) rfl (fun K hK => ?_)
      simp only [List.getElem_toArray, List.getElem_cons_succ, List.getElem_cons_zero]
      rw [if_pos (by rfl)]; refine wp_append_is _ _ _ (by rfl) _ _ _ (by rfl) (by rfl) hrun2'.out ?_
      refine hK.out _ _ (Or.inr TB2) ?_
      clear hK K
      try simp only [Act.put, List.setIfInBounds_toArray, List.set_cons_zero, List.set_cons_succ, List.getElem_toArray, List.getElem_cons_succ, List.getElem_cons_zero]
      refine' upTo_taken (i := 6) (v := _) (by kernel_rfl) rfl (by kernel_rfl) (by decide) (by kernel_rfl) (by kernel_rfl) (fun _ _ _ h => h) (Or.inl ⟨by rfl, ?hy8⟩) (by assumption) ?rest8
      case hy8 => (intro w hSw; (try dsimp only at hSw); go_simp <;> with_reducible rfl)
      try simp only [Act.put, List.setIfInBounds_toArray, List.set_cons_zero, List.set_cons_succ, List.getElem_toArray, List.getElem_cons_succ, List.getElem_cons_zero]
      refine upTo_next (i := 7) (by kernel_rfl) rfl (fun K hK => ?_)
      simp only [List.getElem_toArray, List.getElem_cons_succ, List.getElem_cons_zero]
      go_simp
      refine hK.out _ _ (Or.inl rfl) ?_
      clear hK K
      try simp only [Act.put, List.setIfInBounds_toArray, List.set_cons_zero, List.set_cons_succ, List.getElem_toArray, List.getElem_cons_succ, List.getElem_cons_zero]
      refine upTo_done (by kernel_rfl) ?_ _
      have hxx : getDl l (c : Int) = some (((x1 : Int), x2), e2) := by simp [getDl, hy1, hy2]
      have hm' := hidP (hm.out.trans (many_some ps hxx))
      have hkc' : Hid ((ps ++ [((x1 : Int), x2)]).length = k + 1 ∧ (k + 1 = 0 ∨ k + 1 ≤ e2 ∧ e2 ≤ l.length)) := by
        show _ ∧ _
        have := hkc.out
        exact ⟨by simp; omega, .inr (by omega)⟩
      have GF := GF2
      rw [hds.out, hls.out] at GF
      have GF' : Hid (KR (Thr rA rs mA ms gA gs (w.heap.size + 3) w1.heap.size w2.heap.size w3.heap.size) w3.heap.size w (X2.setCell ⟨w.heap.size + 1 + 1, 5, none⟩ (.slice a2' (ls.length + 1) d2')) r A cap l e2 (Value.slice rA (List.length rs) rc) (Value.slice mA (List.length ms) mc) (Value.slice gA (List.length gs) gc) (Value.int .i64 (t4 : Int)) a1' d1' ((ps ++ [((x1 : Int), x2)]).map Prod.fst) a2' d2' ((ps ++ [((x1 : Int), x2)]).map Prod.snd)) := by
        show KR _ _ _ _ _ _ _ _ _ _ _ _ _ _ _ _ _ _ _
        rw [List.map_append, List.map_append, hls.out]
        exact GF
      clear GF GF2 GE2 GD2 T2 TA2 TB2 S2 hH o2 h2 hrun2 hrun2' hbx2 ff2
      go_wp2
      exact ⟨⟨k + 1, e2, d1', d2', a1', a2', ps ++ [((x1 : Int), x2)], by go_num, by omega, hkc', GF', by show _ = _; rw [hm2.out]; exact hm'.out⟩, by simp [intOf]; omega⟩
    · obtain rfl : k = 4 := by omega
      have hm' : Hid (getMany (getDl l) 4 c4 = some (ps, c)) := by
        show _ = _
        rw [hm.out, Nat.sub_self, many_end]
      obtain ⟨ds, hds⟩ : ∃ ds, Hid (ds = ps.map Prod.fst) := ⟨_, rfl⟩
      obtain ⟨ls, hls⟩ : ∃ ls, Hid (ls = ps.map Prod.snd) := ⟨_, rfl⟩
      rw [← hds.out, ← hls.out] at G
      have hNz : Hid (getKp rows.toNat l i = some (⟨xs1, xs2, xs3, (t4 : Int), ds, ls⟩, c)) := by
        show _ = _
        rw [hN.out, hm'.out, hds.out, hls.out]
      have hs3' := hs3.out
      have hsB := G.out.hB'
      have e0 : wr.cell? ⟨w.heap.size + 1 + 1, 0, none⟩ = some (Value.slice rA (List.length rs) rc) := G.out.box.cell (i := 0) rfl
      have r0 : wr.cell? ⟨w.heap.size + 1, 0, none⟩ = some (.slice none 0 0) := G.out.res.cell (i := 0) rfl
      have z0 := G.out.res.thaw 0
      have e1 : wr.cell? ⟨w.heap.size + 1 + 1, 1, none⟩ = some (Value.slice mA (List.length ms) mc) := G.out.box.cell (i := 1) rfl
      have r1 : wr.cell? ⟨w.heap.size + 1, 1, none⟩ = some (.slice none 0 0) := G.out.res.cell (i := 1) rfl
      have z1 := G.out.res.thaw 1
      have e2 : wr.cell? ⟨w.heap.size + 1 + 1, 2, none⟩ = some (Value.slice gA (List.length gs) gc) := G.out.box.cell (i := 2) rfl
      have r2 : wr.cell? ⟨w.heap.size + 1, 2, none⟩ = some (.slice none 0 0) := G.out.res.cell (i := 2) rfl
      have z2 := G.out.res.thaw 2
      have e3 : wr.cell? ⟨w.heap.size + 1 + 1, 3, none⟩ = some (Value.int .i64 (t4 : Int)) := G.out.box.cell (i := 3) rfl
      have r3 : wr.cell? ⟨w.heap.size + 1, 3, none⟩ = some (.int .i64 0) := G.out.res.cell (i := 3) rfl
      have z3 := G.out.res.thaw 3
      have e4 : wr.cell? ⟨w.heap.size + 1 + 1, 4, none⟩ = some (Value.slice a1 (List.length ds) d1) := G.out.box.cell (i := 4) rfl
      have r4 : wr.cell? ⟨w.heap.size + 1, 4, none⟩ = some (.slice none 0 0) := G.out.res.cell (i := 4) rfl
      have z4 := G.out.res.thaw 4
      have e5 : wr.cell? ⟨w.heap.size + 1 + 1, 5, none⟩ = some (Value.slice a2 (List.length ls) d2) := G.out.box.cell (i := 5) rfl
      have r5 : wr.cell? ⟨w.heap.size + 1, 5, none⟩ = some (.slice none 0 0) := G.out.res.cell (i := 5) rfl
      have z5 := G.out.res.thaw 5
      have qb := G.out.box.lt
      have qr := G.out.res.lt
      have HOz := hidP (only_offp (only_offp (only_offp (only_offp (only_offp (only_offp (G.out.only) (Offp.of_only ((Only.refl (w.heap.size + 1) _).set 0 (Value.slice rA (List.length rs) rc))) (fun x e => by subst e; omega)) (Offp.of_only ((Only.refl (w.heap.size + 1) _).set 1 (Value.slice mA (List.length ms) mc))) (fun x e => by subst e; omega)) (Offp.of_only ((Only.refl (w.heap.size + 1) _).set 2 (Value.slice gA (List.length gs) gc))) (fun x e => by subst e; omega)) (Offp.of_only ((Only.refl (w.heap.size + 1) _).set 3 (Value.int .i64 (t4 : Int)))) (fun x e => by subst e; omega)) (Offp.of_only ((Only.refl (w.heap.size + 1) _).set 4 (Value.slice a1 (List.length ds) d1))) (fun x e => by subst e; omega)) (Offp.of_only ((Only.refl (w.heap.size + 1) _).set 5 (Value.slice a2 (List.length ls) d2))) (fun x e => by subst e; omega))
      have HCz := hidP (Rd.offp (Rd.offp (Rd.offp (Rd.offp (Rd.offp (Rd.offp (G.out.rd) (Offp.of_only ((Only.refl (w.heap.size + 1) _).set 0 (Value.slice rA (List.length rs) rc))) (by show r ≠ _; omega) Hfar0.out) (Offp.of_only ((Only.refl (w.heap.size + 1) _).set 1 (Value.slice mA (List.length ms) mc))) (by show r ≠ _; omega) Hfar0.out) (Offp.of_only ((Only.refl (w.heap.size + 1) _).set 2 (Value.slice gA (List.length gs) gc))) (by show r ≠ _; omega) Hfar0.out) (Offp.of_only ((Only.refl (w.heap.size + 1) _).set 3 (Value.int .i64 (t4 : Int)))) (by show r ≠ _; omega) Hfar0.out) (Offp.of_only ((Only.refl (w.heap.size + 1) _).set 4 (Value.slice a1 (List.length ds) d1))) (by show r ≠ _; omega) Hfar0.out) (Offp.of_only ((Only.refl (w.heap.size + 1) _).set 5 (Value.slice a2 (List.length ls) d2))) (by show r ≠ _; omega) Hfar0.out)
      have M1 := hidP (owns_only' (owns_only' (owns_only' (owns_only' (owns_only' (owns_only' (G.out.o1) ((Only.refl (w.heap.size + 1) _).set 0 (Value.slice rA (List.length rs) rc)) (by omega)) ((Only.refl (w.heap.size + 1) _).set 1 (Value.slice mA (List.length ms) mc)) (by omega)) ((Only.refl (w.heap.size + 1) _).set 2 (Value.slice gA (List.length gs) gc)) (by omega)) ((Only.refl (w.heap.size + 1) _).set 3 (Value.int .i64 (t4 : Int))) (by omega)) ((Only.refl (w.heap.size + 1) _).set 4 (Value.slice a1 (List.length ds) d1)) (by omega)) ((Only.refl (w.heap.size + 1) _).set 5 (Value.slice a2 (List.length ls) d2)) (by omega))
      have M2 := hidP (owns_only' (owns_only' (owns_only' (owns_only' (owns_only' (owns_only' (G.out.o2) ((Only.refl (w.heap.size + 1) _).set 0 (Value.slice rA (List.length rs) rc)) (by omega)) ((Only.refl (w.heap.size + 1) _).set 1 (Value.slice mA (List.length ms) mc)) (by omega)) ((Only.refl (w.heap.size + 1) _).set 2 (Value.slice gA (List.length gs) gc)) (by omega)) ((Only.refl (w.heap.size + 1) _).set 3 (Value.int .i64 (t4 : Int))) (by omega)) ((Only.refl (w.heap.size + 1) _).set 4 (Value.slice a1 (List.length ds) d1)) (by omega)) ((Only.refl (w.heap.size + 1) _).set 5 (Value.slice a2 (List.length ls) d2)) (by omega))
      have ko : Offp (fun y => y = w.heap.size + 1) wr _ := ((((((Offp.refl _ _).set (S := fun y => y = w.heap.size + 1) rfl 0 (Value.slice rA (List.length rs) rc)).set (S := fun y => y = w.heap.size + 1) rfl 1 (Value.slice mA (List.length ms) mc)).set (S := fun y => y = w.heap.size + 1) rfl 2 (Value.slice gA (List.length gs) gc)).set (S := fun y => y = w.heap.size + 1) rfl 3 (Value.int .i64 (t4 : Int))).set (S := fun y => y = w.heap.size + 1) rfl 4 (Value.slice a1 (List.length ds) d1)).set (S := fun y => y = w.heap.size + 1) rfl 5 (Value.slice a2 (List.length ls) d2)
      have HP := hidP (G.out.stay _ _ _ G.out.pk ko (fun y e => by subst e; exact .inl (by omega)))
      have hD := hidP G.out.dis
      have hsZ := hidP (Nat.le_trans hsB ko.size)
      clear ko G hm hs3' hsB
      go_wp2
      refine bodyPost_ret (v := .agg #[Value.slice rA (List.length rs) rc, Value.slice mA (List.length ms) mc, Value.slice gA (List.length gs) gc, Value.int .i64 (t4 : Int), Value.slice a1 (List.length ds) d1, Value.slice a2 (List.length ls) d2]) (by simp [results, Tryz.results18, go_sem, r0, r1, r2, r3, r4, r5]) rfl ?_
      rw [hNz.out]
      refine ⟨HOz.out, HCz.out, _, rfl, ⟨rA, rc, rs, mA, mc, ms, gA, gc, gs, (t4 : Int), a1, d1, ds, a2, d2, ls⟩, rfl, ?_, kown_make HP.out hsz1.out hsz2.out hsz3.out M1.out M2.out hD.out hsZ.out (by omega)⟩
      simp only [KC.p, Hrm.out, Hmm.out, Hgm.out]
end Go.Proofs.YtjjbbkmedpfenaaGreat.Gen
