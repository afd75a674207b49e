/-
  The program's KeepOf. Condition: at most 1048576 bytes.
-/
import Derived.Test.YtjjbbkmedpfenaaGreatReadAtK
import Derived.Test.YtjjbbkmedpfenaaGreatKpA
import Derived.Test.YtjjbbkmedpfenaaGreatKOkImpl
namespace Go.Proofs.YtjjbbkmedpfenaaGreat.Gen
open Go.ChangeShapes Go.WideShapes Go.ChangeAt Go.RowKit Go.Joins Go.Deep Base
set_option linter.unusedVariables false
set_option linter.unusedSimpArgs false

/-- What KeepOf tells. -/
def ToldK (ro wi le ke : Int) (l : List UInt8) (w : World) (e : Ending) (w' : World) : Prop := Below w.heap.size w w' ∧ ((∃ y : KC, ofK ro wi le ke l = some y.p ∧ KOwn w' y (fun b => w.heap.size ≤ b ∧ b < w'.heap.size) ∧ e = .returned (.tuple #[.agg y.cells, .bool true])) ∨ (ofK ro wi le ke l = none ∧ e = .returned (.tuple #[.agg #[.slice none 0 0, .slice none 0 0, .slice none 0 0, .int .i64 0, .slice none 0 0, .slice none 0 0], .bool false])))
set_option maxRecDepth 100000 in
set_option maxHeartbeats 4000000 in
theorem keepOf1_any (ro wi le ke : Int) (hro : I64 ro) (Bs : Nat) (r : Nat) (A : Option Addr) (cap : Nat) (l : List UInt8) (i : Int) (hl : l.length ≤ 1048576) (hcap : l.length ≤ cap) (hcm : cap ≤ 9223372036854775807) (w : World) (hBs : Blk w Bs 34 #[.int .i64 ro, .int .i64 wi, .int .i64 le, .int .i64 ke]) (h : Rd w r A cap l i) :
    Calls Tryz.prog 17 #[.pointer (some ⟨r, 0, none⟩), .pointer (some ⟨Bs, 0, none⟩)] w fun e w' => Reads (isKp w.heap.size) r A cap l w e w' (getKp ro.toNat l i) := by
  obtain ⟨hr, hfar⟩ := h.far'
  have Hfar0 : Hid (l = [] ∨ ∀ c o, A = some ⟨c, o, none⟩ → c ≠ w.heap.size) := hidP (hfar.imp id fun h c o e => by have := h c o e; omega)
  have hbl := hBs.lt
  have b0 : w.cell? ⟨Bs, 0, none⟩ = some (.int .i64 ro) := hBs.cell (i := 0) rfl
  have pr0 := hidP (Blk.new w 31 #[.slice none 0 0, .slice none 0 0, .slice none 0 0, .int .i64 0, .slice none 0 0, .slice none 0 0])
  have HC0 := hidP (h.below (alloc0 (Below.refl _ w) (.cells #[.slice none 0 0, .slice none 0 0, .slice none 0 0, .int .i64 0, .slice none 0 0, .slice none 0 0] 31)))
  have HO0 : Hid (Only r w (w.alloc (.cells #[.slice none 0 0, .slice none 0 0, .slice none 0 0, .int .i64 0, .slice none 0 0, .slice none 0 0] 31))) := (Only.refl r w).below (alloc0 (Below.refl _ w) _)
  have Hro := hidP hro
  clear h hfar hBs hro
  go_enter Tryz.func17, Tryz.ntmps17
  go_wp2_with fail
  refine (readKp_any ro Hro.out r A cap l i hl hcap hcm _ HC0.out).mono ?_
  intro e w1 h1
  cases hx1 : getKp ro.toNat l i with
  | none =>
    rw [hx1] at h1
    obtain ⟨o1, t, v, rfl⟩ := h1
    refine ⟨rfl, ?_⟩
    rw [hx1]
    exact ⟨only_trans HO0.out o1, t, v, rfl⟩
  | some p =>
  obtain ⟨x, c1⟩ := p
  rw [hx1] at h1
  obtain ⟨o1, h1, v, rfl, ⟨rA, rc, rs, mA, mc, ms, gA, gc, gs, time, dA, dc, ds, lA, lc, ls⟩, rfl, rfl, hk⟩ := h1
  simp only [KC.cells]
  have O0 := only_trans HO0.out o1
  have g1 := pr0.out.only o1 (by omega)
  have r0 : w1.cell? ⟨w.heap.size, 0, none⟩ = some (.slice none 0 0) := g1.cell (i := 0) rfl
  have z0 := g1.thaw 0
  have r1 : w1.cell? ⟨w.heap.size, 1, none⟩ = some (.slice none 0 0) := g1.cell (i := 1) rfl
  have z1 := g1.thaw 1
  have r2 : w1.cell? ⟨w.heap.size, 2, none⟩ = some (.slice none 0 0) := g1.cell (i := 2) rfl
  have z2 := g1.thaw 2
  have r3 : w1.cell? ⟨w.heap.size, 3, none⟩ = some (.int .i64 0) := g1.cell (i := 3) rfl
  have z3 := g1.thaw 3
  have r4 : w1.cell? ⟨w.heap.size, 4, none⟩ = some (.slice none 0 0) := g1.cell (i := 4) rfl
  have z4 := g1.thaw 4
  have r5 : w1.cell? ⟨w.heap.size, 5, none⟩ = some (.slice none 0 0) := g1.cell (i := 5) rfl
  have z5 := g1.thaw 5
  have qr := g1.lt
  have oA := (((((((Only.refl (w.heap.size) w1).set 0 (.slice rA (List.length rs) rc)).set 1 (.slice mA (List.length ms) mc)).set 2 (.slice gA (List.length gs) gc)).set 3 (.int .i64 time)).set 4 (.slice dA (List.length ds) dc)).set 5 (.slice lA (List.length ls) lc))
  have HOz := hidP (only_offp O0 (Offp.of_only oA) (fun x e => by subst e; exact Nat.le_refl _))
  have HCz := hidP (Rd.offp h1 (Offp.of_only oA) (by show ¬ _ = _; omega) (Hfar0.out.imp id fun f c o e => f c o e))
  have hsz := oA.size
  have HG := hidP ((hk.offp (Offp.of_only oA) (fun y hy e => by have h5 := hy.1; simp only [World.size_alloc] at h5; omega)).mono (T := fun b => w.heap.size ≤ b ∧ b < (((((((w1.setCell ⟨w.heap.size, 0, none⟩ (.slice rA (List.length rs) rc)).setCell ⟨w.heap.size, 1, none⟩ (.slice mA (List.length ms) mc)).setCell ⟨w.heap.size, 2, none⟩ (.slice gA (List.length gs) gc)).setCell ⟨w.heap.size, 3, none⟩ (.int .i64 time)).setCell ⟨w.heap.size, 4, none⟩ (.slice dA (List.length ds) dc)).setCell ⟨w.heap.size, 5, none⟩ (.slice lA (List.length ls) lc))).heap.size) (fun y hy => ⟨by have h5 := hy.1; simp only [World.size_alloc] at h5; omega, Nat.lt_of_lt_of_le hy.2 hsz⟩))
  clear O0 g1 h1 o1 hk oA HC0 HO0 pr0 hsz
  go_wp2
  refine bodyPost_ret (v := .agg #[.slice rA (List.length rs) rc, .slice mA (List.length ms) mc, .slice gA (List.length gs) gc, .int .i64 time, .slice dA (List.length ds) dc, .slice lA (List.length ls) lc]) (by simp [results, Tryz.results17, go_sem, r0, r1, r2, r3, r4, r5]) rfl ?_
  rw [hx1]
  exact ⟨HOz.out, HCz.out, _, rfl, (⟨rA, rc, rs, mA, mc, ms, gA, gc, gs, time, dA, dc, ds, lA, lc, ls⟩ : KC), rfl, rfl, HG.out⟩

set_option maxRecDepth 100000 in
set_option maxHeartbeats 1600000 in
theorem implKeepOf_any (ro wi le ke : Int) (hro : I64 ro) (A : Option Addr) (cap : Nat) (l : List UInt8) (hl : l.length ≤ 1048576) (hcap : l.length ≤ cap) (hcm : cap ≤ 9223372036854775807) (w : World) (hA : At w A l) :
    Calls Tryz.prog 7 #[.agg #[.int .i64 ro, .int .i64 wi, .int .i64 le, .int .i64 ke], .slice A l.length cap] w fun e w' => ToldK ro wi le ke l w e w' := by
  have hbl := alloc0 (alloc0 (Below.refl _ w) (.cells #[.int .i64 ro, .int .i64 wi, .int .i64 le, .int .i64 ke] 34)) (.cells #[.slice none 0 0, .slice none 0 0, .slice none 0 0, .int .i64 0, .slice none 0 0, .slice none 0 0] 31)
  have bs0 := (Blk.new w 34 #[.int .i64 ro, .int .i64 wi, .int .i64 le, .int .i64 ke]).alloc (.cells #[.slice none 0 0, .slice none 0 0, .slice none 0 0, .int .i64 0, .slice none 0 0, .slice none 0 0] 31)
  have p0 := Blk.new (w.alloc (.cells #[.int .i64 ro, .int .i64 wi, .int .i64 le, .int .i64 ke] 34)) 31 #[.slice none 0 0, .slice none 0 0, .slice none 0 0, .int .i64 0, .slice none 0 0, .slice none 0 0]
  rw [World.size_alloc] at p0
  have hcf : ∀ (p : Value) (W : World), (callFunc 17 (#[p] ++ #[.pointer (some ⟨w.heap.size, 0, none⟩)])).run Tryz.prog W = .ok (.enter 17 (#[p] ++ #[.pointer (some ⟨w.heap.size, 0, none⟩)])) W := fun p W => by simp [go_sem]
  have hcl : ∀ (W : World) (r : Nat), Below ((w.alloc (.cells #[.int .i64 ro, .int .i64 wi, .int .i64 le, .int .i64 ke] 34)).alloc (.cells #[.slice none 0 0, .slice none 0 0, .slice none 0 0, .int .i64 0, .slice none 0 0, .slice none 0 0] 31)).heap.size ((w.alloc (.cells #[.int .i64 ro, .int .i64 wi, .int .i64 le, .int .i64 ke] 34)).alloc (.cells #[.slice none 0 0, .slice none 0 0, .slice none 0 0, .int .i64 0, .slice none 0 0, .slice none 0 0] 31)) W → Rd W r A cap l 0 → Calls Tryz.prog 17 (#[.pointer (some ⟨r, 0, none⟩)] ++ #[.pointer (some ⟨w.heap.size, 0, none⟩)]) W fun e W' => Reads (isKp W.heap.size) r A cap l W e W' (getKp ro.toNat l 0) := by
    intro W r hb hrd
    exact keepOf1_any ro wi le ke hro w.heap.size r A cap l 0 hl hcap hcm W (bs0.below hb bs0.lt) hrd
  have hR := hidP (readAtK_any (getKp ro.toNat l 0) 17 #[.pointer (some ⟨w.heap.size, 0, none⟩)] A cap l 0 ⟨by omega, by omega⟩ ((w.alloc (.cells #[.int .i64 ro, .int .i64 wi, .int .i64 le, .int .i64 ke] 34)).alloc (.cells #[.slice none 0 0, .slice none 0 0, .slice none 0 0, .int .i64 0, .slice none 0 0, .slice none 0 0] 31)) (hA.below hbl) hcf hcl)
  have hs0 : Hid (((w.alloc (.cells #[.int .i64 ro, .int .i64 wi, .int .i64 le, .int .i64 ke] 34)).alloc (.cells #[.slice none 0 0, .slice none 0 0, .slice none 0 0, .int .i64 0, .slice none 0 0, .slice none 0 0] 31)).heap.size = w.heap.size + 2) := hidP (by simp)
  have Hp0 := hidP p0
  have Hb0 := hidP bs0
  have Hbl := hidP hbl
  clear hA p0 hbl bs0 hro hcf hcl
  go_enter Tryz.func7, Tryz.ntmps7
  go_wp2_with fail
  refine hR.out.mono ?_
  rintro e w1 ⟨g1, h1⟩
  have P1 := hidP (Hp0.out.below g1 Hp0.out.lt)
  have S1 := hidP (Hb0.out.below g1 Hb0.out.lt)
  have B1 := hidP (via0 g1 Hbl.out)
  clear g1 hR Hbl Hp0 Hb0
  rcases h1 with ⟨rA, rc, rs, mA, mc, ms, gA, gc, gs, time, dA, dc, ds, lA, lc, ls, c, hg, hown, rfl⟩ | ⟨hg, rfl⟩
  · have hask := hidP (ask_p (KC.of_p _).symm (kp_ask (i := 0) hl hg))
    have hkb := hidP (keepB_p (y := (⟨rA, rc, rs, mA, mc, ms, gA, gc, gs, time, dA, dc, ds, lA, lc, ls⟩ : KC)) (x := KC.of (⟨rA, rc, rs, mA, mc, ms, gA, gc, gs, time, dA, dc, ds, lA, lc, ls⟩ : KC).p) (KC.of_p _).symm ro wi le ke)
    have HK := hidP (hown.below (alloc0 (Below.refl _ w1) (.cells #[.slice rA (List.length rs) rc, .slice mA (List.length ms) mc, .slice gA (List.length gs) gc, .int .i64 time, .slice dA (List.length ds) dc, .slice lA (List.length ls) lc] 31)))
    have P2 := hidP (P1.out.alloc (.cells #[.slice rA (List.length rs) rc, .slice mA (List.length ms) mc, .slice gA (List.length gs) gc, .int .i64 time, .slice dA (List.length ds) dc, .slice lA (List.length ls) lc] 31))
    have S2 := hidP (S1.out.alloc (.cells #[.slice rA (List.length rs) rc, .slice mA (List.length ms) mc, .slice gA (List.length gs) gc, .int .i64 time, .slice dA (List.length ds) dc, .slice lA (List.length ls) lc] 31))
    have X2 := hidP (Blk.new w1 31 #[.slice rA (List.length rs) rc, .slice mA (List.length ms) mc, .slice gA (List.length gs) gc, .int .i64 time, .slice dA (List.length ds) dc, .slice lA (List.length ls) lc])
    have B2 := hidP (alloc0 B1.out (.cells #[.slice rA (List.length rs) rc, .slice mA (List.length ms) mc, .slice gA (List.length gs) gc, .int .i64 time, .slice dA (List.length ds) dc, .slice lA (List.length ls) lc] 31))
    have HN0 := hidP hg
    have q1 := P1.out.lt
    clear S1 hown hg
    by_cases hc : c = l.length
    · clear P1 B1
      subst hc
      have hc'' : ((l.length : Int) != (l.length : Int)) = false := by simp
      have k0 : (w1.alloc (.cells #[.slice rA (List.length rs) rc, .slice mA (List.length ms) mc, .slice gA (List.length gs) gc, .int .i64 time, .slice dA (List.length ds) dc, .slice lA (List.length ls) lc] 31)).cell? ⟨w1.heap.size, 0, none⟩ = some (.slice rA (List.length rs) rc) := X2.out.cell (i := 0) rfl
      have k1 : (w1.alloc (.cells #[.slice rA (List.length rs) rc, .slice mA (List.length ms) mc, .slice gA (List.length gs) gc, .int .i64 time, .slice dA (List.length ds) dc, .slice lA (List.length ls) lc] 31)).cell? ⟨w1.heap.size, 1, none⟩ = some (.slice mA (List.length ms) mc) := X2.out.cell (i := 1) rfl
      have k2 : (w1.alloc (.cells #[.slice rA (List.length rs) rc, .slice mA (List.length ms) mc, .slice gA (List.length gs) gc, .int .i64 time, .slice dA (List.length ds) dc, .slice lA (List.length ls) lc] 31)).cell? ⟨w1.heap.size, 2, none⟩ = some (.slice gA (List.length gs) gc) := X2.out.cell (i := 2) rfl
      have k3 : (w1.alloc (.cells #[.slice rA (List.length rs) rc, .slice mA (List.length ms) mc, .slice gA (List.length gs) gc, .int .i64 time, .slice dA (List.length ds) dc, .slice lA (List.length ls) lc] 31)).cell? ⟨w1.heap.size, 3, none⟩ = some (.int .i64 time) := X2.out.cell (i := 3) rfl
      have k4 : (w1.alloc (.cells #[.slice rA (List.length rs) rc, .slice mA (List.length ms) mc, .slice gA (List.length gs) gc, .int .i64 time, .slice dA (List.length ds) dc, .slice lA (List.length ls) lc] 31)).cell? ⟨w1.heap.size, 4, none⟩ = some (.slice dA (List.length ds) dc) := X2.out.cell (i := 4) rfl
      have k5 : (w1.alloc (.cells #[.slice rA (List.length rs) rc, .slice mA (List.length ms) mc, .slice gA (List.length gs) gc, .int .i64 time, .slice dA (List.length ds) dc, .slice lA (List.length ls) lc] 31)).cell? ⟨w1.heap.size, 5, none⟩ = some (.slice lA (List.length ls) lc) := X2.out.cell (i := 5) rfl
      have s0 : (w1.alloc (.cells #[.slice rA (List.length rs) rc, .slice mA (List.length ms) mc, .slice gA (List.length gs) gc, .int .i64 time, .slice dA (List.length ds) dc, .slice lA (List.length ls) lc] 31)).cell? ⟨w.heap.size, 0, none⟩ = some (.int .i64 ro) := S2.out.cell (i := 0) rfl
      have s1 : (w1.alloc (.cells #[.slice rA (List.length rs) rc, .slice mA (List.length ms) mc, .slice gA (List.length gs) gc, .int .i64 time, .slice dA (List.length ds) dc, .slice lA (List.length ls) lc] 31)).cell? ⟨w.heap.size, 1, none⟩ = some (.int .i64 wi) := S2.out.cell (i := 1) rfl
      have s2 : (w1.alloc (.cells #[.slice rA (List.length rs) rc, .slice mA (List.length ms) mc, .slice gA (List.length gs) gc, .int .i64 time, .slice dA (List.length ds) dc, .slice lA (List.length ls) lc] 31)).cell? ⟨w.heap.size, 2, none⟩ = some (.int .i64 le) := S2.out.cell (i := 2) rfl
      have s3 : (w1.alloc (.cells #[.slice rA (List.length rs) rc, .slice mA (List.length ms) mc, .slice gA (List.length gs) gc, .int .i64 time, .slice dA (List.length ds) dc, .slice lA (List.length ls) lc] 31)).cell? ⟨w.heap.size, 3, none⟩ = some (.int .i64 ke) := S2.out.cell (i := 3) rfl
      go_wp2_with fail
      refine (implKeepOk_any ro wi le ke (⟨rA, rc, rs, mA, mc, ms, gA, gc, gs, time, dA, dc, ds, lA, lc, ls⟩ : KC) hask.out _ HK.out.at).mono ?_
      rintro e w2 ⟨rfl, g2⟩
      have P3 := hidP (P2.out.below g2 P2.out.lt)
      have X3 := X2.out.below g2 X2.out.lt
      have B3 := hidP (via0 g2 B2.out)
      have HK3 := hidP (HK.out.below g2)
      have g2s := g2.size
      simp only [World.size_alloc] at g2s
      clear g2 P2 S2 X2 B2 HK s0 s1 s2 s3 k0 k1 k2 k3 k4 k5
      cases hb : keepB ro wi le ke (⟨rA, rc, rs, mA, mc, ms, gA, gc, gs, time, dA, dc, ds, lA, lc, ls⟩ : KC) with
      | true =>
        have HN : Hid (ofK ro wi le ke l = some (⟨rA, rc, rs, mA, mc, ms, gA, gc, gs, time, dA, dc, ds, lA, lc, ls⟩ : KC).p) := by
          show _ = _
          unfold ofK
          rw [HN0.out]
          show (if _ then _ else _) = _
          rw [if_pos ⟨rfl, by rw [← hkb.out]; exact hb⟩]
        have k0 : w2.cell? ⟨w1.heap.size, 0, none⟩ = some (.slice rA (List.length rs) rc) := X3.cell (i := 0) rfl
        have k1 : w2.cell? ⟨w1.heap.size, 1, none⟩ = some (.slice mA (List.length ms) mc) := X3.cell (i := 1) rfl
        have k2 : w2.cell? ⟨w1.heap.size, 2, none⟩ = some (.slice gA (List.length gs) gc) := X3.cell (i := 2) rfl
        have k3 : w2.cell? ⟨w1.heap.size, 3, none⟩ = some (.int .i64 time) := X3.cell (i := 3) rfl
        have k4 : w2.cell? ⟨w1.heap.size, 4, none⟩ = some (.slice dA (List.length ds) dc) := X3.cell (i := 4) rfl
        have k5 : w2.cell? ⟨w1.heap.size, 5, none⟩ = some (.slice lA (List.length ls) lc) := X3.cell (i := 5) rfl
        have rr0 : w2.cell? ⟨w.heap.size + 1, 0, none⟩ = some (.slice none 0 0) := P3.out.cell (i := 0) rfl
        have zz0 := P3.out.thaw 0
        have rr1 : w2.cell? ⟨w.heap.size + 1, 1, none⟩ = some (.slice none 0 0) := P3.out.cell (i := 1) rfl
        have zz1 := P3.out.thaw 1
        have rr2 : w2.cell? ⟨w.heap.size + 1, 2, none⟩ = some (.slice none 0 0) := P3.out.cell (i := 2) rfl
        have zz2 := P3.out.thaw 2
        have rr3 : w2.cell? ⟨w.heap.size + 1, 3, none⟩ = some (.int .i64 0) := P3.out.cell (i := 3) rfl
        have zz3 := P3.out.thaw 3
        have rr4 : w2.cell? ⟨w.heap.size + 1, 4, none⟩ = some (.slice none 0 0) := P3.out.cell (i := 4) rfl
        have zz4 := P3.out.thaw 4
        have rr5 : w2.cell? ⟨w.heap.size + 1, 5, none⟩ = some (.slice none 0 0) := P3.out.cell (i := 5) rfl
        have zz5 := P3.out.thaw 5
        have qs := P3.out.lt
        have qx := X3.lt
        have oo := (((((((Only.refl (w.heap.size + 1) w2).set 0 (.slice rA (List.length rs) rc)).set 1 (.slice mA (List.length ms) mc)).set 2 (.slice gA (List.length gs) gc)).set 3 (.int .i64 time)).set 4 (.slice dA (List.length ds) dc)).set 5 (.slice lA (List.length ls) lc))
        have HBz := hidP (B3.out.trans (oo.toBelow (by omega) B3.out.size))
        have osz := oo.size
        have HKz := hidP ((HK3.out.offp (Offp.of_only oo) (fun y hy e => by have h5 := hy.1; have := hs0.out; omega)).mono (T := fun b => w.heap.size ≤ b ∧ b < (((((((w2.setCell ⟨w.heap.size + 1, 0, none⟩ (.slice rA (List.length rs) rc)).setCell ⟨w.heap.size + 1, 1, none⟩ (.slice mA (List.length ms) mc)).setCell ⟨w.heap.size + 1, 2, none⟩ (.slice gA (List.length gs) gc)).setCell ⟨w.heap.size + 1, 3, none⟩ (.int .i64 time)).setCell ⟨w.heap.size + 1, 4, none⟩ (.slice dA (List.length ds) dc)).setCell ⟨w.heap.size + 1, 5, none⟩ (.slice lA (List.length ls) lc))).heap.size) (fun y hy => ⟨by have h5 := hy.1; have := hs0.out; omega, by have h5 := hy.2; omega⟩))
        clear oo P3 X3 B3 HK3 HN0 hkb hask hs0 osz
        go_wp2
        exact bodyPost_ret (v := .tuple #[.agg #[.slice rA (List.length rs) rc, .slice mA (List.length ms) mc, .slice gA (List.length gs) gc, .int .i64 time, .slice dA (List.length ds) dc, .slice lA (List.length ls) lc], .bool true]) (by simp [results, Tryz.results7, go_sem, rr0, rr1, rr2, rr3, rr4, rr5]) rfl ⟨HBz.out, .inl ⟨(⟨rA, rc, rs, mA, mc, ms, gA, gc, gs, time, dA, dc, ds, lA, lc, ls⟩ : KC), HN.out, HKz.out, rfl⟩⟩
      | false =>
        have HN : Hid (ofK ro wi le ke l = none) := by
          show _ = _
          unfold ofK
          rw [HN0.out]
          show (if _ then _ else _) = _
          rw [if_neg (fun h => by rw [← hkb.out, hb] at h; exact absurd h.2 (by simp))]
        clear X3 HK3 HN0 hkb hask hs0
        have rr0 : w2.cell? ⟨w.heap.size + 1, 0, none⟩ = some (.slice none 0 0) := P3.out.cell (i := 0) rfl
        have zz0 := P3.out.thaw 0
        have rr1 : w2.cell? ⟨w.heap.size + 1, 1, none⟩ = some (.slice none 0 0) := P3.out.cell (i := 1) rfl
        have zz1 := P3.out.thaw 1
        have rr2 : w2.cell? ⟨w.heap.size + 1, 2, none⟩ = some (.slice none 0 0) := P3.out.cell (i := 2) rfl
        have zz2 := P3.out.thaw 2
        have rr3 : w2.cell? ⟨w.heap.size + 1, 3, none⟩ = some (.int .i64 0) := P3.out.cell (i := 3) rfl
        have zz3 := P3.out.thaw 3
        have rr4 : w2.cell? ⟨w.heap.size + 1, 4, none⟩ = some (.slice none 0 0) := P3.out.cell (i := 4) rfl
        have zz4 := P3.out.thaw 4
        have rr5 : w2.cell? ⟨w.heap.size + 1, 5, none⟩ = some (.slice none 0 0) := P3.out.cell (i := 5) rfl
        have zz5 := P3.out.thaw 5
        have qs := P3.out.lt
        have oo := (((((((Only.refl (w.heap.size + 1) w2).set 0 (.slice none 0 0)).set 1 (.slice none 0 0)).set 2 (.slice none 0 0)).set 3 (.int .i64 0)).set 4 (.slice none 0 0)).set 5 (.slice none 0 0))
        have HBz := hidP (B3.out.trans (oo.toBelow (by omega) B3.out.size))
        clear oo P3 B3
        go_wp2
        exact bodyPost_ret (v := .tuple #[.agg #[.slice none 0 0, .slice none 0 0, .slice none 0 0, .int .i64 0, .slice none 0 0, .slice none 0 0], .bool false]) (by simp [results, Tryz.results7, go_sem, rr0, rr1, rr2, rr3, rr4, rr5]) rfl ⟨HBz.out, .inr ⟨HN.out, rfl⟩⟩
    · have hc' : ((c : Int) != (l.length : Int)) = true := by
        have : (c : Int) ≠ (l.length : Int) := by omega
        simp [this]
      have HN : Hid (ofK ro wi le ke l = none) := by
        show _ = _
        unfold ofK
        rw [HN0.out]
        show (if _ then _ else _) = _
        rw [if_neg (fun h => hc h.1)]
      clear X2 HK HN0 hkb hask hs0 S2
      have rr0 : w1.cell? ⟨w.heap.size + 1, 0, none⟩ = some (.slice none 0 0) := P1.out.cell (i := 0) rfl
      have zz0 := P1.out.thaw 0
      have rr1 : w1.cell? ⟨w.heap.size + 1, 1, none⟩ = some (.slice none 0 0) := P1.out.cell (i := 1) rfl
      have zz1 := P1.out.thaw 1
      have rr2 : w1.cell? ⟨w.heap.size + 1, 2, none⟩ = some (.slice none 0 0) := P1.out.cell (i := 2) rfl
      have zz2 := P1.out.thaw 2
      have rr3 : w1.cell? ⟨w.heap.size + 1, 3, none⟩ = some (.int .i64 0) := P1.out.cell (i := 3) rfl
      have zz3 := P1.out.thaw 3
      have rr4 : w1.cell? ⟨w.heap.size + 1, 4, none⟩ = some (.slice none 0 0) := P1.out.cell (i := 4) rfl
      have zz4 := P1.out.thaw 4
      have rr5 : w1.cell? ⟨w.heap.size + 1, 5, none⟩ = some (.slice none 0 0) := P1.out.cell (i := 5) rfl
      have zz5 := P1.out.thaw 5
      have qs := P1.out.lt
      have oo := (((((((Only.refl (w.heap.size + 1) w1).set 0 (.slice none 0 0)).set 1 (.slice none 0 0)).set 2 (.slice none 0 0)).set 3 (.int .i64 0)).set 4 (.slice none 0 0)).set 5 (.slice none 0 0))
      have HBz := hidP (alloc0 (B1.out.trans (oo.toBelow (by omega) B1.out.size)) (.cells #[.slice rA (List.length rs) rc, .slice mA (List.length ms) mc, .slice gA (List.length gs) gc, .int .i64 time, .slice dA (List.length ds) dc, .slice lA (List.length ls) lc] 31))
      clear oo P2 B2 P1 B1
      go_wp2
      exact bodyPost_ret (v := .tuple #[.agg #[.slice none 0 0, .slice none 0 0, .slice none 0 0, .int .i64 0, .slice none 0 0, .slice none 0 0], .bool false]) (by simp [results, Tryz.results7, go_sem, rr0, rr1, rr2, rr3, rr4, rr5, q1, Nat.ne_of_lt q1, Nat.ne_of_gt q1]) rfl ⟨HBz.out, .inr ⟨HN.out, rfl⟩⟩
  · have HN : Hid (ofK ro wi le ke l = none) := by
      show _ = _
      unfold ofK
      rw [hg]
    have P2 := hidP (P1.out.alloc (.cells #[.slice none 0 0, .slice none 0 0, .slice none 0 0, .int .i64 0, .slice none 0 0, .slice none 0 0] 31))
    have B2 := hidP (alloc0 B1.out (.cells #[.slice none 0 0, .slice none 0 0, .slice none 0 0, .int .i64 0, .slice none 0 0, .slice none 0 0] 31))
    have q1 := P1.out.lt
    clear hg S1
    have rr0 : w1.cell? ⟨w.heap.size + 1, 0, none⟩ = some (.slice none 0 0) := P1.out.cell (i := 0) rfl
    have zz0 := P1.out.thaw 0
    have rr1 : w1.cell? ⟨w.heap.size + 1, 1, none⟩ = some (.slice none 0 0) := P1.out.cell (i := 1) rfl
    have zz1 := P1.out.thaw 1
    have rr2 : w1.cell? ⟨w.heap.size + 1, 2, none⟩ = some (.slice none 0 0) := P1.out.cell (i := 2) rfl
    have zz2 := P1.out.thaw 2
    have rr3 : w1.cell? ⟨w.heap.size + 1, 3, none⟩ = some (.int .i64 0) := P1.out.cell (i := 3) rfl
    have zz3 := P1.out.thaw 3
    have rr4 : w1.cell? ⟨w.heap.size + 1, 4, none⟩ = some (.slice none 0 0) := P1.out.cell (i := 4) rfl
    have zz4 := P1.out.thaw 4
    have rr5 : w1.cell? ⟨w.heap.size + 1, 5, none⟩ = some (.slice none 0 0) := P1.out.cell (i := 5) rfl
    have zz5 := P1.out.thaw 5
    have qs := P1.out.lt
    have oo := (((((((Only.refl (w.heap.size + 1) w1).set 0 (.slice none 0 0)).set 1 (.slice none 0 0)).set 2 (.slice none 0 0)).set 3 (.int .i64 0)).set 4 (.slice none 0 0)).set 5 (.slice none 0 0))
    have HBz := hidP (alloc0 (B1.out.trans (oo.toBelow (by omega) B1.out.size)) (.cells #[.slice none 0 0, .slice none 0 0, .slice none 0 0, .int .i64 0, .slice none 0 0, .slice none 0 0] 31))
    clear oo P2 B2 P1 B1
    go_wp2
    exact bodyPost_ret (v := .tuple #[.agg #[.slice none 0 0, .slice none 0 0, .slice none 0 0, .int .i64 0, .slice none 0 0, .slice none 0 0], .bool false]) (by simp [results, Tryz.results7, go_sem, rr0, rr1, rr2, rr3, rr4, rr5, q1, Nat.ne_of_lt q1, Nat.ne_of_gt q1]) rfl ⟨HBz.out, .inr ⟨HN.out, rfl⟩⟩
end Go.Proofs.YtjjbbkmedpfenaaGreat.Gen
