/-
  The specification's KeepOf: it tells what the program tells. Condition: at most 1048576 bytes.
-/
import Derived.Test.YtjjbbkmedpfenaaGreatKOfI
import Derived.Test.YtjjbbkmedpfenaaGreatK7K2
import Derived.Test.YtjjbbkmedpfenaaGreatKOkSpec
namespace Go.Proofs.YtjjbbkmedpfenaaGreat.Gen
open Go.ChangeShapes Go.WideShapes Go.ChangeAt Go.RowKit Go.Joins Go.Deep Base
set_option linter.unusedVariables false
set_option linter.unusedSimpArgs false

theorem setB_ro {ro wi le ke : Int} (h : setB ro wi le ke = true) : 1 ≤ ro ∧ ro ≤ 4 := by
  simp [setB, inB] at h
  omega
set_option maxRecDepth 100000 in
set_option maxHeartbeats 1600000 in
theorem specKeepOf_any (ro wi le ke : Int) (A : Option Addr) (cap : Nat) (l : List UInt8) (hl : l.length ≤ 1048576) (hcap : l.length ≤ cap) (hcm : cap ≤ 9223372036854775807) (w : World) (hA : At w A l) :
    Calls Tryz.prog 4 #[.agg #[.int .i64 ro, .int .i64 wi, .int .i64 le, .int .i64 ke], .slice A l.length cap] w fun e w' => ToldK ro wi le ke l w e w' := by
  have hbl := alloc0 (alloc0 (Below.refl _ w) (.cells #[.int .i64 ro, .int .i64 wi, .int .i64 le, .int .i64 ke] 34)) (.cells #[.slice none 0 0, .slice none 0 0, .slice none 0 0, .int .i64 0, .slice none 0 0, .slice none 0 0] 31)
  have bs0 := (Blk.new w 34 #[.int .i64 ro, .int .i64 wi, .int .i64 le, .int .i64 ke]).alloc (.cells #[.slice none 0 0, .slice none 0 0, .slice none 0 0, .int .i64 0, .slice none 0 0, .slice none 0 0] 31)
  have p0 := Blk.new (w.alloc (.cells #[.int .i64 ro, .int .i64 wi, .int .i64 le, .int .i64 ke] 34)) 31 #[.slice none 0 0, .slice none 0 0, .slice none 0 0, .int .i64 0, .slice none 0 0, .slice none 0 0]
  rw [World.size_alloc] at p0
  have Hp0 := hidP p0
  have Hb0 := hidP bs0
  have Hbl := hidP hbl
  have HA := hidP (hA.below hbl)
  clear hA p0 hbl bs0
  go_enter Tryz.func4, Tryz.ntmps4
  go_wp2_with fail
  refine (specSetup_any ro wi le ke _).mono ?_
  rintro e w1 ⟨rfl, g1⟩
  have P1 := hidP (Hp0.out.below g1 Hp0.out.lt)
  have S1 := hidP (Hb0.out.below g1 Hb0.out.lt)
  have B1 := hidP (via0 g1 Hbl.out)
  have A1 := hidP (HA.out.below g1)
  have g1s := g1.size
  simp only [World.size_alloc] at g1s
  clear g1 Hbl Hp0 Hb0 HA
  cases hset : setB ro wi le ke with
  | false =>
    have HN : Hid (ofK ro wi le ke l = none) := hidP (ofK_set hset)
    clear S1 A1
    have rr0 : w1.cell? ⟨w.heap.size + 1, 0, none⟩ = some (.slice none 0 0) := P1.out.cell (i := 0) rfl
    have zz0 := P1.out.thaw 0
    have rr1 : w1.cell? ⟨w.heap.size + 1, 1, none⟩ = some (.slice none 0 0) := P1.out.cell (i := 1) rfl
    have zz1 := P1.out.thaw 1
    have rr2 : w1.cell? ⟨w.heap.size + 1, 2, none⟩ = some (.slice none 0 0) := P1.out.cell (i := 2) rfl
    have zz2 := P1.out.thaw 2
    have rr3 : w1.cell? ⟨w.heap.size + 1, 3, none⟩ = some (.int .i64 0) := P1.out.cell (i := 3) rfl
    have zz3 := P1.out.thaw 3
    have rr4 : w1.cell? ⟨w.heap.size + 1, 4, none⟩ = some (.slice none 0 0) := P1.out.cell (i := 4) rfl
    have zz4 := P1.out.thaw 4
    have rr5 : w1.cell? ⟨w.heap.size + 1, 5, none⟩ = some (.slice none 0 0) := P1.out.cell (i := 5) rfl
    have zz5 := P1.out.thaw 5
    have qs := P1.out.lt
    have oo := (((((((Only.refl (w.heap.size + 1) w1).set 0 (.slice none 0 0)).set 1 (.slice none 0 0)).set 2 (.slice none 0 0)).set 3 (.int .i64 0)).set 4 (.slice none 0 0)).set 5 (.slice none 0 0))
    have HBz := hidP (B1.out.trans (oo.toBelow (by omega) B1.out.size))
    clear oo P1 B1
    go_wp2
    exact bodyPost_ret (v := .tuple #[.agg #[.slice none 0 0, .slice none 0 0, .slice none 0 0, .int .i64 0, .slice none 0 0, .slice none 0 0], .bool false]) (by simp [results, Tryz.results4, go_sem, rr0, rr1, rr2, rr3, rr4, rr5]) rfl ⟨HBz.out, .inr ⟨HN.out, rfl⟩⟩
  | true =>
  obtain ⟨R, rfl⟩ : ∃ R : Nat, ro = (R : Int) := ⟨ro.toNat, by have := setB_ro hset; omega⟩
  have hR : R ≤ 1000 := by have := setB_ro hset; omega
  have eR : Hid (((R : Nat) : Int).toNat = R) := hidP (Int.toNat_natCast R)
  have P2 := hidP (P1.out.alloc (.cells #[.slice A (List.length l) cap, .int .i64 0, .bool true] 45))
  have S2 := hidP (S1.out.alloc (.cells #[.slice A (List.length l) cap, .int .i64 0, .bool true] 45))
  have B2 := hidP (alloc0 B1.out (.cells #[.slice A (List.length l) cap, .int .i64 0, .bool true] 45))
  have hcu : Hid (CuO (w1.alloc (.cells #[.slice A (List.length l) cap, .int .i64 0, .bool true] 45)) w1.heap.size A cap l (some ((0 : Nat) : Int))) := by
    refine ⟨0, true, Blk.new w1 45 #[.slice A (List.length l) cap, .int .i64 0, .bool true], ?_, ⟨by omega, by omega⟩, rfl⟩
    exact A1.out.imp id fun ⟨b, o, e, hb, hi⟩ => ⟨b, o, e, by simp; omega, by omega, hi.below hb (alloc0 (Below.refl _ w1) _)⟩
  have s0 : (w1.alloc (.cells #[.slice A (List.length l) cap, .int .i64 0, .bool true] 45)).cell? ⟨w.heap.size, 0, none⟩ = some (.int .i64 (R : Int)) := S2.out.cell (i := 0) rfl
  have q1 := P1.out.lt
  clear P1 S1 B1 A1
  go_wp2_with fail
  refine (l7Keep_any R hR w1.heap.size A cap l hl hcap hcm 0 _ hcu.out).mono ?_
  rintro e w3 ⟨x, v, o', rfl, ⟨⟨rA, rc, rs, mA, mc, ms, gA, gc, gs, time, dA, dc, ds, lA, lc, ls⟩, rfl, rfl, hown⟩, o3, hcu3, hrel⟩
  simp only [KC.cells]
  have P3 := hidP (P2.out.only o3 (by omega))
  have S3 := S2.out.only o3 (by omega)
  have B3 := hidP (B2.out.trans (o3.toBelow (by omega) B2.out.size))
  have o3s := o3.size
  simp only [World.size_alloc] at o3s
  obtain ⟨ci, ok, hc⟩ := hcu3
  have C3 := hc.box.alloc (.cells #[.slice rA (List.length rs) rc, .slice mA (List.length ms) mc, .slice gA (List.length gs) gc, .int .i64 time, .slice dA (List.length ds) dc, .slice lA (List.length ls) lc] 31)
  have hst := hc.st
  have HK := hidP (hown.below (alloc0 (Below.refl _ w3) (.cells #[.slice rA (List.length rs) rc, .slice mA (List.length ms) mc, .slice gA (List.length gs) gc, .int .i64 time, .slice dA (List.length ds) dc, .slice lA (List.length ls) lc] 31)))
  have P4 := hidP (P3.out.alloc (.cells #[.slice rA (List.length rs) rc, .slice mA (List.length ms) mc, .slice gA (List.length gs) gc, .int .i64 time, .slice dA (List.length ds) dc, .slice lA (List.length ls) lc] 31))
  have S4 := hidP (S3.alloc (.cells #[.slice rA (List.length rs) rc, .slice mA (List.length ms) mc, .slice gA (List.length gs) gc, .int .i64 time, .slice dA (List.length ds) dc, .slice lA (List.length ls) lc] 31))
  have X4 := hidP (Blk.new w3 31 #[.slice rA (List.length rs) rc, .slice mA (List.length ms) mc, .slice gA (List.length gs) gc, .int .i64 time, .slice dA (List.length ds) dc, .slice lA (List.length ls) lc])
  have B4 := hidP (alloc0 B3.out (.cells #[.slice rA (List.length rs) rc, .slice mA (List.length ms) mc, .slice gA (List.length gs) gc, .int .i64 time, .slice dA (List.length ds) dc, .slice lA (List.length ls) lc] 31))
  have c1 : (w3.alloc (.cells #[.slice rA (List.length rs) rc, .slice mA (List.length ms) mc, .slice gA (List.length gs) gc, .int .i64 time, .slice dA (List.length ds) dc, .slice lA (List.length ls) lc] 31)).cell? ⟨w1.heap.size, 1, none⟩ = some (.int .i64 ci) := C3.cell (i := 1) rfl
  have c2 : (w3.alloc (.cells #[.slice rA (List.length rs) rc, .slice mA (List.length ms) mc, .slice gA (List.length gs) gc, .int .i64 time, .slice dA (List.length ds) dc, .slice lA (List.length ls) lc] 31)).cell? ⟨w1.heap.size, 2, none⟩ = some (.bool ok) := C3.cell (i := 2) rfl
  have qc := C3.lt
  have q3 := P3.out.lt
  have hi64 := hidP hc.i64
  clear S3 P2 S2 B2 hc C3 o3 hown hcu s0
  rcases hrel with ⟨hg, ho⟩ | ⟨d, hg, ho⟩
  · have hok : ok = false := by
      cases ok with
      | false => rfl
      | true => rw [ho] at hst; cases hst
    subst hok
    have HN : Hid (ofK (R : Int) wi le ke l = none) := by
      show _ = _
      have hg' : getKp R l 0 = none := hg
      unfold ofK
      rw [eR.out, hg']
    clear hg ho hst S4 X4 HK
    have rr0 : w3.cell? ⟨w.heap.size + 1, 0, none⟩ = some (.slice none 0 0) := P3.out.cell (i := 0) rfl
    have zz0 := P3.out.thaw 0
    have rr1 : w3.cell? ⟨w.heap.size + 1, 1, none⟩ = some (.slice none 0 0) := P3.out.cell (i := 1) rfl
    have zz1 := P3.out.thaw 1
    have rr2 : w3.cell? ⟨w.heap.size + 1, 2, none⟩ = some (.slice none 0 0) := P3.out.cell (i := 2) rfl
    have zz2 := P3.out.thaw 2
    have rr3 : w3.cell? ⟨w.heap.size + 1, 3, none⟩ = some (.int .i64 0) := P3.out.cell (i := 3) rfl
    have zz3 := P3.out.thaw 3
    have rr4 : w3.cell? ⟨w.heap.size + 1, 4, none⟩ = some (.slice none 0 0) := P3.out.cell (i := 4) rfl
    have zz4 := P3.out.thaw 4
    have rr5 : w3.cell? ⟨w.heap.size + 1, 5, none⟩ = some (.slice none 0 0) := P3.out.cell (i := 5) rfl
    have zz5 := P3.out.thaw 5
    have qs := P3.out.lt
    have oo := (((((((Only.refl (w.heap.size + 1) w3).set 0 (.slice none 0 0)).set 1 (.slice none 0 0)).set 2 (.slice none 0 0)).set 3 (.int .i64 0)).set 4 (.slice none 0 0)).set 5 (.slice none 0 0))
    have HBz := hidP (alloc0 (B3.out.trans (oo.toBelow (by omega) B3.out.size)) (.cells #[.slice rA (List.length rs) rc, .slice mA (List.length ms) mc, .slice gA (List.length gs) gc, .int .i64 time, .slice dA (List.length ds) dc, .slice lA (List.length ls) lc] 31))
    clear oo P4 B4 P3 B3
    go_wp2
    exact bodyPost_ret (v := .tuple #[.agg #[.slice none 0 0, .slice none 0 0, .slice none 0 0, .int .i64 0, .slice none 0 0, .slice none 0 0], .bool false]) (by simp [results, Tryz.results4, go_sem, rr0, rr1, rr2, rr3, rr4, rr5, q3, Nat.ne_of_lt q3, Nat.ne_of_gt q3]) rfl ⟨HBz.out, .inr ⟨HN.out, rfl⟩⟩
  · have hok : ok = true ∧ ci = (d : Int) := by
      cases ok with
      | false => rw [ho] at hst; cases hst
      | true => rw [ho] at hst; simp at hst; exact ⟨rfl, by omega⟩
    obtain ⟨rfl, rfl⟩ := hok
    have hg' : Hid (getKp R l 0 = some ((⟨rA, rc, rs, mA, mc, ms, gA, gc, gs, time, dA, dc, ds, lA, lc, ls⟩ : KC).p, d)) := hg
    have hask := hidP (ask_p (KC.of_p _).symm (kp_ask (i := 0) hl hg))
    have hkb := hidP (keepB_p (y := (⟨rA, rc, rs, mA, mc, ms, gA, gc, gs, time, dA, dc, ds, lA, lc, ls⟩ : KC)) (x := KC.of (⟨rA, rc, rs, mA, mc, ms, gA, gc, gs, time, dA, dc, ds, lA, lc, ls⟩ : KC).p) (KC.of_p _).symm (R : Int) wi le ke)
    clear hg ho hst
    by_cases hdl : d = l.length
    · clear P3 B3
      subst hdl
      have hc'' : ((l.length : Int) != (l.length : Int)) = false := by simp
      have k0 : (w3.alloc (.cells #[.slice rA (List.length rs) rc, .slice mA (List.length ms) mc, .slice gA (List.length gs) gc, .int .i64 time, .slice dA (List.length ds) dc, .slice lA (List.length ls) lc] 31)).cell? ⟨w3.heap.size, 0, none⟩ = some (.slice rA (List.length rs) rc) := X4.out.cell (i := 0) rfl
      have k1 : (w3.alloc (.cells #[.slice rA (List.length rs) rc, .slice mA (List.length ms) mc, .slice gA (List.length gs) gc, .int .i64 time, .slice dA (List.length ds) dc, .slice lA (List.length ls) lc] 31)).cell? ⟨w3.heap.size, 1, none⟩ = some (.slice mA (List.length ms) mc) := X4.out.cell (i := 1) rfl
      have k2 : (w3.alloc (.cells #[.slice rA (List.length rs) rc, .slice mA (List.length ms) mc, .slice gA (List.length gs) gc, .int .i64 time, .slice dA (List.length ds) dc, .slice lA (List.length ls) lc] 31)).cell? ⟨w3.heap.size, 2, none⟩ = some (.slice gA (List.length gs) gc) := X4.out.cell (i := 2) rfl
      have k3 : (w3.alloc (.cells #[.slice rA (List.length rs) rc, .slice mA (List.length ms) mc, .slice gA (List.length gs) gc, .int .i64 time, .slice dA (List.length ds) dc, .slice lA (List.length ls) lc] 31)).cell? ⟨w3.heap.size, 3, none⟩ = some (.int .i64 time) := X4.out.cell (i := 3) rfl
      have k4 : (w3.alloc (.cells #[.slice rA (List.length rs) rc, .slice mA (List.length ms) mc, .slice gA (List.length gs) gc, .int .i64 time, .slice dA (List.length ds) dc, .slice lA (List.length ls) lc] 31)).cell? ⟨w3.heap.size, 4, none⟩ = some (.slice dA (List.length ds) dc) := X4.out.cell (i := 4) rfl
      have k5 : (w3.alloc (.cells #[.slice rA (List.length rs) rc, .slice mA (List.length ms) mc, .slice gA (List.length gs) gc, .int .i64 time, .slice dA (List.length ds) dc, .slice lA (List.length ls) lc] 31)).cell? ⟨w3.heap.size, 5, none⟩ = some (.slice lA (List.length ls) lc) := X4.out.cell (i := 5) rfl
      have s0 : (w3.alloc (.cells #[.slice rA (List.length rs) rc, .slice mA (List.length ms) mc, .slice gA (List.length gs) gc, .int .i64 time, .slice dA (List.length ds) dc, .slice lA (List.length ls) lc] 31)).cell? ⟨w.heap.size, 0, none⟩ = some (.int .i64 (R : Int)) := S4.out.cell (i := 0) rfl
      have s1 : (w3.alloc (.cells #[.slice rA (List.length rs) rc, .slice mA (List.length ms) mc, .slice gA (List.length gs) gc, .int .i64 time, .slice dA (List.length ds) dc, .slice lA (List.length ls) lc] 31)).cell? ⟨w.heap.size, 1, none⟩ = some (.int .i64 wi) := S4.out.cell (i := 1) rfl
      have s2 : (w3.alloc (.cells #[.slice rA (List.length rs) rc, .slice mA (List.length ms) mc, .slice gA (List.length gs) gc, .int .i64 time, .slice dA (List.length ds) dc, .slice lA (List.length ls) lc] 31)).cell? ⟨w.heap.size, 2, none⟩ = some (.int .i64 le) := S4.out.cell (i := 2) rfl
      have s3 : (w3.alloc (.cells #[.slice rA (List.length rs) rc, .slice mA (List.length ms) mc, .slice gA (List.length gs) gc, .int .i64 time, .slice dA (List.length ds) dc, .slice lA (List.length ls) lc] 31)).cell? ⟨w.heap.size, 3, none⟩ = some (.int .i64 ke) := S4.out.cell (i := 3) rfl
      go_wp2_with fail
      refine (specKeepOk_any (R : Int) wi le ke (⟨rA, rc, rs, mA, mc, ms, gA, gc, gs, time, dA, dc, ds, lA, lc, ls⟩ : KC) hask.out _ HK.out.at).mono ?_
      rintro e w5 ⟨rfl, g5⟩
      have P5 := hidP (P4.out.below g5 P4.out.lt)
      have X5 := X4.out.below g5 X4.out.lt
      have B5 := hidP (via0 g5 B4.out)
      have HK5 := hidP (HK.out.below g5)
      have g5s := g5.size
      simp only [World.size_alloc] at g5s
      clear g5 P4 S4 X4 B4 HK s0 s1 s2 s3 k0 k1 k2 k3 k4 k5 c1 c2
      cases hb : keepB (R : Int) wi le ke (⟨rA, rc, rs, mA, mc, ms, gA, gc, gs, time, dA, dc, ds, lA, lc, ls⟩ : KC) with
      | true =>
        have HN : Hid (ofK (R : Int) wi le ke l = some (⟨rA, rc, rs, mA, mc, ms, gA, gc, gs, time, dA, dc, ds, lA, lc, ls⟩ : KC).p) := by
          show _ = _
          unfold ofK
          rw [eR.out, hg'.out]
          show (if _ then _ else _) = _
          rw [if_pos ⟨rfl, by rw [← hkb.out]; exact hb⟩]
        have k0 : w5.cell? ⟨w3.heap.size, 0, none⟩ = some (.slice rA (List.length rs) rc) := X5.cell (i := 0) rfl
        have k1 : w5.cell? ⟨w3.heap.size, 1, none⟩ = some (.slice mA (List.length ms) mc) := X5.cell (i := 1) rfl
        have k2 : w5.cell? ⟨w3.heap.size, 2, none⟩ = some (.slice gA (List.length gs) gc) := X5.cell (i := 2) rfl
        have k3 : w5.cell? ⟨w3.heap.size, 3, none⟩ = some (.int .i64 time) := X5.cell (i := 3) rfl
        have k4 : w5.cell? ⟨w3.heap.size, 4, none⟩ = some (.slice dA (List.length ds) dc) := X5.cell (i := 4) rfl
        have k5 : w5.cell? ⟨w3.heap.size, 5, none⟩ = some (.slice lA (List.length ls) lc) := X5.cell (i := 5) rfl
        have rr0 : w5.cell? ⟨w.heap.size + 1, 0, none⟩ = some (.slice none 0 0) := P5.out.cell (i := 0) rfl
        have zz0 := P5.out.thaw 0
        have rr1 : w5.cell? ⟨w.heap.size + 1, 1, none⟩ = some (.slice none 0 0) := P5.out.cell (i := 1) rfl
        have zz1 := P5.out.thaw 1
        have rr2 : w5.cell? ⟨w.heap.size + 1, 2, none⟩ = some (.slice none 0 0) := P5.out.cell (i := 2) rfl
        have zz2 := P5.out.thaw 2
        have rr3 : w5.cell? ⟨w.heap.size + 1, 3, none⟩ = some (.int .i64 0) := P5.out.cell (i := 3) rfl
        have zz3 := P5.out.thaw 3
        have rr4 : w5.cell? ⟨w.heap.size + 1, 4, none⟩ = some (.slice none 0 0) := P5.out.cell (i := 4) rfl
        have zz4 := P5.out.thaw 4
        have rr5 : w5.cell? ⟨w.heap.size + 1, 5, none⟩ = some (.slice none 0 0) := P5.out.cell (i := 5) rfl
        have zz5 := P5.out.thaw 5
        have qs := P5.out.lt
        have qx := X5.lt
        have oo := (((((((Only.refl (w.heap.size + 1) w5).set 0 (.slice rA (List.length rs) rc)).set 1 (.slice mA (List.length ms) mc)).set 2 (.slice gA (List.length gs) gc)).set 3 (.int .i64 time)).set 4 (.slice dA (List.length ds) dc)).set 5 (.slice lA (List.length ls) lc))
        have HBz := hidP (B5.out.trans (oo.toBelow (by omega) B5.out.size))
        have osz := oo.size
        have HKz := hidP ((HK5.out.offp (Offp.of_only oo) (fun y hy e => by have h5 := hy.1; simp only [World.size_alloc] at h5; omega)).mono (T := fun b => w.heap.size ≤ b ∧ b < (((((((w5.setCell ⟨w.heap.size + 1, 0, none⟩ (.slice rA (List.length rs) rc)).setCell ⟨w.heap.size + 1, 1, none⟩ (.slice mA (List.length ms) mc)).setCell ⟨w.heap.size + 1, 2, none⟩ (.slice gA (List.length gs) gc)).setCell ⟨w.heap.size + 1, 3, none⟩ (.int .i64 time)).setCell ⟨w.heap.size + 1, 4, none⟩ (.slice dA (List.length ds) dc)).setCell ⟨w.heap.size + 1, 5, none⟩ (.slice lA (List.length ls) lc))).heap.size) (fun y hy => ⟨by have h5 := hy.1; simp only [World.size_alloc] at h5; omega, by have h5 := hy.2; omega⟩))
        clear oo P5 X5 B5 HK5 hg' hkb hask osz
        go_wp2
        exact bodyPost_ret (v := .tuple #[.agg #[.slice rA (List.length rs) rc, .slice mA (List.length ms) mc, .slice gA (List.length gs) gc, .int .i64 time, .slice dA (List.length ds) dc, .slice lA (List.length ls) lc], .bool true]) (by simp [results, Tryz.results4, go_sem, rr0, rr1, rr2, rr3, rr4, rr5]) rfl ⟨HBz.out, .inl ⟨(⟨rA, rc, rs, mA, mc, ms, gA, gc, gs, time, dA, dc, ds, lA, lc, ls⟩ : KC), HN.out, HKz.out, rfl⟩⟩
      | false =>
        have HN : Hid (ofK (R : Int) wi le ke l = none) := by
          show _ = _
          unfold ofK
          rw [eR.out, hg'.out]
          show (if _ then _ else _) = _
          rw [if_neg (fun h => by rw [← hkb.out, hb] at h; exact absurd h.2 (by simp))]
        clear X5 HK5 hg' hkb hask
        have rr0 : w5.cell? ⟨w.heap.size + 1, 0, none⟩ = some (.slice none 0 0) := P5.out.cell (i := 0) rfl
        have zz0 := P5.out.thaw 0
        have rr1 : w5.cell? ⟨w.heap.size + 1, 1, none⟩ = some (.slice none 0 0) := P5.out.cell (i := 1) rfl
        have zz1 := P5.out.thaw 1
        have rr2 : w5.cell? ⟨w.heap.size + 1, 2, none⟩ = some (.slice none 0 0) := P5.out.cell (i := 2) rfl
        have zz2 := P5.out.thaw 2
        have rr3 : w5.cell? ⟨w.heap.size + 1, 3, none⟩ = some (.int .i64 0) := P5.out.cell (i := 3) rfl
        have zz3 := P5.out.thaw 3
        have rr4 : w5.cell? ⟨w.heap.size + 1, 4, none⟩ = some (.slice none 0 0) := P5.out.cell (i := 4) rfl
        have zz4 := P5.out.thaw 4
        have rr5 : w5.cell? ⟨w.heap.size + 1, 5, none⟩ = some (.slice none 0 0) := P5.out.cell (i := 5) rfl
        have zz5 := P5.out.thaw 5
        have qs := P5.out.lt
        have oo := (((((((Only.refl (w.heap.size + 1) w5).set 0 (.slice none 0 0)).set 1 (.slice none 0 0)).set 2 (.slice none 0 0)).set 3 (.int .i64 0)).set 4 (.slice none 0 0)).set 5 (.slice none 0 0))
        have HBz := hidP (B5.out.trans (oo.toBelow (by omega) B5.out.size))
        clear oo P5 B5
        go_wp2
        exact bodyPost_ret (v := .tuple #[.agg #[.slice none 0 0, .slice none 0 0, .slice none 0 0, .int .i64 0, .slice none 0 0, .slice none 0 0], .bool false]) (by simp [results, Tryz.results4, go_sem, rr0, rr1, rr2, rr3, rr4, rr5]) rfl ⟨HBz.out, .inr ⟨HN.out, rfl⟩⟩
    · have hc'' : ((d : Int) != (l.length : Int)) = true := by
        have : (d : Int) ≠ (l.length : Int) := by omega
        simp [this]
      have HN : Hid (ofK (R : Int) wi le ke l = none) := by
        show _ = _
        unfold ofK
        rw [eR.out, hg'.out]
        show (if _ then _ else _) = _
        rw [if_neg (fun h => hdl h.1)]
      clear X4 HK hg' hkb hask S4
      have rr0 : w3.cell? ⟨w.heap.size + 1, 0, none⟩ = some (.slice none 0 0) := P3.out.cell (i := 0) rfl
      have zz0 := P3.out.thaw 0
      have rr1 : w3.cell? ⟨w.heap.size + 1, 1, none⟩ = some (.slice none 0 0) := P3.out.cell (i := 1) rfl
      have zz1 := P3.out.thaw 1
      have rr2 : w3.cell? ⟨w.heap.size + 1, 2, none⟩ = some (.slice none 0 0) := P3.out.cell (i := 2) rfl
      have zz2 := P3.out.thaw 2
      have rr3 : w3.cell? ⟨w.heap.size + 1, 3, none⟩ = some (.int .i64 0) := P3.out.cell (i := 3) rfl
      have zz3 := P3.out.thaw 3
      have rr4 : w3.cell? ⟨w.heap.size + 1, 4, none⟩ = some (.slice none 0 0) := P3.out.cell (i := 4) rfl
      have zz4 := P3.out.thaw 4
      have rr5 : w3.cell? ⟨w.heap.size + 1, 5, none⟩ = some (.slice none 0 0) := P3.out.cell (i := 5) rfl
      have zz5 := P3.out.thaw 5
      have qs := P3.out.lt
      have oo := (((((((Only.refl (w.heap.size + 1) w3).set 0 (.slice none 0 0)).set 1 (.slice none 0 0)).set 2 (.slice none 0 0)).set 3 (.int .i64 0)).set 4 (.slice none 0 0)).set 5 (.slice none 0 0))
      have HBz := hidP (alloc0 (B3.out.trans (oo.toBelow (by omega) B3.out.size)) (.cells #[.slice rA (List.length rs) rc, .slice mA (List.length ms) mc, .slice gA (List.length gs) gc, .int .i64 time, .slice dA (List.length ds) dc, .slice lA (List.length ls) lc] 31))
      clear oo P4 B4 P3 B3
      go_wp2
      exact bodyPost_ret (v := .tuple #[.agg #[.slice none 0 0, .slice none 0 0, .slice none 0 0, .int .i64 0, .slice none 0 0, .slice none 0 0], .bool false]) (by simp [results, Tryz.results4, go_sem, rr0, rr1, rr2, rr3, rr4, rr5, q3, Nat.ne_of_lt q3, Nat.ne_of_gt q3]) rfl ⟨HBz.out, .inr ⟨HN.out, rfl⟩⟩
end Go.Proofs.YtjjbbkmedpfenaaGreat.Gen
