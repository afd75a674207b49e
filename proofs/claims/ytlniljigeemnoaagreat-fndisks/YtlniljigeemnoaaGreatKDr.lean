/-
  A keeper within its bounds can be written as bytes: its numbers, and how many bytes it takes at most. No condition.
-/
import Derived.Test.YtlniljigeemnoaaGreatKDoP
import Derived.Test.YtlniljigeemnoaaGreatKBr
set_option linter.unusedVariables false
set_option linter.unusedSimpArgs false
set_option maxRecDepth 100000
set_option maxHeartbeats 8000000
namespace Go.Proofs.YtlniljigeemnoaaGreat.Gen
open ChangeShapes WideShapes ChangeAt RowKit Joins Deep Base
open Items (It)
theorem gcB_leN {y : GC} {N : Nat} (h1 : y.m.length <= N) (h2 : y.o.length <= 4) : (gcB y).length <= 40 + 10 * N := by
 have a1 := Qb3 [y.gen, (y.m.length : Int)]
 have a2 := Qb3 y.o
 have a3 := Qc4 (fun p : Int × Int => Qbh [p.1, p.2]) 10 (List.zip y.m y.b) (fun p _ => by have := Qb3 [p.1, p.2]; simpa using this)
 have a4 : (List.zip y.m y.b).length <= N := by rw [List.length_zip]; omega
 have a5 : 10 * (List.zip y.m y.b).length <= 10 * N := by omega
 simp only [gcB, memB, List.length_append, List.length_cons, List.length_nil] at a1 ⊢
 omega
theorem Kin.kcr {R N : Nat} (hN : N <= 1000) (hR : 1 <= R /\ R <= 4) {x : KC} (h : Kin R N x.p) : KcR x /\ (kB x).length <= 200000 := by
 have hrl : x.rs.length = R := by have := h.rl; simpa [KC.p] using this
 have hml : x.ms.length <= N := by have := h.ml; simpa [KC.p] using this
 have hgl : x.gs.length = 2 := by have := h.gl; simpa [KC.p] using this
 have hdl : x.ds.length = 4 := h.dl
 have hll : x.ls.length = 4 := h.ll
 have ht : In2 x.time 100000 := h.t
 have hrow : ∀ y ∈ x.rs, RcR y := fun y hy => by
  obtain ⟨g1, g2, g3, g4⟩ := Qcs (h.ri y.p (List.mem_map_of_mem hy))
  unfold In2 at g1 g2
  have e1 : y.p.start = y.start := rfl
  have e2 : y.p.next = y.next := rfl
  have e3 : y.p.its = y.its := rfl
  rw [e1] at g1
  rw [e2] at g2
  rw [e3] at g3 g4
  refine ⟨by omega, by omega, fun z hz => ?_, g3⟩
  obtain ⟨k1, k2, k3, k4, k5⟩ := g4 z hz
  unfold In2 at k1 k2 k3
  exact ⟨by omega, k4, k5, by omega, by omega⟩
 have hmak : ∀ y ∈ x.ms, McR y := fun y hy => by
  have g := h.mi y.p (List.mem_map_of_mem hy)
  have g1 : In2 y.row 100000 := g.row
  have g2 : In2 y.who 3 := g.who
  have g3 : In2 y.epoch 100000 := g.epoch
  have g4 : -1 <= y.last /\ y.last <= 100000 := g.last
  have g5 : ∀ z ∈ y.ms, In2 z.seq 100000 /\ In2 z.off 100000 := g.ms
  unfold In2 at g1 g2 g3
  refine ⟨by omega, by omega, by omega, by omega, fun z hz => ?_, g.len⟩
  obtain ⟨k1, k2⟩ := g5 z hz
  unfold In2 at k1 k2
  exact ⟨by omega, by omega⟩
 have hgrp : ∀ y ∈ x.gs, GcR y /\ y.m.length <= N /\ y.o.length <= 4 := fun y hy => by
  have g := h.gi y.p (List.mem_map_of_mem hy)
  have g1 : In2 y.gen 100000 := g.gen
  have g2 : ∀ z ∈ y.m, In2 z 3 := g.m
  have g3 : ∀ z ∈ y.b, In2 z 100000 := g.b
  have g4 : ∀ z ∈ y.o, In2 z 100000 := g.o
  have g5 : y.b.length = y.m.length := g.same
  have g6 : y.m.length <= N := g.len
  have g7 : y.o.length = R := g.ol
  unfold In2 at g1 g2 g3 g4
  exact ⟨⟨by omega, fun z hz => by have := g2 z hz; omega, fun z hz => by have := g3 z hz; omega, fun z hz => by have := g4 z hz; omega, g5, by omega, by omega⟩, g6, by omega⟩
 have hans : ∀ y ∈ x.ls, AnR y := fun y hy => by
  have g := h.li y hy
  have g1 := g.code
  have g2 := g.n
  unfold In2 at g1
  exact ⟨by omega, by omega, g.key, g.text⟩
 have hds : ∀ y ∈ x.ds, 0 <= y /\ y <= 2147483647 := fun y hy => by have g := h.di y hy; unfold In2 at g; omega
 unfold In2 at ht
 refine ⟨⟨hrow, hmak, fun y hy => (hgrp y hy).1, by omega, hds, hans, by omega, by omega, by omega, by omega, by omega⟩, ?_⟩
 have b1 := Qc4 rcB 8100 x.rs (fun y hy => rcB_le (hrow y hy))
 have b2 := Qc4 mcB 80 x.ms (fun y hy => mcB_le (hmak y hy))
 have b3 := Qc4 gcB (40 + 10 * N) x.gs (fun y hy => gcB_leN (hgrp y hy).2.1 (hgrp y hy).2.2)
 have b4 := Qc4 (fun p : Int × An => numI p.1 ++ anB p.2) 90 (List.zip x.ds x.ls) (fun p hp => by
  have := anB_le (hans p.2 (List.of_mem_zip hp).2)
  have := Qbc p.1
  rw [List.length_append]
  omega)
 have b5 : (List.zip x.ds x.ls).length <= 4 := by rw [List.length_zip]; omega
 have c1 := Qbc (x.rs.length : Int)
 have c2 := Qbc (x.ms.length : Int)
 have c3 := Qbc (x.gs.length : Int)
 have c4 := Qbc x.time
 rw [hgl] at b3
 simp only [kB, rcsB, mcsB, gcsB, Qf3, List.length_append]
 omega
theorem kB_pos {x : KC} (hx : x.rs.length <= 1000) : 0 < (kB x).length := by
 have h : 0 < (numI (x.rs.length : Int)).length := by
  rw [Qef (by omega)]
  unfold numB
  split<;>simp
 simp only [kB, rcsB, List.length_append]
 omega
structure KW (w W : World) (kx : Array Value) (v : Value) (xs R K : List UInt8) : Prop where
  bl : Below w.heap.size w W
  bx : Blk W w.heap.size 90 kx
  own : W.ownsRow (w.heap.size + 1) 5 1 v xs.length (flat xs)
  eq : xs ++ R = K
theorem KW.below {w W W' : World} {kx : Array Value} {v : Value} {xs R K : List UInt8} (h : KW w W kx v xs R K) (g : Below W.heap.size W W') : KW w W' kx v xs R K :=
 ⟨via0 g h.bl, h.bx.below g h.bx.lt, Qaq h.own g, h.eq⟩
theorem KW.rest {w W : World} {kx : Array Value} {v : Value} {xs R R' K : List UInt8} (h : KW w W kx v xs R K) (e : R = R') : KW w W kx v xs R' K := e ▸ h
theorem own_neB {B n k b : Nat} {W : World} {v : Value} {xs : List Value} {t : TypeId} {vs : Array Value} (h : W.ownsRow B 5 k v n xs) (hb : Blk W b t vs) (ht : t ≠ 5) : some b ≠ v.ownBlock := by
 rcases h.2 with ⟨rfl, _⟩ | ⟨g, c, cur, rfl, _, hg, _⟩
 . simp [Value.ownBlock]
 . intro e
   have e' : b = g := by simpa [Value.ownBlock] using e
   subst e'
   have := (show W.heap[b]? = _ from hb).symm.trans hg
   simp at this
   exact ht this.2
theorem KW.add {w W W1 : World} {kx : Array Value} {a a1 : Option Addr} {c c1 : Nat} {xs R K ys R' : List UInt8} (h : KW w W kx (.slice a xs.length c) xs R K) (hK : K.length <= 400000000) (hR : R = ys ++ R') (g : Below W.heap.size W W1) {B : Nat} (o : W1.ownsRow B 5 1 (.slice a1 ys.length c1) ys.length (flat ys)) :
 ∃ a2 c2 zs W2, (Builtin.append_ #[22, 22] 22 #[.slice a xs.length c, .slice a1 ys.length c1]).run Tryz.prog W1 = .ok (.slice a2 (List.length zs) c2) W2 /\ KW w W2 kx (.slice a2 zs.length c2) zs R' K /\ (∀ b t vs, Blk W b t vs -> t ≠ 5 -> Blk W2 b t vs) := by
 have h1 := h.below g
 have hl : xs.length + ys.length <= 1000000000 := by
  have := congrArg List.length h.eq
  rw [hR] at this
  simp at this
  omega
 obtain ⟨a2, c2, W2, hr, hown, hg⟩ := Qdu (c' := c1) (B := w.heap.size + 1) (by have := h1.bx.lt; omega) h1.own (Qa6 o).at hl
 have ko := Qb5 hg
 refine ⟨a2, c2, xs ++ ys, W2, hr, ⟨h1.bl.trans (ko.toBelow (fun x hx => by have := (h1.own.lt x hx).1; omega) h1.bl.size), h1.bx.offp ko (fun e => own_neB h1.own h1.bx (by decide) e.symm), hown, ?_⟩, ?_⟩
 . rw [← h.eq, hR, List.append_assoc]
 . intro b t vs hb ht
   exact (hb.below g hb.lt).offp ko (fun e => own_neB h1.own (hb.below g hb.lt) ht e.symm)
theorem Qfx {α : Type} (f : α -> List UInt8) {l : List α} {n : Nat} (h : n < l.length) : (l.drop n).flatMap f = f l[n] ++ (l.drop (n + 1)).flatMap f := by
 rw [List.drop_eq_getElem_cons h, List.flatMap_cons]
theorem Qhu {α : Type} (f : α -> List UInt8) {l : List α} {n : Nat} (h : l.length <= n) : (l.drop n).flatMap f = [] := by
 rw [List.drop_eq_nil_of_le h]; rfl
theorem rc_split (y : RC) (T : List UInt8) : rcB y ++ T = Qbh [y.start, y.next, (y.its.length : Int)] ++ (y.its.flatMap itB ++ T) := by
 simp [rcB, itsB, Qbh, List.append_assoc]
theorem it_split (z : It) (T : List UInt8) : itB z ++ T = numI z.off ++ (txtB z.key ++ (txtB z.text ++ (Qbh [z.who, z.time] ++ T))) := by simp [itB, List.append_assoc]
theorem mc_split (y : MC) (T : List UInt8) : mcB y ++ T = Qbh [y.row, y.who, y.epoch, y.last + 1, (y.ms.length : Int)] ++ (y.ms.flatMap mkB ++ T) := by
 simp [mcB, mksB, Qbh, List.append_assoc]
theorem gc_split (y : GC) (T : List UInt8) : gcB y ++ T = Qbh [y.gen, (y.m.length : Int)] ++ (memB y.m y.b ++ (Qbh y.o ++ T)) := by simp [gcB, List.append_assoc]
theorem an_split (d : Int) (y : An) (T : List UInt8) : (numI d ++ anB y) ++ T = Qbh [d, y.code, y.n + 1] ++ (txtB y.key ++ (txtB y.text ++ T)) := by simp [anB, Qbh, List.append_assoc]
theorem In.getItG {w : World} {b o : Nat} {l : List It} (h : In w b o l) (i : Nat) (hi : i < l.length) :
 w.cell? ⟨b, o + i * 5, none⟩ = some (.int .i64 l[i].off) /\ w.cell? ⟨b, o + i * 5 + 1, none⟩ = some (.string l[i].key) /\ w.cell? ⟨b, o + i * 5 + 2, none⟩ = some (.string l[i].text) /\ w.cell? ⟨b, o + i * 5 + 3, none⟩ = some (.int .i64 l[i].who) /\ w.cell? ⟨b, o + i * 5 + 4, none⟩ = some (.int .i64 l[i].time) :=
 ⟨h.cell i hi (f := 0) rfl, h.cell i hi (f := 1) rfl, h.cell i hi (f := 2) rfl, h.cell i hi (f := 3) rfl, h.cell i hi (f := 4) rfl⟩
theorem newN (W : World) (L : List Int) (cs : Array Value) {z : Nat} (hz : z = W.heap.size) (h : cs.toList = flat L) : At (W.alloc (.cells cs 3)) (some ⟨z, 0, none⟩) L := by subst hz; exact newL W L cs 3 h
theorem Qcl {B : Nat} {a w : World} (h : Below B a w) : Below B a w.drew := h.drew
theorem mem_drop {m b : List Int} {j : Nat} (h1 : j < m.length) (h2 : j < b.length) : memB (m.drop j) (b.drop j) = Qbh [m[j], b[j]] ++ memB (m.drop (j + 1)) (b.drop (j + 1)) := by
 rw [List.drop_eq_getElem_cons h1, List.drop_eq_getElem_cons h2]
 rw [memB, List.zip_cons_cons, List.flatMap_cons]; rfl
theorem last_drop {d : List Int} {l : List An} {j : Nat} (h1 : j < d.length) (h2 : j < l.length) : Qf3 (d.drop j) (l.drop j) = (numI d[j] ++ anB l[j]) ++ Qf3 (d.drop (j + 1)) (l.drop (j + 1)) := by
 rw [List.drop_eq_getElem_cons h1, List.drop_eq_getElem_cons h2]
 rw [Qf3, List.zip_cons_cons, List.flatMap_cons]; rfl
theorem specL7_any (x : KC) (hr : KcR x) (hlen : (kB x).length <= 400000000) (w : World) (hx0 : KAt w x) :
 Calls Tryz.prog 51 #[.agg (Qaa x.rA x.rs.length x.rc x.mA x.ms.length x.mc x.gA x.gs.length x.gc x.time x.dA x.ds.length x.dc x.lA x.ls.length x.lc)] w fun e w' => ∃ a' c', e = .returned (.slice a' (kB x).length c') /\ Below w.heap.size w w' /\ w'.ownsRow w.heap.size 5 1 (.slice a' (kB x).length c') (kB x).length (flat (kB x)) := by
 obtain ⟨x_rA, x_rc, x_rs, x_mA, x_mc, x_ms, x_gA, x_gc, x_gs, x_time, x_dA, x_dc, x_ds, x_lA, x_lc, x_ls⟩ := x
 have HRA : Hid (At w x_rA x_rs) := hx0.ra
 have HRE : Hid (EachR w x_rs) := hx0.re
 have HMA : Hid (At w x_mA x_ms) := hx0.ma
 have HME : Hid (Each w x_ms) := hx0.me
 have HGA : Hid (At w x_gA x_gs) := hx0.ga
 have HGE : Hid (EachG w x_gs) := hx0.ge
 have HDA : Hid (At w x_dA x_ds) := hx0.da
 have HLA : Hid (At w x_lA x_ls) := hx0.la
 have HKR : Hid (∀ y ∈ x_rs, RcR y) := hr.rs
 have HKM : Hid (∀ y ∈ x_ms, McR y) := hr.ms
 have HKG : Hid (∀ y ∈ x_gs, GcR y) := hr.gs
 have HKL : Hid (∀ y ∈ x_ls, AnR y) := hr.ls
 have HKS : Hid (x_ls.length = x_ds.length) := hr.same
 have l1 : x_rs.length <= 1048576 := hr.rl
 have l2 : x_ms.length <= 1048576 := hr.ml
 have l3 : x_gs.length <= 1048576 := hr.gl
 have l4 : x_ds.length <= 1048576 := hr.dl
 have l5 : x_ls.length <= 1048576 := by have := HKS.out; omega
 obtain ⟨T3, hT3⟩ : ∃ T3, numI x_time ++ Qf3 x_ds x_ls = T3 := ⟨_, rfl⟩
 obtain ⟨T2, hT2⟩ : ∃ T2, gcsB x_gs ++ T3 = T2 := ⟨_, rfl⟩
 obtain ⟨T1, hT1⟩ : ∃ T1, mcsB x_ms ++ T2 = T1 := ⟨_, rfl⟩
 have hKd : kB ⟨x_rA, x_rc, x_rs, x_mA, x_mc, x_ms, x_gA, x_gc, x_gs, x_time, x_dA, x_dc, x_ds, x_lA, x_lc, x_ls⟩ = numI (x_rs.length : Int) ++ (x_rs.flatMap rcB ++ T1) := by rw [← hT1, ← hT2, ← hT3]; simp [kB, rcsB, List.append_assoc]
 have H1 : Hid (T1 = numI (x_ms.length : Int) ++ (x_ms.flatMap mcB ++ T2)) := by show _ = _; rw [← hT1]; simp [mcsB, List.append_assoc]
 have H2 : Hid (T2 = numI (x_gs.length : Int) ++ (x_gs.flatMap gcB ++ T3)) := by show _ = _; rw [← hT2]; simp [gcsB, List.append_assoc]
 have H3 : Hid (T3 = numI x_time ++ Qf3 x_ds x_ls) := hidP hT3.symm
 clear hT1 hT2 hT3 hr hx0
 generalize kB ⟨x_rA, x_rc, x_rs, x_mA, x_mc, x_ms, x_gA, x_gc, x_gs, x_time, x_dA, x_dc, x_ds, x_lA, x_lc, x_ls⟩ = K at *
 dsimp only
 have hKl := hidP hlen
 have hKd' := hidP hKd
 clear hlen hKd
 go_enter Tryz.func51, Tryz.ntmps51
 go_wp2_with fail
 refine (Qa1 (x_rs.length : Int) _).mono ?_
 rintro e w1 ⟨a1, c1, rfl, g1, o1⟩
 obtain ⟨xs, hxs⟩ : ∃ xs, numI (x_rs.length : Int) = xs := ⟨_, rfl⟩
 rw [hxs] at o1 ⊢
 have KK : Hid (KW w w1 (Qaa x_rA x_rs.length x_rc x_mA x_ms.length x_mc x_gA x_gs.length x_gc x_time x_dA x_ds.length x_dc x_lA x_ls.length x_lc) (.slice a1 xs.length c1) xs (x_rs.flatMap rcB ++ T1) K) := ⟨by repeat (first | exact Below.refl _ _ | assumption | refine via0 (by assumption) ?_ | refine Below.drew ?_ | refine Qaf ?_ _), (Blk.new w 90 (Qaa x_rA x_rs.length x_rc x_mA x_ms.length x_mc x_gA x_gs.length x_gc x_time x_dA x_ds.length x_dc x_lA x_ls.length x_lc)).below g1 (by simp), by simpa using o1, by rw [← hxs]; exact hKd'.out.symm⟩
 clear g1 o1 hxs hKd'
 obtain ⟨kv0, kv1, kv2, kv3, kv4, kv5⟩ := KK.out.bx.row6
 have q0 := KK.out.bx.lt
 go_wp2
 go_loopw [3, 4] (fun v i W => ∃ (n : Nat) (a : Option Addr) (c : Nat) (xs : List UInt8), i = .int .i64 (n : Int) /\ v = .slice a (List.length xs) c /\ n <= x_rs.length /\ Hid (KW w W (Qaa x_rA x_rs.length x_rc x_mA x_ms.length x_mc x_gA x_gs.length x_gc x_time x_dA x_ds.length x_dc x_lA x_ls.length x_lc) (.slice a xs.length c) xs ((x_rs.drop n).flatMap rcB ++ T1) K)) (fun _ i _ => x_rs.length - (intOf i).toNat)
 case atStart => exact ⟨0, a1, c1, xs, rfl, rfl, by omega, KK⟩
 case round =>
  clear kv0 kv1 kv2 kv3 kv4 kv5 q0 KK
  obtain ⟨n, a, c, xs, rfl, rfl, hn, KK⟩ := hrel
  obtain ⟨kv0, kv1, kv2, kv3, kv4, kv5⟩ := KK.out.bx.row6
  have q0 := KK.out.bx.lt
  by_cases hlt : n < x_rs.length
  . obtain ⟨b, o, rfl, hbs, hIn⟩ : ∃ b o, x_rA = some ⟨b, o, none⟩ /\ b < w.heap.size /\ In w b o x_rs := by
     rcases HRA.out with h | h
     . rw [h] at hlt; simp at hlt
     . exact h
    obtain ⟨d0, d1, d2⟩ := (hIn.below hbs KK.out.bl).getRC n hlt
    have hy := (HKR.out _ (List.getElem_mem hlt))
    have HAy := hidP (HRE.out _ (List.getElem_mem hlt))
    have HR := hidP (show (x_rs.drop n).flatMap rcB ++ T1 = _ from by rw [Qfx rcB hlt, List.append_assoc, rc_split])
    have hi0 : (0 : Int) <= (n : Int) := by omega
    have hi1 : (n : Int) < (x_rs.length : Int) := by omega
    generalize x_rs[n] = y at *
    obtain ⟨y_start, y_next, y_A, y_cap, y_its⟩ := y
    dsimp only at d0 d1 d2 HR
    have HAy : Hid (At w y_A y_its) := HAy
    obtain ⟨T, hT⟩ : ∃ T, (x_rs.drop (n + 1)).flatMap rcB ++ T1 = T := ⟨_, rfl⟩
    rw [hT] at HR
    have HT := hidP hT
    clear hT
    have HIt : Hid (∀ z ∈ y_its, ItR z) := hy.its
    have hyl : y_its.length <= 80 := hy.len
    have RB0 := hidP ((Blk.new wr 118 (Qaz y_start y_next y_A y_its.length y_cap)).alloc (.cells (Qcj y_start y_next (y_its.length : Int)) 3))
    have KA := hidP (KK.out.below (Qaf (Qaf (Below.refl _ _) (.cells (Qaz y_start y_next y_A y_its.length y_cap) 118)) (.cells (Qcj y_start y_next (y_its.length : Int)) 3)))
    have hat := hidP (newN (wr.alloc (.cells (Qaz y_start y_next y_A y_its.length y_cap) 118)) [y_start, y_next, (y_its.length : Int)] (Qcj y_start y_next (y_its.length : Int)) (z := wr.heap.size + 1) (by simp) rfl)
    go_wp2_with fail
    have RB := RB0
    clear RB0 KK d0 d1 d2 hIn
    refine (Qbk _ _ [y_start, y_next, (y_its.length : Int)] (by simp) _ hat.out).mono ?_
    rintro e w1 ⟨a1, c1, rfl, g1, o1⟩
    obtain ⟨a2, c2, zs, W2, hr, K2, kp⟩ := KA.out.add hKl.out (HR.out) g1 o1
    have RB := hidP (kp _ _ _ RB.out (by decide))
    have KK := hidP K2
    clear K2 kp g1 o1 KA
    clear kv0 kv1 kv2 kv3 kv4 kv5 q0
    obtain ⟨kv0, kv1, kv2, kv3, kv4, kv5⟩ := KK.out.bx.row6
    have q0 := KK.out.bx.lt
    obtain ⟨rv0, rv1, rv2⟩ := RB.out.row3
    have q1 := RB.out.lt
    clear HR hat hy
    generalize wr.heap.size = rb at *
    go_wp2_with (at_builtin; refine Qae rfl _ _ _ rfl _ _ _ rfl rfl hr ?_)
    clear hr
    go_loopw [3, 6] (fun v i W => ∃ (j : Nat) (a : Option Addr) (c : Nat) (xs : List UInt8), i = .int .i64 (j : Int) /\ v = .slice a (List.length xs) c /\ j <= y_its.length /\ Hid (KW w W (Qaa (some ⟨b, o, none⟩) x_rs.length x_rc x_mA x_ms.length x_mc x_gA x_gs.length x_gc x_time x_dA x_ds.length x_dc x_lA x_ls.length x_lc) (.slice a xs.length c) xs ((y_its.drop j).flatMap itB ++ T) K) /\ Hid (Blk W rb 118 (Qaz y_start y_next y_A y_its.length y_cap))) (fun _ i _ => y_its.length - (intOf i).toNat)
    case atStart => exact ⟨0, a2, c2, zs, rfl, rfl, by omega, KK, RB⟩
    case round =>
     clear kv0 kv1 kv2 kv3 kv4 kv5 q0 rv0 rv1 rv2 q1 KK RB
     obtain ⟨j, a, c, xs, rfl, rfl, hj, KK, RB⟩ := hrel
     obtain ⟨kv0, kv1, kv2, kv3, kv4, kv5⟩ := KK.out.bx.row6
     have q0 := KK.out.bx.lt
     obtain ⟨rv0, rv1, rv2⟩ := RB.out.row3
     have q1 := RB.out.lt
     by_cases hlt : j < y_its.length
     . obtain ⟨b, o, rfl, hbs, hIn⟩ : ∃ b o, y_A = some ⟨b, o, none⟩ /\ b < w.heap.size /\ In w b o y_its := by
        rcases HAy.out with h | h
        . rw [h] at hlt; simp at hlt
        . exact h
       obtain ⟨d0, d1, d2, d3, d4⟩ := (hIn.below hbs KK.out.bl).getItG j hlt
       have hz := HIt.out _ (List.getElem_mem hlt)
       have HR := hidP (show (y_its.drop j).flatMap itB ++ T = _ from by rw [Qfx itB hlt, List.append_assoc, it_split])
       have hi0 : (0 : Int) <= (j : Int) := by omega
       have hi1 : (j : Int) < (y_its.length : Int) := by omega
       generalize y_its[j] = z at *
       have IB := hidP (Blk.new wr 121 (Qba z.off z.key z.text z.who z.time))
       have RB' := hidP (RB.out.alloc (.cells (Qba z.off z.key z.text z.who z.time) 121))
       have KA := hidP (KK.out.below (Qaf (Below.refl _ _) (.cells (Qba z.off z.key z.text z.who z.time) 121)))
       go_wp2_with fail
       clear RB KK d0 d1 d2 d3 d4 hIn
       have RB := RB'
       clear RB'
       refine (Qa1 z.off _).mono ?_
       rintro e w1 ⟨a1, c1, rfl, g1, o1⟩
       obtain ⟨a2, c2, zs, W2, hr, K2, kp⟩ := KA.out.add hKl.out (HR.out) g1 o1
       have RB := hidP (kp _ _ _ RB.out (by decide))
       have IB := hidP (kp _ _ _ IB.out (by decide))
       have KK := hidP K2
       clear K2 kp g1 o1 KA
       clear kv0 kv1 kv2 kv3 kv4 kv5 q0 rv0 rv1 rv2 q1
       obtain ⟨kv0, kv1, kv2, kv3, kv4, kv5⟩ := KK.out.bx.row6
       have q0 := KK.out.bx.lt
       obtain ⟨rv0, rv1, rv2⟩ := RB.out.row3
       have q1 := RB.out.lt
       obtain ⟨sv0, sv1, sv2, sv3, sv4⟩ := IB.out.row5
       have q2 := IB.out.lt
       go_wp2_with (at_builtin; refine Qae rfl _ _ _ rfl _ _ _ rfl rfl hr ?_)
       clear hr
       have KA := KK
       refine (Qbf z.key (by have := hz.key; omega) _).mono ?_
       rintro e w1 ⟨a1, c1, rfl, g1, o1⟩
       obtain ⟨a2, c2, zs, W2, hr, K2, kp⟩ := KA.out.add hKl.out (rfl) g1 o1
       have RB := hidP (kp _ _ _ RB.out (by decide))
       have IB := hidP (kp _ _ _ IB.out (by decide))
       have KK := hidP K2
       clear K2 kp g1 o1 KA
       clear kv0 kv1 kv2 kv3 kv4 kv5 q0 rv0 rv1 rv2 q1 sv0 sv1 sv2 sv3 sv4 q2
       obtain ⟨kv0, kv1, kv2, kv3, kv4, kv5⟩ := KK.out.bx.row6
       have q0 := KK.out.bx.lt
       obtain ⟨rv0, rv1, rv2⟩ := RB.out.row3
       have q1 := RB.out.lt
       obtain ⟨sv0, sv1, sv2, sv3, sv4⟩ := IB.out.row5
       have q2 := IB.out.lt
       go_wp2_with (at_builtin; refine Qae rfl _ _ _ rfl _ _ _ rfl rfl hr ?_)
       clear hr
       have KA := KK
       refine (Qbf z.text (by have := hz.text; omega) _).mono ?_
       rintro e w1 ⟨a1, c1, rfl, g1, o1⟩
       obtain ⟨a2, c2, zs, W2, hr, K2, kp⟩ := KA.out.add hKl.out (rfl) g1 o1
       have RB := hidP (kp _ _ _ RB.out (by decide))
       have IB := hidP (kp _ _ _ IB.out (by decide))
       have KK := hidP K2
       clear K2 kp g1 o1 KA
       clear kv0 kv1 kv2 kv3 kv4 kv5 q0 rv0 rv1 rv2 q1 sv0 sv1 sv2 sv3 sv4 q2
       obtain ⟨kv0, kv1, kv2, kv3, kv4, kv5⟩ := KK.out.bx.row6
       have q0 := KK.out.bx.lt
       obtain ⟨rv0, rv1, rv2⟩ := RB.out.row3
       have q1 := RB.out.lt
       obtain ⟨sv0, sv1, sv2, sv3, sv4⟩ := IB.out.row5
       have q2 := IB.out.lt
       go_wp2_with (at_builtin; refine Qae rfl _ _ _ rfl _ _ _ rfl rfl hr ?_)
       clear hr
       have hat := hidP (newN W2 [z.who, z.time] #[.int .i64 z.who, .int .i64 z.time] rfl rfl)
       have KA := hidP (KK.out.below (Qaf (Below.refl _ _) (.cells #[.int .i64 z.who, .int .i64 z.time] 3)))
       have RB := hidP (RB.out.alloc (.cells #[.int .i64 z.who, .int .i64 z.time] 3))
       refine (Qbk _ _ [z.who, z.time] (by simp) _ hat.out).mono ?_
       rintro e w1 ⟨a1, c1, rfl, g1, o1⟩
       obtain ⟨a2, c2, zs, W2, hr, K2, kp⟩ := KA.out.add hKl.out (rfl) g1 o1
       have RB := hidP (kp _ _ _ RB.out (by decide))
       have KK := hidP K2
       clear K2 kp g1 o1 KA
       clear kv0 kv1 kv2 kv3 kv4 kv5 q0 rv0 rv1 rv2 q1 sv0 sv1 sv2 sv3 sv4 q2
       obtain ⟨kv0, kv1, kv2, kv3, kv4, kv5⟩ := KK.out.bx.row6
       have q0 := KK.out.bx.lt
       obtain ⟨rv0, rv1, rv2⟩ := RB.out.row3
       have q1 := RB.out.lt
       go_wp2_with (at_builtin; refine Qae rfl _ _ _ rfl _ _ _ rfl rfl hr ?_)
       clear hr
       exact ⟨⟨j + 1, a2, c2, zs, by go_num, rfl, by omega, KK, RB⟩, by simp [intOf]; omega⟩
     . have KK := hidP (KK.out.rest (by rw [Qhu itB (by omega), List.nil_append]))
       go_wp2
       exact ⟨⟨n + 1, a, c, xs, by go_num, rfl, by omega, by rw [HT.out]; exact KK⟩, by simp [intOf]; omega⟩
  . have KK := hidP (KK.out.rest (by rw [Qhu rcB (by omega), List.nil_append]))
    have KA := KK
    go_wp2_with fail
    refine (Qa1 (x_ms.length : Int) _).mono ?_
    rintro e w1 ⟨a1, c1, rfl, g1, o1⟩
    obtain ⟨a2, c2, zs, W2, hr, K2, kp⟩ := KA.out.add hKl.out (H1.out) g1 o1
    have KK := hidP K2
    clear K2 kp g1 o1 KA
    clear kv0 kv1 kv2 kv3 kv4 kv5 q0
    obtain ⟨kv0, kv1, kv2, kv3, kv4, kv5⟩ := KK.out.bx.row6
    have q0 := KK.out.bx.lt
    go_wp2_with (at_builtin; refine Qae rfl _ _ _ rfl _ _ _ rfl rfl hr ?_)
    clear hr
    go_loopw [3, 8] (fun v i W => ∃ (n : Nat) (a : Option Addr) (c : Nat) (xs : List UInt8), i = .int .i64 (n : Int) /\ v = .slice a (List.length xs) c /\ n <= x_ms.length /\ Hid (KW w W (Qaa x_rA x_rs.length x_rc x_mA x_ms.length x_mc x_gA x_gs.length x_gc x_time x_dA x_ds.length x_dc x_lA x_ls.length x_lc) (.slice a xs.length c) xs ((x_ms.drop n).flatMap mcB ++ T2) K)) (fun _ i _ => x_ms.length - (intOf i).toNat)
    case atStart => exact ⟨0, a2, c2, zs, rfl, rfl, by omega, KK⟩
    case round =>
     clear kv0 kv1 kv2 kv3 kv4 kv5 q0 KK
     obtain ⟨n, a, c, xs, rfl, rfl, hn, KK⟩ := hrel
     obtain ⟨kv0, kv1, kv2, kv3, kv4, kv5⟩ := KK.out.bx.row6
     have q0 := KK.out.bx.lt
     by_cases hlt : n < x_ms.length
     . obtain ⟨b, o, rfl, hbs, hIn⟩ : ∃ b o, x_mA = some ⟨b, o, none⟩ /\ b < w.heap.size /\ In w b o x_ms := by
        rcases HMA.out with h | h
        . rw [h] at hlt; simp at hlt
        . exact h
       obtain ⟨d0, d1, d2, d3, d4⟩ := (hIn.below hbs KK.out.bl).getMC n hlt
       have hy := (HKM.out _ (List.getElem_mem hlt))
       have HAy := hidP (HME.out _ (List.getElem_mem hlt))
       have HR := hidP (show (x_ms.drop n).flatMap mcB ++ T2 = _ from by rw [Qfx mcB hlt, List.append_assoc, mc_split])
       have hi0 : (0 : Int) <= (n : Int) := by omega
       have hi1 : (n : Int) < (x_ms.length : Int) := by omega
       generalize x_ms[n] = y at *
       obtain ⟨y_row, y_who, y_epoch, y_last, y_A, y_cap, y_ms⟩ := y
       dsimp only at d0 d1 d2 d3 d4 HR
       have HAy : Hid (At w y_A y_ms) := HAy
       obtain ⟨T, hT⟩ : ∃ T, (x_ms.drop (n + 1)).flatMap mcB ++ T2 = T := ⟨_, rfl⟩
       rw [hT] at HR
       have HT := hidP hT
       clear hT
       have hyl : y_ms.length <= 5 := hy.len
       have hyl0 : -1 <= y_last := hy.last.1
       have hyl1 : y_last <= 2147483646 := hy.last.2
       have RB0 := hidP ((Blk.new wr 124 (Qam y_row y_who y_epoch y_last y_A y_ms.length y_cap)).alloc (.cells (Qip y_row y_who y_epoch (y_last + 1) (y_ms.length : Int)) 3))
       have KA := hidP (KK.out.below (Qaf (Qaf (Below.refl _ _) (.cells (Qam y_row y_who y_epoch y_last y_A y_ms.length y_cap) 124)) (.cells (Qip y_row y_who y_epoch (y_last + 1) (y_ms.length : Int)) 3)))
       have hat := hidP (newN (wr.alloc (.cells (Qam y_row y_who y_epoch y_last y_A y_ms.length y_cap) 124)) [y_row, y_who, y_epoch, y_last + 1, (y_ms.length : Int)] (Qip y_row y_who y_epoch (y_last + 1) (y_ms.length : Int)) (z := wr.heap.size + 1) (by simp) rfl)
       go_wp2_with fail
       have RB := RB0
       clear RB0 KK d0 d1 d2 d3 d4 hIn
       refine (Qbk _ _ [y_row, y_who, y_epoch, y_last + 1, (y_ms.length : Int)] (by simp) _ hat.out).mono ?_
       rintro e w1 ⟨a1, c1, rfl, g1, o1⟩
       obtain ⟨a2, c2, zs, W2, hr, K2, kp⟩ := KA.out.add hKl.out (HR.out) g1 o1
       have RB := hidP (kp _ _ _ RB.out (by decide))
       have KK := hidP K2
       clear K2 kp g1 o1 KA
       clear kv0 kv1 kv2 kv3 kv4 kv5 q0
       obtain ⟨kv0, kv1, kv2, kv3, kv4, kv5⟩ := KK.out.bx.row6
       have q0 := KK.out.bx.lt
       obtain ⟨rv0, rv1, rv2, rv3, rv4⟩ := RB.out.row5
       have q1 := RB.out.lt
       clear HR hat hy
       generalize wr.heap.size = rb at *
       go_wp2_with (at_builtin; refine Qae rfl _ _ _ rfl _ _ _ rfl rfl hr ?_)
       clear hr
       go_loopw [3, 10] (fun v i W => ∃ (j : Nat) (a : Option Addr) (c : Nat) (xs : List UInt8), i = .int .i64 (j : Int) /\ v = .slice a (List.length xs) c /\ j <= y_ms.length /\ Hid (KW w W (Qaa x_rA x_rs.length x_rc (some ⟨b, o, none⟩) x_ms.length x_mc x_gA x_gs.length x_gc x_time x_dA x_ds.length x_dc x_lA x_ls.length x_lc) (.slice a xs.length c) xs ((y_ms.drop j).flatMap mkB ++ T) K) /\ Hid (Blk W rb 124 (Qam y_row y_who y_epoch y_last y_A y_ms.length y_cap))) (fun _ i _ => y_ms.length - (intOf i).toNat)
       case atStart => exact ⟨0, a2, c2, zs, rfl, rfl, by omega, KK, RB⟩
       case round =>
        clear kv0 kv1 kv2 kv3 kv4 kv5 q0 rv0 rv1 rv2 rv3 rv4 q1 KK RB
        obtain ⟨j, a, c, xs, rfl, rfl, hj, KK, RB⟩ := hrel
        obtain ⟨kv0, kv1, kv2, kv3, kv4, kv5⟩ := KK.out.bx.row6
        have q0 := KK.out.bx.lt
        obtain ⟨rv0, rv1, rv2, rv3, rv4⟩ := RB.out.row5
        have q1 := RB.out.lt
        by_cases hlt : j < y_ms.length
        . obtain ⟨b, o, rfl, hbs, hIn⟩ : ∃ b o, y_A = some ⟨b, o, none⟩ /\ b < w.heap.size /\ In w b o y_ms := by
           rcases HAy.out with h | h
           . rw [h] at hlt; simp at hlt
           . exact h
          have HR := hidP (show (y_ms.drop j).flatMap mkB ++ T = _ from by rw [Qfx mkB hlt, List.append_assoc])
          have SS : ∀ W : World, Below w.heap.size w W -> Blk W rb 124 (Qam y_row y_who y_epoch y_last (some ⟨b, o, none⟩) y_ms.length y_cap) -> (fun (W : World) => W.cell? ⟨rb, 4, none⟩ = some (.slice (some ⟨b, o, none⟩) y_ms.length y_cap) /\ W.cell? ⟨b, o + j * 2, none⟩ = some (.int .i64 y_ms[j].seq) /\ W.cell? ⟨b, o + j * 2 + 1, none⟩ = some (.int .i64 y_ms[j].off)) W := fun W g p => ⟨p.row5.2.2.2.2, (hIn.below hbs g).getMk j hlt⟩
          have hi0 : (0 : Int) <= (j : Int) := by omega
          have hi1 : (j : Int) < (y_ms.length : Int) := by omega
          have S0 := SS wr.drew (Qcl KK.out.bl) RB.out
          have KA := hidP (KK.out.below (Qcl (Qaf (Below.refl _ _) (.cells #[.int .i64 y_ms[j].seq, .int .i64 y_ms[j].off] 3))))
          have RBA := hidP (show Blk (wr.alloc (.cells #[.int .i64 y_ms[j].seq, .int .i64 y_ms[j].off] 3)).drew rb 124 _ from RB.out.alloc _)
          have SA := SS _ KA.out.bl RBA.out
          have hat := hidP (show At (wr.alloc (.cells #[.int .i64 y_ms[j].seq, .int .i64 y_ms[j].off] 3)).drew _ _ from newN wr [y_ms[j].seq, y_ms[j].off] #[.int .i64 y_ms[j].seq, .int .i64 y_ms[j].off] rfl rfl)
          go_wp2_with fail
          clear KK RB kv0 kv1 kv2 kv3 kv4 kv5 q0 rv0 rv1 rv2 rv3 rv4 q1
          refine wp_region_noPanic ?_
          refine wp_region_held_drew (S := (fun (W : World) => W.cell? ⟨rb, 4, none⟩ = some (.slice (some ⟨b, o, none⟩) y_ms.length y_cap) /\ W.cell? ⟨b, o + j * 2, none⟩ = some (.int .i64 y_ms[j].seq) /\ W.cell? ⟨b, o + j * 2 + 1, none⟩ = some (.int .i64 y_ms[j].off))) (by kernel_rfl) ?_ (fun hH => ?_)
          . exact S0
          refine ztk [0,1,2,3,4,5,6,7,8,9,10,11,12] ?_; repeat (refine ztn (h := ?_); try simp only [zX,zY])
          refine zte ?_
          refine zR1 13 (fun K hK => ?_)
          simp only [zG]
          go_simp
          refine hK.out _ _ SA fun hH => ?_; clear hK K; try simp only [zX,zY]
          refine zR1 14 (fun K hK => ?_)
          simp only [zG]
          go_simp
          refine (Qbk _ _ [y_ms[j].seq, y_ms[j].off] (by simp) _ hat.out).mono ?_; rintro e w1 ⟨a1, c1, rfl, g1, o1⟩; obtain ⟨a2, c2, zs, W2, hr, K2, kp⟩ := KA.out.add hKl.out (HR.out) g1 o1; have S1 := SS _ (KA.out.below g1).bl (RBA.out.below g1 RBA.out.lt); have RB := hidP (kp _ _ _ RBA.out (by decide)); have S2 := SS _ K2.bl RB.out; have KK := hidP K2; clear K2 kp g1 o1 KA RBA
          refine hK.out _ _ S1 fun hH => ?_; clear hK K; try simp only [zX,zY]
          refine zR1 15 (fun K hK => ?_)
          simp only [zG]
          rw [if_pos (by rfl)]; refine Qag _ _ _ (by rfl) _ _ _ (by rfl) (by rfl) hr ?_
          refine hK.out _ _ S2 fun hH => ?_; clear hK K; try simp only [zX,zY]
          refine zt1 16 ?_; refine ztn (h := ?_); try simp only [zX,zY]
          refine zte ?_
          refine zdn ?_
          clear hr
          go_wp2
          exact ⟨⟨j + 1, a2, c2, zs, by go_num, rfl, by omega, KK, RB⟩, by simp [intOf]; omega⟩
        . have KK := hidP (KK.out.rest (by rw [Qhu mkB (by omega), List.nil_append]))
          go_wp2
          exact ⟨⟨n + 1, a, c, xs, by go_num, rfl, by omega, by rw [HT.out]; exact KK⟩, by simp [intOf]; omega⟩
     . have KK := hidP (KK.out.rest (by rw [Qhu mcB (by omega), List.nil_append]))
       have KA := KK
       go_wp2_with fail
       refine (Qa1 (x_gs.length : Int) _).mono ?_
       rintro e w1 ⟨a1, c1, rfl, g1, o1⟩
       obtain ⟨a2, c2, zs, W2, hr, K2, kp⟩ := KA.out.add hKl.out (H2.out) g1 o1
       have KK := hidP K2
       clear K2 kp g1 o1 KA
       clear kv0 kv1 kv2 kv3 kv4 kv5 q0
       obtain ⟨kv0, kv1, kv2, kv3, kv4, kv5⟩ := KK.out.bx.row6
       have q0 := KK.out.bx.lt
       go_wp2_with (at_builtin; refine Qae rfl _ _ _ rfl _ _ _ rfl rfl hr ?_)
       clear hr
       go_loopw [3, 11] (fun v i W => ∃ (n : Nat) (a : Option Addr) (c : Nat) (xs : List UInt8), i = .int .i64 (n : Int) /\ v = .slice a (List.length xs) c /\ n <= x_gs.length /\ Hid (KW w W (Qaa x_rA x_rs.length x_rc x_mA x_ms.length x_mc x_gA x_gs.length x_gc x_time x_dA x_ds.length x_dc x_lA x_ls.length x_lc) (.slice a xs.length c) xs ((x_gs.drop n).flatMap gcB ++ T3) K)) (fun _ i _ => x_gs.length - (intOf i).toNat)
       case atStart => exact ⟨0, a2, c2, zs, rfl, rfl, by omega, KK⟩
       case round =>
        clear kv0 kv1 kv2 kv3 kv4 kv5 q0 KK
        obtain ⟨n, a, c, xs, rfl, rfl, hn, KK⟩ := hrel
        obtain ⟨kv0, kv1, kv2, kv3, kv4, kv5⟩ := KK.out.bx.row6
        have q0 := KK.out.bx.lt
        by_cases hlt : n < x_gs.length
        . obtain ⟨b, o, rfl, hbs, hIn⟩ : ∃ b o, x_gA = some ⟨b, o, none⟩ /\ b < w.heap.size /\ In w b o x_gs := by
           rcases HGA.out with h | h
           . rw [h] at hlt; simp at hlt
           . exact h
          obtain ⟨d0, d1, d2, d3⟩ := (hIn.below hbs KK.out.bl).getGC n hlt
          have hy := (HKG.out _ (List.getElem_mem hlt))
          have HAy := hidP (HGE.out _ (List.getElem_mem hlt))
          have HR := hidP (show (x_gs.drop n).flatMap gcB ++ T3 = _ from by rw [Qfx gcB hlt, List.append_assoc, gc_split])
          have hi0 : (0 : Int) <= (n : Int) := by omega
          have hi1 : (n : Int) < (x_gs.length : Int) := by omega
          generalize x_gs[n] = y at *
          obtain ⟨y_gen, y_a1, y_c1, y_m, y_a2, y_c2, y_b, y_a3, y_c3, y_o⟩ := y
          dsimp only at d0 d1 d2 d3 HR
          have HAy : Hid (At w y_a1 y_m /\ At w y_a2 y_b /\ At w y_a3 y_o) := HAy
          obtain ⟨T, hT⟩ : ∃ T, Qbh y_o ++ ((x_gs.drop (n + 1)).flatMap gcB ++ T3) = T := ⟨_, rfl⟩
          rw [hT] at HR
          have HT := hidP hT
          clear hT
          have hyl : y_m.length <= 300000 := hy.len
          have hyb : y_b.length <= 300000 := by have h1 : y_b.length = y_m.length := hy.same; omega
          have hym : y_m.length <= y_b.length := by have h1 : y_b.length = y_m.length := hy.same; omega
          have hyo : y_o.length <= 300000 := hy.leo
          have RB0 := hidP ((Blk.new wr 128 (Qak y_gen y_a1 y_m.length y_c1 y_a2 y_b.length y_c2 y_a3 y_o.length y_c3)).alloc (.cells #[.int .i64 y_gen, .int .i64 (y_m.length : Int)] 3))
          have KA := hidP (KK.out.below (Qaf (Qaf (Below.refl _ _) (.cells (Qak y_gen y_a1 y_m.length y_c1 y_a2 y_b.length y_c2 y_a3 y_o.length y_c3) 128)) (.cells #[.int .i64 y_gen, .int .i64 (y_m.length : Int)] 3)))
          have hat := hidP (newN (wr.alloc (.cells (Qak y_gen y_a1 y_m.length y_c1 y_a2 y_b.length y_c2 y_a3 y_o.length y_c3) 128)) [y_gen, (y_m.length : Int)] #[.int .i64 y_gen, .int .i64 (y_m.length : Int)] (z := wr.heap.size + 1) (by simp) rfl)
          go_wp2_with fail
          have RB := RB0
          clear RB0 KK d0 d1 d2 d3 hIn
          refine (Qbk _ _ [y_gen, (y_m.length : Int)] (by simp) _ hat.out).mono ?_
          rintro e w1 ⟨a1, c1, rfl, g1, o1⟩
          obtain ⟨a2, c2, zs, W2, hr, K2, kp⟩ := KA.out.add hKl.out (HR.out) g1 o1
          have RB := hidP (kp _ _ _ RB.out (by decide))
          have KK := hidP K2
          clear K2 kp g1 o1 KA
          clear kv0 kv1 kv2 kv3 kv4 kv5 q0
          obtain ⟨kv0, kv1, kv2, kv3, kv4, kv5⟩ := KK.out.bx.row6
          have q0 := KK.out.bx.lt
          obtain ⟨rv0, rv1, rv2, rv3⟩ := RB.out.row4
          have q1 := RB.out.lt
          clear HR hat hy
          generalize wr.heap.size = rb at *
          go_wp2_with (at_builtin; refine Qae rfl _ _ _ rfl _ _ _ rfl rfl hr ?_)
          clear hr
          go_loopw [3, 13] (fun v i W => ∃ (j : Nat) (a : Option Addr) (c : Nat) (xs : List UInt8), i = .int .i64 (j : Int) /\ v = .slice a (List.length xs) c /\ j <= y_m.length /\ Hid (KW w W (Qaa x_rA x_rs.length x_rc x_mA x_ms.length x_mc (some ⟨b, o, none⟩) x_gs.length x_gc x_time x_dA x_ds.length x_dc x_lA x_ls.length x_lc) (.slice a xs.length c) xs (memB (y_m.drop j) (y_b.drop j) ++ T) K) /\ Hid (Blk W rb 128 (Qak y_gen y_a1 y_m.length y_c1 y_a2 y_b.length y_c2 y_a3 y_o.length y_c3))) (fun _ i _ => y_m.length - (intOf i).toNat)
          case atStart => exact ⟨0, a2, c2, zs, rfl, rfl, by omega, KK, RB⟩
          case round =>
           clear kv0 kv1 kv2 kv3 kv4 kv5 q0 rv0 rv1 rv2 rv3 q1 KK RB
           obtain ⟨j, a, c, xs, rfl, rfl, hj, KK, RB⟩ := hrel
           obtain ⟨kv0, kv1, kv2, kv3, kv4, kv5⟩ := KK.out.bx.row6
           have q0 := KK.out.bx.lt
           obtain ⟨rv0, rv1, rv2, rv3⟩ := RB.out.row4
           have q1 := RB.out.lt
           by_cases hlt : j < y_m.length
           . obtain ⟨b, o, rfl, hbs, hIn⟩ : ∃ b o, y_a1 = some ⟨b, o, none⟩ /\ b < w.heap.size /\ In w b o y_m := by
              rcases HAy.out.1 with h | h
              . rw [h] at hlt; simp at hlt
              . exact h
             have hltb : j < y_b.length := by omega
             obtain ⟨b', o', rfl, hbs', hIn'⟩ : ∃ b o, y_a2 = some ⟨b, o, none⟩ /\ b < w.heap.size /\ In w b o y_b := by
              rcases HAy.out.2.1 with h | h
              . rw [h] at hltb; simp at hltb
              . exact h
             have HR := hidP (show memB (y_m.drop j) (y_b.drop j) ++ T = _ from by rw [mem_drop hlt hltb, List.append_assoc])
             have SS : ∀ W : World, Below w.heap.size w W -> Blk W rb 128 (Qak y_gen (some ⟨b, o, none⟩) y_m.length y_c1 (some ⟨b', o', none⟩) y_b.length y_c2 y_a3 y_o.length y_c3) -> (fun (W : World) => W.cell? ⟨rb, 1, none⟩ = some (.slice (some ⟨b, o, none⟩) y_m.length y_c1) /\ W.cell? ⟨rb, 2, none⟩ = some (.slice (some ⟨b', o', none⟩) y_b.length y_c2) /\ W.cell? ⟨b, o + j, none⟩ = some (.int .i64 y_m[j]) /\ W.cell? ⟨b', o' + j, none⟩ = some (.int .i64 y_b[j])) W := fun W g p => ⟨p.row4.2.1, p.row4.2.2.1, (hIn.below hbs g).getInt j hlt, (hIn'.below hbs' g).getInt j hltb⟩
             have hi0 : (0 : Int) <= (j : Int) := by omega
             have hi1 : (j : Int) < (y_m.length : Int) := by omega
             have hi2 : (j : Int) < (y_b.length : Int) := by omega
             have S0 := SS wr.drew (Qcl KK.out.bl) RB.out
             have KA := hidP (KK.out.below (Qcl (Qaf (Below.refl _ _) (.cells #[.int .i64 y_m[j], .int .i64 y_b[j]] 3))))
             have RBA := hidP (show Blk (wr.alloc (.cells #[.int .i64 y_m[j], .int .i64 y_b[j]] 3)).drew rb 128 _ from RB.out.alloc _)
             have SA := SS _ KA.out.bl RBA.out
             have hat := hidP (show At (wr.alloc (.cells #[.int .i64 y_m[j], .int .i64 y_b[j]] 3)).drew _ _ from newN wr [y_m[j], y_b[j]] #[.int .i64 y_m[j], .int .i64 y_b[j]] rfl rfl)
             go_wp2_with fail
             clear KK RB kv0 kv1 kv2 kv3 kv4 kv5 q0 rv0 rv1 rv2 rv3 q1
             refine wp_region_noPanic ?_
             refine wp_region_held_drew (S := (fun (W : World) => W.cell? ⟨rb, 1, none⟩ = some (.slice (some ⟨b, o, none⟩) y_m.length y_c1) /\ W.cell? ⟨rb, 2, none⟩ = some (.slice (some ⟨b', o', none⟩) y_b.length y_c2) /\ W.cell? ⟨b, o + j, none⟩ = some (.int .i64 y_m[j]) /\ W.cell? ⟨b', o' + j, none⟩ = some (.int .i64 y_b[j]))) (by kernel_rfl) ?_ (fun hH => ?_)
             . exact S0
             refine ztk [0,1,2,3,4,5,6,7,8,9,10] ?_; repeat (refine ztn (h := ?_); try simp only [zX,zY])
             refine zte ?_
             refine zR1 11 (fun K hK => ?_)
             simp only [zG]
             go_simp
             refine hK.out _ _ SA fun hH => ?_; clear hK K; try simp only [zX,zY]
             refine zR1 12 (fun K hK => ?_)
             simp only [zG]
             go_simp
             refine (Qbk _ _ [y_m[j], y_b[j]] (by simp) _ hat.out).mono ?_; rintro e w1 ⟨a1, c1, rfl, g1, o1⟩; obtain ⟨a2, c2, zs, W2, hr, K2, kp⟩ := KA.out.add hKl.out (HR.out) g1 o1; have S1 := SS _ (KA.out.below g1).bl (RBA.out.below g1 RBA.out.lt); have RB := hidP (kp _ _ _ RBA.out (by decide)); have S2 := SS _ K2.bl RB.out; have KK := hidP K2; clear K2 kp g1 o1 KA RBA
             refine hK.out _ _ S1 fun hH => ?_; clear hK K; try simp only [zX,zY]
             refine zR1 13 (fun K hK => ?_)
             simp only [zG]
             rw [if_pos (by rfl)]; refine Qag _ _ _ (by rfl) _ _ _ (by rfl) (by rfl) hr ?_
             refine hK.out _ _ S2 fun hH => ?_; clear hK K; try simp only [zX,zY]
             refine zt1 14 ?_; refine ztn (h := ?_); try simp only [zX,zY]
             refine zte ?_
             refine zdn ?_
             clear hr
             go_wp2
             exact ⟨⟨j + 1, a2, c2, zs, by go_num, rfl, by omega, KK, RB⟩, by simp [intOf]; omega⟩
           . have KA := hidP (KK.out.rest (show memB (y_m.drop j) (y_b.drop j) ++ T = T from by rw [List.drop_eq_nil_of_le (show y_m.length <= j by omega)]; rfl))
             clear KK
             go_wp2_with fail
             refine (Qbk _ _ y_o hyo _ (HAy.out.2.2.below KA.out.bl)).mono ?_
             rintro e w1 ⟨a1, c1, rfl, g1, o1⟩
             obtain ⟨a2, c2, zs, W2, hr, K2, kp⟩ := KA.out.add hKl.out (HT.out.symm) g1 o1
             have RB := hidP (kp _ _ _ RB.out (by decide))
             have KK := hidP K2
             clear K2 kp g1 o1 KA
             clear kv0 kv1 kv2 kv3 kv4 kv5 q0 rv0 rv1 rv2 rv3 q1
             obtain ⟨kv0, kv1, kv2, kv3, kv4, kv5⟩ := KK.out.bx.row6
             have q0 := KK.out.bx.lt
             obtain ⟨rv0, rv1, rv2, rv3⟩ := RB.out.row4
             have q1 := RB.out.lt
             go_wp2_with (at_builtin; refine Qae rfl _ _ _ rfl _ _ _ rfl rfl hr ?_)
             clear hr
             exact ⟨⟨n + 1, a2, c2, zs, by go_num, rfl, by omega, KK⟩, by simp [intOf]; omega⟩
        . have KK := hidP (KK.out.rest (by rw [Qhu gcB (by omega), List.nil_append]))
          have KA := KK
          go_wp2_with fail
          refine (Qa1 x_time _).mono ?_
          rintro e w1 ⟨a1, c1, rfl, g1, o1⟩
          obtain ⟨a2, c2, zs, W2, hr, K2, kp⟩ := KA.out.add hKl.out (H3.out) g1 o1
          have KK := hidP K2
          clear K2 kp g1 o1 KA
          clear kv0 kv1 kv2 kv3 kv4 kv5 q0
          obtain ⟨kv0, kv1, kv2, kv3, kv4, kv5⟩ := KK.out.bx.row6
          have q0 := KK.out.bx.lt
          go_wp2_with (at_builtin; refine Qae rfl _ _ _ rfl _ _ _ rfl rfl hr ?_)
          clear hr
          go_loopw [3, 14] (fun v i W => ∃ (n : Nat) (a : Option Addr) (c : Nat) (xs : List UInt8), i = .int .i64 (n : Int) /\ v = .slice a (List.length xs) c /\ n <= x_ds.length /\ Hid (KW w W (Qaa x_rA x_rs.length x_rc x_mA x_ms.length x_mc x_gA x_gs.length x_gc x_time x_dA x_ds.length x_dc x_lA x_ls.length x_lc) (.slice a xs.length c) xs (Qf3 (x_ds.drop n) (x_ls.drop n)) K)) (fun _ i _ => x_ds.length - (intOf i).toNat)
          case atStart => exact ⟨0, a2, c2, zs, rfl, rfl, by omega, KK⟩
          case round =>
           clear kv0 kv1 kv2 kv3 kv4 kv5 q0 KK
           obtain ⟨n, a, c, xs, rfl, rfl, hn, KK⟩ := hrel
           obtain ⟨kv0, kv1, kv2, kv3, kv4, kv5⟩ := KK.out.bx.row6
           have q0 := KK.out.bx.lt
           by_cases hltd : n < x_ds.length
           . have hlt : n < x_ls.length := by have := HKS.out; omega
             obtain ⟨b, o, rfl, hbs, hIn⟩ : ∃ b o, x_lA = some ⟨b, o, none⟩ /\ b < w.heap.size /\ In w b o x_ls := by
              rcases HLA.out with h | h
              . rw [h] at hlt; simp at hlt
              . exact h
             obtain ⟨b', o', rfl, hbs', hIn'⟩ : ∃ b o, x_dA = some ⟨b, o, none⟩ /\ b < w.heap.size /\ In w b o x_ds := by
              rcases HDA.out with h | h
              . rw [h] at hltd; simp at hltd
              . exact h
             obtain ⟨d0, d1, d2, d3⟩ := (hIn.below hbs KK.out.bl).getAn n hlt
             have hz := (HKL.out _ (List.getElem_mem hlt))
             have HD : Hid (∀ W : World, Below w.heap.size w W -> W.cell? ⟨b', o' + n, none⟩ = some (.int .i64 x_ds[n])) := fun W g => (hIn'.below hbs' g).getInt n hltd
             have HR := hidP (show Qf3 (x_ds.drop n) (x_ls.drop n) = _ from by rw [last_drop hltd hlt, an_split])
             have hi0 : (0 : Int) <= (n : Int) := by omega
             have hi1 : (n : Int) < (x_ds.length : Int) := by omega
             have hi2 : (n : Int) < (x_ls.length : Int) := by omega
             generalize x_ls[n] = z at *
             generalize x_ds[n] = d at *
             have hzn0 := hz.n.1
             have hzn1 := hz.n.2
             have RB := hidP (Blk.new wr 130 (Qas z.code z.n z.key z.text))
             have KB := hidP (KK.out.below (Qaf (Below.refl _ _) (.cells (Qas z.code z.n z.key z.text) 130)))
             have SS : ∀ W : World, Below w.heap.size w W -> Blk W w.heap.size 90 (Qaa x_rA x_rs.length x_rc x_mA x_ms.length x_mc x_gA x_gs.length x_gc x_time (some ⟨b', o', none⟩) x_ds.length x_dc (some ⟨b, o, none⟩) x_ls.length x_lc) -> Blk W wr.heap.size 130 (Qas z.code z.n z.key z.text) -> (fun (W : World) => W.cell? ⟨w.heap.size, 4, none⟩ = some (.slice (some ⟨b', o', none⟩) x_ds.length x_dc) /\ W.cell? ⟨b', o' + n, none⟩ = some (.int .i64 d) /\ W.cell? ⟨wr.heap.size, 0, none⟩ = some (.int .i64 z.code) /\ W.cell? ⟨wr.heap.size, 1, none⟩ = some (.int .i64 z.n)) W := fun W g p q => ⟨p.row6.2.2.2.2.1, HD.out W g, q.row4.1, q.row4.2.1⟩
             have S0 := SS (wr.alloc (.cells (Qas z.code z.n z.key z.text) 130)).drew (Qcl KB.out.bl) KB.out.bx RB.out
             have KA := hidP (KB.out.below (Qcl (Qaf (Below.refl _ _) (.cells (Qcj d z.code (z.n + 1)) 3))))
             have RBA := hidP (show Blk ((wr.alloc (.cells (Qas z.code z.n z.key z.text) 130)).alloc (.cells (Qcj d z.code (z.n + 1)) 3)).drew wr.heap.size 130 _ from RB.out.alloc _)
             have SA := SS _ KA.out.bl KA.out.bx RBA.out
             have hat := hidP (show At ((wr.alloc (.cells (Qas z.code z.n z.key z.text) 130)).alloc (.cells (Qcj d z.code (z.n + 1)) 3)).drew _ _ from newN (wr.alloc (.cells (Qas z.code z.n z.key z.text) 130)) [d, z.code, z.n + 1] (Qcj d z.code (z.n + 1)) (z := wr.heap.size + 1) (by simp) rfl)
             have hw : IntKind.i64.wrap (z.n + 1) = z.n + 1 := by simp [IntKind.wrap, IntKind.bits, IntKind.signed]; omega
             go_wp2_with fail
             clear KK RB KB d0 d1 d2 d3 hIn hIn' kv0 kv1 kv2 kv3 kv4 kv5 q0
             refine wp_region_noPanic ?_
             refine wp_region_held_drew (S := (fun (W : World) => W.cell? ⟨w.heap.size, 4, none⟩ = some (.slice (some ⟨b', o', none⟩) x_ds.length x_dc) /\ W.cell? ⟨b', o' + n, none⟩ = some (.int .i64 d) /\ W.cell? ⟨wr.heap.size, 0, none⟩ = some (.int .i64 z.code) /\ W.cell? ⟨wr.heap.size, 1, none⟩ = some (.int .i64 z.n))) (by kernel_rfl) ?_ (fun hH => ?_)
             . exact S0
             refine ztk [0,1,2,3,4,5,6,7,8,9,10] ?_; repeat (refine ztn (h := ?_); try simp only [zX,zY])
             refine zte ?_
             refine zR1 11 (fun K hK => ?_)
             simp only [zG]
             go_simp
             refine hK.out _ _ SA fun hH => ?_; clear hK K; try simp only [zX,zY]
             refine zR1 12 (fun K hK => ?_)
             simp only [zG]
             go_simp
             refine (Qbk _ _ [d, z.code, z.n + 1] (by simp) _ hat.out).mono ?_; rintro e w1 ⟨a1, c1, rfl, g1, o1⟩; obtain ⟨a2, c2, zs, W2, hr, K2, kp⟩ := KA.out.add hKl.out (HR.out) g1 o1; have S1 := SS _ (KA.out.below g1).bl (KA.out.below g1).bx (RBA.out.below g1 RBA.out.lt); have RB := hidP (kp _ _ _ RBA.out (by decide)); have S2 := SS _ K2.bl K2.bx RB.out; have KK := hidP K2; clear K2 kp g1 o1 KA RBA
             refine hK.out _ _ S1 fun hH => ?_; clear hK K; try simp only [zX,zY]
             refine zR1 13 (fun K hK => ?_)
             simp only [zG]
             rw [if_pos (by rfl)]; refine Qag _ _ _ (by rfl) _ _ _ (by rfl) (by rfl) hr ?_
             refine hK.out _ _ S2 fun hH => ?_; clear hK K; try simp only [zX,zY]
             refine zt1 14 ?_; refine ztn (h := ?_); try simp only [zX,zY]
             refine zte ?_
             refine zdn ?_
             clear hr SS S0 SA hat HR
             obtain ⟨kv0, kv1, kv2, kv3, kv4, kv5⟩ := KK.out.bx.row6
             have q0 := KK.out.bx.lt
             obtain ⟨rv0, rv1, rv2, rv3⟩ := RB.out.row4
             have q1 := RB.out.lt
             have KA := KK
             go_wp2_with fail
             refine (Qbf z.key (by have := hz.key; omega) _).mono ?_
             rintro e w1 ⟨a1, c1, rfl, g1, o1⟩
             obtain ⟨a2, c2, zs, W2, hr, K2, kp⟩ := KA.out.add hKl.out (rfl) g1 o1
             have RB := hidP (kp _ _ _ RB.out (by decide))
             have KK := hidP K2
             clear K2 kp g1 o1 KA
             clear kv0 kv1 kv2 kv3 kv4 kv5 q0 rv0 rv1 rv2 rv3 q1
             obtain ⟨kv0, kv1, kv2, kv3, kv4, kv5⟩ := KK.out.bx.row6
             have q0 := KK.out.bx.lt
             obtain ⟨rv0, rv1, rv2, rv3⟩ := RB.out.row4
             have q1 := RB.out.lt
             go_wp2_with (at_builtin; refine Qae rfl _ _ _ rfl _ _ _ rfl rfl hr ?_)
             clear hr
             have KA := KK
             refine (Qbf z.text (by have := hz.text; omega) _).mono ?_
             rintro e w1 ⟨a1, c1, rfl, g1, o1⟩
             obtain ⟨a2, c2, zs, W2, hr, K2, kp⟩ := KA.out.add hKl.out (rfl) g1 o1
             have RB := hidP (kp _ _ _ RB.out (by decide))
             have KK := hidP K2
             clear K2 kp g1 o1 KA
             clear kv0 kv1 kv2 kv3 kv4 kv5 q0 rv0 rv1 rv2 rv3 q1
             obtain ⟨kv0, kv1, kv2, kv3, kv4, kv5⟩ := KK.out.bx.row6
             have q0 := KK.out.bx.lt
             obtain ⟨rv0, rv1, rv2, rv3⟩ := RB.out.row4
             have q1 := RB.out.lt
             go_wp2_with (at_builtin; refine Qae rfl _ _ _ rfl _ _ _ rfl rfl hr ?_)
             clear hr
             exact ⟨⟨n + 1, a2, c2, zs, by go_num, rfl, by omega, KK⟩, by simp [intOf]; omega⟩
           . have KK := KK.out
             have he : Qf3 (x_ds.drop n) (x_ls.drop n) = [] := by rw [List.drop_eq_nil_of_le (show x_ds.length <= n by omega)]; rfl
             have hxs : xs = K := by have := KK.eq; rw [he, List.append_nil] at this; exact this
             subst hxs
             go_wp2
             go_ret
             exact ⟨a, c, rfl, KK.bl, Qaw KK.own (by omega)⟩
end Go.Proofs.YtlniljigeemnoaaGreat.Gen
