/-
  Lists of groups, read by the program's reader. Condition: at most 1048576 bytes.
-/
import Derived.Test.YtjjbbkmedpfenaaGreatRMany
namespace Go.Proofs.YtjjbbkmedpfenaaGreat.Gen
open Go.ChangeShapes Go.WideShapes Go.ChangeAt Go.RowKit Go.Joins Go.Deep Base
set_option linter.unusedVariables false
set_option linter.unusedSimpArgs false

theorem grpP_mono {W : World} {x : GC} {S T : Nat → Prop} (h : grpP W x S) (s : ∀ y, S y → T y) : grpP W x T := by
  obtain ⟨S1, S2, S3, i1, i2, i3, r⟩ := h
  exact ⟨S1, S2, S3, fun y hy => s y (i1 y hy), fun y hy => s y (i2 y hy), fun y hy => s y (i3 y hy), r⟩
set_option maxRecDepth 100000 in
set_option maxHeartbeats 2000000 in
theorem keep1_any (rows : Int) (hrw : I64 rows) (Bt : Nat) (r : Nat) (A : Option Addr) (cap : Nat) (l : List UInt8) (i : Int) (hl : l.length ≤ 1048576) (w : World) (hBt : Blk w Bt 3 #[.int .i64 rows]) (h : Rd w r A cap l i) :
    Calls Tryz.prog 52 #[.pointer (some ⟨r, 0, none⟩), .pointer (some ⟨Bt, 0, none⟩)] w fun e w' => Reads (isGr w.heap.size) r A cap l w e w' (getGr rows.toNat l i) := by
  obtain ⟨hr, hfar⟩ := h.far'
  have Hfar0 : Hid (l = [] ∨ ∀ c o, A = some ⟨c, o, none⟩ → c ≠ w.heap.size) := hidP (hfar.imp id fun h c o e => by have := h c o e; omega)
  have hbl := hBt.lt
  have b0 : w.cell? ⟨Bt, 0, none⟩ = some (.int .i64 rows) := hBt.cell (i := 0) rfl
  have pr0 := hidP (Blk.new w 74 #[.int .i64 0, .slice none 0 0, .slice none 0 0, .slice none 0 0])
  have HC0 := hidP (h.below (alloc0 (Below.refl _ w) (.cells #[.int .i64 0, .slice none 0 0, .slice none 0 0, .slice none 0 0] 74)))
  have HO0 : Hid (Only r w (w.alloc (.cells #[.int .i64 0, .slice none 0 0, .slice none 0 0, .slice none 0 0] 74))) := (Only.refl r w).below (alloc0 (Below.refl _ w) _)
  clear h hfar hBt
  go_enter Tryz.func52, Tryz.ntmps52
  go_wp2_with fail
  refine (readGr_any rows hrw r A cap l i hl _ HC0.out).mono ?_
  intro e w1 h1
  cases hx1 : getGr rows.toNat l i with
  | none =>
    rw [hx1] at h1
    obtain ⟨o1, t, v, rfl⟩ := h1
    refine ⟨rfl, ?_⟩
    rw [hx1]
    exact ⟨only_trans HO0.out o1, t, v, rfl⟩
  | some p =>
  obtain ⟨x, c1⟩ := p
  rw [hx1] at h1
  obtain ⟨o1, h1, v, rfl, b1, f1, b2, f2, b3, f3, rfl, hg⟩ := h1
  have O0 := only_trans HO0.out o1
  have g1 := pr0.out.only o1 (by omega)
  have r0 : w1.cell? ⟨w.heap.size, 0, none⟩ = some (.int .i64 0) := g1.cell (i := 0) rfl
  have z0 := g1.thaw 0
  have r1 : w1.cell? ⟨w.heap.size, 1, none⟩ = some (.slice none 0 0) := g1.cell (i := 1) rfl
  have z1 := g1.thaw 1
  have r2 : w1.cell? ⟨w.heap.size, 2, none⟩ = some (.slice none 0 0) := g1.cell (i := 2) rfl
  have z2 := g1.thaw 2
  have r3 : w1.cell? ⟨w.heap.size, 3, none⟩ = some (.slice none 0 0) := g1.cell (i := 3) rfl
  have z3 := g1.thaw 3
  have qr := g1.lt
  have HOz := hidP (only_offp (only_offp (only_offp (only_offp (O0) (Offp.of_only ((Only.refl w.heap.size _).set 0 (Value.int .i64 x.gen))) (fun x e => by subst e; exact Nat.le_refl _)) (Offp.of_only ((Only.refl w.heap.size _).set 1 (Value.slice b1 (List.length x.m) f1))) (fun x e => by subst e; exact Nat.le_refl _)) (Offp.of_only ((Only.refl w.heap.size _).set 2 (Value.slice b2 (List.length x.b) f2))) (fun x e => by subst e; exact Nat.le_refl _)) (Offp.of_only ((Only.refl w.heap.size _).set 3 (Value.slice b3 (List.length x.o) f3))) (fun x e => by subst e; exact Nat.le_refl _))
  have HCz := hidP (Rd.offp (Rd.offp (Rd.offp (Rd.offp (h1) (Offp.of_only ((Only.refl w.heap.size _).set 0 (Value.int .i64 x.gen))) (by show r ≠ _; omega) Hfar0.out) (Offp.of_only ((Only.refl w.heap.size _).set 1 (Value.slice b1 (List.length x.m) f1))) (by show r ≠ _; omega) Hfar0.out) (Offp.of_only ((Only.refl w.heap.size _).set 2 (Value.slice b2 (List.length x.b) f2))) (by show r ≠ _; omega) Hfar0.out) (Offp.of_only ((Only.refl w.heap.size _).set 3 (Value.slice b3 (List.length x.o) f3))) (by show r ≠ _; omega) Hfar0.out)
  have ko : Offp (fun y => y = w.heap.size) w1 _ := ((((Offp.refl _ _).set (S := fun y => y = w.heap.size) rfl 0 (Value.int .i64 x.gen)).set (S := fun y => y = w.heap.size) rfl 1 (Value.slice b1 (List.length x.m) f1)).set (S := fun y => y = w.heap.size) rfl 2 (Value.slice b2 (List.length x.b) f2)).set (S := fun y => y = w.heap.size) rfl 3 (Value.slice b3 (List.length x.o) f3)
  have hsz := ko.size
  have HG := hidP (grpP_mono (T := fun b => w.heap.size ≤ b ∧ b < _) (grpP_firm _ _ _ _ _ hg ko (fun y hy e => by have h5 := hy.1; simp only [World.size_alloc] at h5; omega)) (fun y hy => ⟨by have h5 := hy.1; simp only [World.size_alloc] at h5; omega, Nat.lt_of_lt_of_le hy.2 hsz⟩))
  clear O0 g1 h1 o1 hg ko HC0 HO0 pr0 hsz
  go_wp2
  refine bodyPost_ret (v := .agg #[Value.int .i64 x.gen, Value.slice b1 (List.length x.m) f1, Value.slice b2 (List.length x.b) f2, Value.slice b3 (List.length x.o) f3]) (by simp [results, Tryz.results52, go_sem, r0, r1, r2, r3]) rfl ?_
  rw [hx1]
  exact ⟨HOz.out, HCz.out, _, rfl, b1, f1, b2, f2, b3, f3, rfl, HG.out⟩

def isGrs (B : Nat) (xs : List PG) (v : Value) (W : World) : Prop := ∃ (rs : List GC) (a : Option Addr) (cp : Nat), v = .slice a rs.length cp ∧ rs.map GC.p = xs ∧ rs.length ≤ cp ∧ Own grpP W a rs (fun b => B ≤ b ∧ b < W.heap.size)
theorem isGrs.mono {B B' : Nat} {xs : List PG} {v : Value} {W : World} (h : isGrs B xs v W) (hB : B' ≤ B) : isGrs B' xs v W := by
  obtain ⟨rs, a, cp, e, hm, hc, ho⟩ := h
  exact ⟨rs, a, cp, e, hm, hc, ho.mono fun b hb => ⟨Nat.le_trans hB hb.1, hb.2⟩⟩
set_option maxRecDepth 100000 in
set_option maxHeartbeats 2000000 in
theorem readManyGr_any (rows : Int) (hrw : I64 rows) (Bt : Nat) (r : Nat) (hBr : Bt ≠ r) (A : Option Addr) (cap : Nat) (l : List UInt8) (hl : l.length ≤ 1048576) (hcap : l.length ≤ cap) (hcm : cap ≤ 9223372036854775807) (n : Nat) (hn : n ≤ 2147483647) (c0 : Nat) (w : World) (hBt : Blk w Bt 3 #[.int .i64 rows]) (h : Rd w r A cap l (c0 : Int)) :
    Calls Tryz.prog 91 #[.pointer (some ⟨r, 0, none⟩), .int .i64 (n : Int), .func (.func 52) #[] #[.pointer (some ⟨Bt, 0, none⟩)]] w fun e w' => Reads (isGrs w.heap.size) r A cap l w e w' (getMany (getGr rows.toNat l) n c0) := by
  have HB := hidP hBt
  clear hBt
  obtain ⟨hr, hfar⟩ := h.far'
  have K0 : Hid (RO (α := GC) grpP 74 w w r A cap l c0 (.slice none 0 0) []) := RO.start ⟨h, Only.refl _ _, World.ownsRow_nil _ _ _ _, hr, hfar⟩
  clear h hr hfar
  go_enter Tryz.func91, Tryz.ntmps91
  go_wp2
  go_loopw [7, 9] (fun v i W => ∃ (k c cp : Nat) (a : Option Addr) (xs : List GC), i = .int .i64 (k : Int) ∧ v = .slice a (List.length xs) cp ∧ k ≤ n ∧ Hid (xs.length = k ∧ (k = 0 ∨ k ≤ c ∧ c ≤ l.length)) ∧ Hid (RO grpP 74 w W r A cap l c (.slice a xs.length cp) xs) ∧ Hid (getMany (getGr rows.toNat l) n c0 = addTo (xs.map GC.p) (getMany (getGr rows.toNat l) (n - k) c))) (fun _ i _ => n - (intOf i).toNat)
  case atStart => exact ⟨0, c0, 0, none, [], rfl, rfl, by omega, ⟨rfl, .inl rfl⟩, K0, by show _ = _; simp [addTo]⟩
  case round =>
    clear K0
    obtain ⟨k, c, cp, a, xs, rfl, rfl, hk, hkc, KK, hm⟩ := hrel
    by_cases hlt : k < n
    · have hlt' : (k : Int) < (n : Int) := by omega
      obtain ⟨m, hm1⟩ : ∃ m, n - k = m + 1 := ⟨n - k - 1, by omega⟩
      have hm2 : Hid (n - (k + 1) = m) := by show _ = _; omega
      rw [hm1] at hm
      clear hm1
      go_wp2_with fail
      refine (keep1_any rows hrw Bt r A cap l (c : Int) hl _ (HB.out.only KK.out.rl.only hBr) KK.out.rl.rd).mono ?_
      intro e w1 h1
      cases hx : getGr rows.toNat l (c : Int) with
      | none =>
        rw [hx] at h1
        obtain ⟨o1, t, v, rfl⟩ := h1
        refine ⟨rfl, ?_⟩
        rw [hm.out, many_none (xs.map GC.p) hx]
        exact ⟨only_trans KK.out.rl.only o1, t, v, rfl⟩
      | some p =>
        obtain ⟨x, d⟩ := p
        rw [hx] at h1
        obtain ⟨o1, r1, v, rfl, b1, f1, b2, f2, b3, f3, rfl, hown'⟩ := h1
        have hgd := getGr_le hx
        have hxl : xs.length ≤ 2000000 := by have := hkc.out; omega
        obtain ⟨a2, c2, W2, hr, K2⟩ := RO.app grpP_firm (pg := Tryz.prog) (z := .agg #[.int .i64 0, .slice none 0 0, .slice none 0 0, .slice none 0 0]) Tryz.underlying27 infoGC rfl (by decide) (by decide) KK.out o1 r1 (⟨x.gen, b1, f1, x.m, b2, f2, x.b, b3, f3, x.o⟩ : GC) hown' (fun y hy => hy) #[.int .i64 x.gen, .slice b1 x.m.length f1, .slice b2 x.b.length f2, .slice b3 x.o.length f3] rfl hxl
        have hm' := hidP (hm.out.trans (many_some (xs.map GC.p) hx))
        have hkc' : Hid ((xs ++ [(⟨x.gen, b1, f1, x.m, b2, f2, x.b, b3, f3, x.o⟩ : GC)]).length = k + 1 ∧ (k + 1 = 0 ∨ k + 1 ≤ d ∧ d ≤ l.length)) := by
          show _ ∧ _
          have := hkc.out
          exact ⟨by simp; omega, .inr (by omega)⟩
        have K2' : Hid (RO grpP 74 w W2 r A cap l d (.slice a2 (xs ++ [(⟨x.gen, b1, f1, x.m, b2, f2, x.b, b3, f3, x.o⟩ : GC)]).length c2) (xs ++ [⟨x.gen, b1, f1, x.m, b2, f2, x.b, b3, f3, x.o⟩])) := by show RO _ _ _ _ _ _ _ _ _ _ _; rw [List.length_append]; exact K2
        clear KK K2 hm hkc o1 r1 hx hgd hxl hown'
        go_wp2_with (at_builtin; refine wpList_append_is rfl _ _ _ rfl _ _ _ rfl rfl hr ?_)
        exact ⟨⟨k + 1, d, c2, a2, xs ++ [⟨x.gen, b1, f1, x.m, b2, f2, x.b, b3, f3, x.o⟩], by go_num, by rw [List.length_append]; rfl, by omega, hkc', K2', by show _ = _; rw [hm2.out, List.map_append]; exact hm'.out⟩, by simp [intOf]; omega⟩
    · obtain rfl : k = n := by omega
      go_wp2
      go_ret
      rw [hm.out, Nat.sub_self, many_end]
      have hle := (owns_form KK.out.rl.own)
      obtain ⟨_, _, e, hle⟩ := hle
      cases e
      exact ⟨KK.out.rl.only, KK.out.rl.rd, _, rfl, xs, a, cp, rfl, rfl, hle, KK.out.own⟩
set_option maxRecDepth 100000 in
set_option maxHeartbeats 2000000 in
theorem readListGr_any (rows : Int) (hrw : I64 rows) (Bt : Nat) (r : Nat) (hBr : Bt ≠ r) (A : Option Addr) (cap : Nat) (l : List UInt8) (i : Int) (hl : l.length ≤ 1048576) (hcap : l.length ≤ cap) (hcm : cap ≤ 9223372036854775807) (w : World) (hBt : Blk w Bt 3 #[.int .i64 rows]) (h : Rd w r A cap l i) :
    Calls Tryz.prog 51 #[.pointer (some ⟨r, 0, none⟩), .func (.func 52) #[] #[.pointer (some ⟨Bt, 0, none⟩)]] w fun e w' => Reads (isGrs w.heap.size) r A cap l w e w' (getList l (getGr rows.toNat l) i) := by
  have HC := hidP h
  have HB := hidP hBt
  clear h hBt
  go_enter Tryz.func51, Tryz.ntmps51
  go_wp2_with fail
  refine (readNum_any r A cap l i hl _ HC.out).mono ?_
  intro e w1 h1
  cases hx1 : getN l i with
  | none =>
    have hN : getList l (getGr rows.toNat l) i = none := by simp [getList, hx1]
    rw [hx1] at h1
    obtain ⟨o1, t, v, rfl⟩ := h1
    refine ⟨rfl, ?_⟩
    rw [hN]
    exact ⟨o1, t, v, rfl⟩
  | some x =>
  obtain ⟨n1, c1⟩ := x
  rw [hx1] at h1
  obtain ⟨o1, h1, v, rfl, rfl⟩ := h1
  have hle1 := getN_le hx1
  have hN : Hid (getList l (getGr rows.toNat l) i = getMany (getGr rows.toNat l) n1 c1) := hidP (by simp [getList, hx1])
  have HC1 := hidP h1
  have HO1 := hidP o1
  clear h1 o1 HC hx1
  go_wp2_with fail
  refine (readManyGr_any rows hrw Bt r hBr A cap l hl hcap hcm n1 hle1.1 c1 _ (HB.out.only HO1.out hBr) HC1.out).mono ?_
  intro e w2 h2
  cases hx2 : getMany (getGr rows.toNat l) n1 c1 with
  | none =>
    rw [hx2] at h2
    obtain ⟨o2, t, v, rfl⟩ := h2
    refine ⟨rfl, ?_⟩
    rw [hN.out, hx2]
    exact ⟨only_trans HO1.out o2, t, v, rfl⟩
  | some x =>
  obtain ⟨xs, c2⟩ := x
  rw [hx2] at h2
  obtain ⟨o2, h2, v, rfl, hv⟩ := h2
  have HC2 := hidP h2
  have HO2 := hidP (only_trans HO1.out o2)
  have hv' := hidP (hv.mono HO1.out.size)
  clear o2 h2 hv
  go_wp2
  refine bodyPost_ret (v := v) (by simp [results, Tryz.results51, go_sem]) rfl ?_
  rw [hN.out, hx2]
  exact ⟨HO2.out, HC2.out, _, rfl, hv'.out⟩
end Go.Proofs.YtjjbbkmedpfenaaGreat.Gen
