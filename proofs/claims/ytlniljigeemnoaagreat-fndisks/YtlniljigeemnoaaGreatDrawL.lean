/-
  A list that is drawn record by record; a number below any other. No condition.
-/
import Derived.Test.YtlniljigeemnoaaGreatKAl1
import Derived.Test.YtlniljigeemnoaaGreatDrawB
set_option linter.unusedVariables false
set_option linter.unusedSimpArgs false
set_option maxRecDepth 100000
set_option maxHeartbeats 8000000
namespace Go.Proofs.YtlniljigeemnoaaGreat.Gen
open ChangeShapes WideShapes ChangeAt RowKit Joins Deep Base
open Items (It)
structure DL {α : Type} [Cel α] (t : TypeId) (w W : World) (C cap : Nat) (A : Option Addr) (l : List By) (a : Option Addr) (c : Nat) (xs : List α) : Prop where
  on : Only C w W
  dr : Drawn W C A cap l
  own : W.ownsRow w.heap.size t (Cel.k α) (.slice a xs.length c) xs.length (flat xs)
  hC : C < w.heap.size
section
variable {α : Type} [Cel α] {t : TypeId} {w W W' : World} {C cap : Nat} {A : Option Addr} {l : List By} {a : Option Addr} {c : Nat} {xs : List α}
theorem DL.size (h : DL t w W C cap A l a c xs) : w.heap.size <= W.heap.size := h.on.size
theorem DL.below (h : DL t w W C cap A l a c xs) (g : Below W.heap.size W W') : DL t w W' C cap A l a c xs := ⟨h.on.below g, h.dr.below g, Qaq h.own g, h.hC⟩
theorem DL.alloc (h : DL t w W C cap A l a c xs) (ob : Obj) : DL t w (W.alloc ob) C cap A l a c xs := h.below (Qaf (Below.refl _ _) _)
theorem DL.only (h : DL t w W C cap A l a c xs) (k : Only C W W') (d : Drawn W' C A cap l) : DL t w W' C cap A l a c xs :=
 ⟨h.on.trans k, d, Qa9 h.own (Offp.of_only k) (fun y hy e => by have := (h.own.lt y hy).1; have := h.hC; omega), h.hC⟩
theorem DL.box {q : Nat} (h : DL t w W C cap A l a c xs) (k : Only q W W') (hq : w.heap.size <= q) (ho : (Value.slice a xs.length c).ownBlock ≠ some q) : DL t w W' C cap A l a c xs :=
 ⟨Qap h.on k hq, h.dr.only k (by have := h.hC; omega), Qa9 h.own (Offp.of_only k) (fun y hy e => ho (by rw [hy, e])), h.hC⟩
theorem DL.app {ts : TypeId} {z : Value} {bytes : Nat} (hu : Tryz.prog.underlying ts = some (.slice t)) (hinfo : (Tryz.prog.info? t).map (fun i => (i.zero, i.size, i.bytes)) = some (some z, Cel.k α, bytes)) (hz : z.cells.size = Cel.k α) (hk : 0 < Cel.k α) (hby : bytes <= 1000)
 (h : DL t w W C cap A l a c xs) (x : α) (cs : Array Value) (hcs : cs.toList = Cel.cs x) (hx : xs.length <= 1000000) :
 ∃ a2 c2 W2, (Builtin.append_ #[ts, ts] ts #[.slice a xs.length c, .slice (some ⟨W.heap.size, 0, none⟩) 1 1]).run Tryz.prog (W.alloc (.cells cs t)) = .ok (.slice a2 (xs.length + 1) c2) W2 /\ DL t w W2 C cap A l a2 c2 (xs ++ [x]) := by
 have h1 := h.alloc (.cells cs t)
 have hX : At (W.alloc (.cells cs t)) (some ⟨W.heap.size, 0, none⟩) [x] := by
  refine .inr ⟨_, 0, rfl, by simp, fun j u hu => ?_⟩
  rw [Qdc, ← hcs] at hu
  rw [Nat.zero_add]
  exact (Blk.new W t cs).cell (by simpa using hu)
 have hs := h1.size
 obtain ⟨v', W2, hr, hown, hgrow, hob⟩ := Qbd (P := Tryz.prog) (α := α) hu hinfo hz hk hby w.heap.size (.slice a xs.length c) xs [x] (some ⟨W.heap.size, 0, none⟩) 1 _ hs h1.own hX (by simp; omega)
 simp only [List.length_cons, List.length_nil, Nat.zero_add] at hown hr
 obtain ⟨a2, c2, rfl, _⟩ := Qao hown
 have ko := Qb5 hgrow
 have g : Below w.heap.size (W.alloc (.cells cs t)) W2 := ko.toBelow (fun z hz => (h.own.lt z hz).1) hs
 have hlen : (xs ++ [x]).length = xs.length + 1 := by simp
 exact ⟨a2, c2, W2, hr, Qgb h1.on (Nat.le_refl _) g, h1.dr.under g h.hC, by rw [hlen]; exact hown, h.hC⟩
end
theorem belowG_any (C : Nat) (A : Option Addr) (cap : Nat) (l : List By) (n : Int) (h1 : 1 <= n) (h2 : n <= 1000000000) (w : World) (hD : Drawn w C A cap l) :
 Calls Tryz.prog 31 #[.pointer (some ⟨C, 0, none⟩), .int .i64 n] w fun e w' => ∃ x : Int, e = .returned (.int .i64 x) /\ 0 <= x /\ x < n /\ Only C w w' /\ Drawn w' C A cap l := by
 by_cases h3 : n <= 256
 . exact Qa7 C A cap l n h1 h3 w hD
 have HD := hidP hD
 clear hD
 have hn : ¬ n <= 0 := by omega
 have hz : ¬ n = 0 := by omega
 go_enter Tryz.func31, Tryz.ntmps31
 go_wp2_with fail
 refine (Qeq C A cap l _ HD.out).mono ?_
 rintro e w1 ⟨x, rfl, hx0, hx1, k1, d1⟩
 have K1 := hidP k1
 have D1 := hidP d1
 clear k1 d1 HD
 go_wp2_with fail
 refine (Qeq C A cap l _ D1.out).mono ?_
 rintro e w2 ⟨y, rfl, hy0, hy1, k2, d2⟩
 have K2 := hidP (K1.out.trans k2)
 have D2 := hidP d2
 clear k2 d2 D1 K1
 go_wp2_with fail
 refine (Qeq C A cap l _ D2.out).mono ?_
 rintro e w3 ⟨z, rfl, hz0, hz1, k3, d3⟩
 have K3 := hidP (K2.out.trans k3)
 have D3 := hidP d3
 clear k3 d3 D2 K2
 go_wp2_with fail
 refine (Qeq C A cap l _ D3.out).mono ?_
 rintro e w4 ⟨v, rfl, hv0, hv1, k4, d4⟩
 have K4 := hidP (K3.out.trans k4)
 have D4 := hidP d4
 clear k4 d4 D3 K3
 have hm0 : 0 <= (x * 16777216 + y * 65536 + z * 256 + v) % n := Int.emod_nonneg _ hz
 have hm1 : (x * 16777216 + y * 65536 + z * 256 + v) % n < n := Int.emod_lt_of_pos _ (by omega)
 go_wp2
 go_ret
 exact ⟨_, rfl, hm0, hm1, K4.out, D4.out⟩
theorem infoCq : (Tryz.prog.info? 105).map (fun i => (i.zero, i.size, i.bytes)) = some (some (.agg Qa5), 8, 80) := by kernel_rfl
theorem Qh4 (C : Nat) (A : Option Addr) (cap : Nat) (l : List By) (most : Nat) (hm : most <= 200) (w : World) (hD : Drawn w C A cap l) :
 Calls Tryz.prog 67 #[.pointer (some ⟨C, 0, none⟩), .int .i64 (most : Int)] w fun e w' => ∃ (a : Option Addr) (c : Nat) (L : List Cq), e = .returned (.slice a L.length c) /\ L.length <= most /\ (∀ x ∈ L, x.key.size <= 30 /\ x.text.size <= 30) /\ DL 105 w w' C cap A l a c L := by
 have hC := hD.lt
 have I0 : DL (α := Cq) 105 w (w.alloc (.cells #[] 105)) C cap A l (some ⟨w.heap.size, 0, none⟩) 0 [] := ⟨Only.of_below (Qaf (Below.refl _ _) _), hD.below (Qaf (Below.refl _ _) _), Qdq (α := Cq) (Nat.le_refl _) rfl, hC⟩
 have HI := hidP I0
 clear hD I0
 go_enter Tryz.func67, Tryz.ntmps67
 go_wp2_with fail
 refine (Qa7 C A cap l ((most : Int) + 1) (by omega) (by omega) _ HI.out.dr).mono ?_
 rintro e w1 ⟨n, rfl, hn0, hn1, k1, d1⟩
 have I1 := HI.out.only k1 d1
 clear HI k1 d1
 go_wp2
 go_loopw [5, 7] (fun ov iv wx => ∃ (i : Nat) (a : Option Addr) (c : Nat) (L : List Cq), ov = .slice a L.length c /\ iv = .int .i64 (i : Int) /\ (i : Int) <= n /\ Hid (L.length = i) /\ Hid (∀ x ∈ L, x.key.size <= 30 /\ x.text.size <= 30) /\ DL 105 w wx C cap A l a c L) (fun _ iv _ => (n - intOf iv).toNat)
 case atStart => exact ⟨0, _, _, [], rfl, rfl, by omega, rfl, by show ∀ x ∈ _, _; simp, I1⟩
 case round =>
  clear I1
  obtain ⟨i, la, lc, L, rfl, rfl, hi, hl, hs, P⟩ := hrel
  by_cases hlt : (i : Int) < n
  . have HP := hidP P
    clear P
    go_wp2_with fail
    refine (Qen C A cap l _ HP.out.dr).mono ?_
    rintro e w2 ⟨who, seq, op, a, b, c, k, t, rfl, hdc, k2, d2⟩
    have Hsz := hidP hdc.size
    have P2 := HP.out.only k2 d2
    have hob : Hid (∀ z, (Value.slice la L.length lc).ownBlock = some z -> z < w2.heap.size) := fun z hz => Qbw P2.own hz
    have P3 := P2.alloc (.cells (Qad who seq op a b c k t) 105)
    have X3 := Blk.new w2 105 (Qad who seq op a b c k t)
    have hws : w.heap.size <= w2.heap.size := P2.size
    clear hdc k2 d2 P2 HP
    by_cases hw0 : 0 <= who
    . have HP3 := hidP P3
      obtain ⟨x0, x1, x2, x3, x4, x5, x6, x7⟩ := X3.row8c
      clear P3
      go_wp2_with fail
      refine (once_any C A cap l 4 (by omega) (by omega) _ HP3.out.dr).mono ?_
      rintro e w4 ⟨q, rfl, k4, d4⟩
      have P := HP3.out.only k4 d4
      have X4 := X3.only k4 (by omega)
      clear k4 d4 HP3 x0 x1 x2 x3 x4 x5 x6 x7 X3
      generalize w2.heap.size = X at X4 hob hws ⊢
      cases q
      . have H5 := hidP (And.intro (P.box ((Only.refl X w4).set 1 (.int .i64 ((i : Int) + 1))) hws (fun e => by have := hob.out _ e; omega)) (X4.setAt 1 (.int .i64 ((i : Int) + 1))))
        obtain ⟨x0, x1, x2, x3, x4, x5, x6, x7⟩ := X4.row8c
        have f1 := X4.thaw 1
        have lx := X4.lt
        clear P X4
        go_upto_region 9 with fail
        clear x0 x1 x2 x3 x4 x5 x6 x7 f1 lx
        generalize w4.setCell ⟨X, 1, none⟩ (.int .i64 ((i : Int) + 1)) = w5 at H5 ⊢
        obtain ⟨P, X5⟩ := H5.out
        have X5 : Blk w5 X 105 (Qad who ((i : Int) + 1) op a b c k t) := X5
        obtain ⟨a9, c9, W9, hr, P9⟩ := P.app Tryz.underlying114 infoCq rfl (by decide) (by decide) (⟨who, ((i : Int) + 1), op, a, b, c, k, t⟩ : Cq) (Qad who ((i : Int) + 1) op a b c k t) rfl (by have := hl.out; omega)
        obtain ⟨x0, x1, x2, x3, x4, x5, x6, x7⟩ := X5.row8c
        have lx := X5.lt
        go_wp2_with (at_builtin; refine Qae rfl _ _ _ rfl _ _ _ rfl rfl hr ?_)
        exact ⟨⟨i + 1, a9, c9, L ++ [(⟨who, ((i : Int) + 1), op, a, b, c, k, t⟩ : Cq)], by rw [List.length_append]; rfl, by go_num, by omega, by show _ = _; rw [List.length_append, hl.out]; rfl, by show ∀ x ∈ _, _; intro x hx; rcases List.mem_append.1 hx with h | h; exact hs.out x h; rw [List.mem_singleton] at h; subst h; exact Hsz.out, P9⟩, by simp [intOf]; omega⟩
      . go_upto_region 9 with fail
        obtain ⟨a9, c9, W9, hr, P9⟩ := P.app Tryz.underlying114 infoCq rfl (by decide) (by decide) (⟨who, seq, op, a, b, c, k, t⟩ : Cq) (Qad who seq op a b c k t) rfl (by have := hl.out; omega)
        obtain ⟨x0, x1, x2, x3, x4, x5, x6, x7⟩ := X4.row8c
        have lx := X4.lt
        go_wp2_with (at_builtin; refine Qae rfl _ _ _ rfl _ _ _ rfl rfl hr ?_)
        exact ⟨⟨i + 1, a9, c9, L ++ [(⟨who, seq, op, a, b, c, k, t⟩ : Cq)], by rw [List.length_append]; rfl, by go_num, by omega, by show _ = _; rw [List.length_append, hl.out]; rfl, by show ∀ x ∈ _, _; intro x hx; rcases List.mem_append.1 hx with h | h; exact hs.out x h; rw [List.mem_singleton] at h; subst h; exact Hsz.out, P9⟩, by simp [intOf]; omega⟩
    . have P := P3
      clear P3
      have nw : ¬ who >= 0 := by omega
      obtain ⟨x0, x1, x2, x3, x4, x5, x6, x7⟩ := X3.row8c
      go_upto_region 9 with fail
      clear x0 x1 x2 x3 x4 x5 x6 x7
      have X4 := X3
      clear X3
      generalize w2.alloc (.cells (Qad who seq op a b c k t) 105) = w4 at P X4 ⊢
      generalize w2.heap.size = X at X4 hob hws ⊢
      obtain ⟨a9, c9, W9, hr, P9⟩ := P.app Tryz.underlying114 infoCq rfl (by decide) (by decide) (⟨who, seq, op, a, b, c, k, t⟩ : Cq) (Qad who seq op a b c k t) rfl (by have := hl.out; omega)
      obtain ⟨x0, x1, x2, x3, x4, x5, x6, x7⟩ := X4.row8c
      have lx := X4.lt
      go_wp2_with (at_builtin; refine Qae rfl _ _ _ rfl _ _ _ rfl rfl hr ?_)
      exact ⟨⟨i + 1, a9, c9, L ++ [(⟨who, seq, op, a, b, c, k, t⟩ : Cq)], by rw [List.length_append]; rfl, by go_num, by omega, by show _ = _; rw [List.length_append, hl.out]; rfl, by show ∀ x ∈ _, _; intro x hx; rcases List.mem_append.1 hx with h | h; exact hs.out x h; rw [List.mem_singleton] at h; subst h; exact Hsz.out, P9⟩, by simp [intOf]; omega⟩
  . go_wp2
    go_ret
    exact ⟨la, lc, L, rfl, by have := hl.out; omega, hs.out, P⟩
theorem Qgv (C : Nat) (A : Option Addr) (cap : Nat) (l : List By) (w : World) (hD : Drawn w C A cap l) :
 Calls Tryz.prog 65 #[.pointer (some ⟨C, 0, none⟩)] w fun e w' => ∃ (ro wi le ke : Int), e = .returned (.agg (Qan ro wi le ke)) /\ setB ro wi le ke = true /\ Only C w w' /\ Drawn w' C A cap l := by
 have hC := hD.lt
 have O0 : Only C w (w.alloc (.cells Qdz 84)) := Only.of_below (Qaf (Below.refl _ _) _)
 have D0 := hD.below (Qaf (Below.refl _ w) (.cells Qdz 84))
 have R0 := Blk.new w 84 Qdz
 have H0 := hidP (And.intro O0 D0)
 clear hD O0 D0
 go_enter Tryz.func65, Tryz.ntmps65
 go_wp2_with fail
 refine (Qa7 C A cap l 3 (by omega) (by omega) _ H0.out.2).mono ?_
 rintro e w1 ⟨x, rfl, hx0, hx1, k1, d1⟩
 have O1 := (H0.out.1.trans k1).below (Qaf (Below.refl _ w1) (.cells (Qcj 1 2 5) 3))
 have D1 := d1.below (Qaf (Below.refl _ w1) (.cells (Qcj 1 2 5) 3))
 have R1 := (R0.only k1 (by omega)).alloc (.cells (Qcj 1 2 5) 3)
 have I1 := Qe3 w1 ([⟨1⟩, ⟨2⟩, ⟨5⟩] : List Nu) (Qcj 1 2 5) 3 rfl
 have s1 : w.heap.size < w1.heap.size := (R0.only k1 (by omega)).lt
 have H1 := hidP (And.intro O1 (And.intro D1 I1))
 clear H0 k1 d1 O1 D1 I1 R0
 go_wp2_with fail
 refine (Qcy C A cap l w1.heap.size 0 3 ([⟨1⟩, ⟨2⟩, ⟨5⟩] : List Nu) (by simp) (by simp) _ H1.out.2.1 (by simp) (by omega) H1.out.2.2).mono ?_
 rintro e w2 ⟨y, hy, rfl, k2, d2⟩
 have h2 : 1 <= y.n /\ y.n <= 5 := by
  simp only [List.mem_cons, List.not_mem_nil, or_false] at hy
  rcases hy with rfl | rfl | rfl<;>exact ⟨by decide, by decide⟩
 generalize y.n = wi at *
 have O2 := (H1.out.1.trans k2).below (Qaf (Below.refl _ w2) (.cells (Qan 1 2 3 8) 3))
 have D2 := d2.below (Qaf (Below.refl _ w2) (.cells (Qan 1 2 3 8) 3))
 have R2 := (R1.only k2 (by omega)).alloc (.cells (Qan 1 2 3 8) 3)
 have I2 := Qe3 w2 ([⟨1⟩, ⟨2⟩, ⟨3⟩, ⟨8⟩] : List Nu) (Qan 1 2 3 8) 3 rfl
 have s2 : w.heap.size < w2.heap.size := (R1.only k2 (by omega)).lt
 have H2 := hidP (And.intro O2 (And.intro D2 I2))
 clear H1 k2 d2 O2 D2 I2 hy R1 s1
 go_wp2_with fail
 refine (Qcy C A cap l w2.heap.size 0 4 ([⟨1⟩, ⟨2⟩, ⟨3⟩, ⟨8⟩] : List Nu) (by simp) (by simp) _ H2.out.2.1 (by simp) (by omega) H2.out.2.2).mono ?_
 rintro e w3 ⟨z, hz, rfl, k3, d3⟩
 have h3 : 1 <= z.n /\ z.n <= 8 := by
  simp only [List.mem_cons, List.not_mem_nil, or_false] at hz
  rcases hz with rfl | rfl | rfl | rfl<;>exact ⟨by decide, by decide⟩
 generalize z.n = le at *
 have O3 := (H2.out.1.trans k3).below (Qaf (Below.refl _ w3) (.cells (Qan 0 1 3 10) 3))
 have D3 := d3.below (Qaf (Below.refl _ w3) (.cells (Qan 0 1 3 10) 3))
 have R3 := (R2.only k3 (by omega)).alloc (.cells (Qan 0 1 3 10) 3)
 have I3 := Qe3 w3 ([⟨0⟩, ⟨1⟩, ⟨3⟩, ⟨10⟩] : List Nu) (Qan 0 1 3 10) 3 rfl
 have s3 : w.heap.size < w3.heap.size := (R2.only k3 (by omega)).lt
 have H3 := hidP (And.intro O3 (And.intro D3 I3))
 clear H2 k3 d3 O3 D3 I3 hz R2 s2
 go_wp2_with fail
 refine (Qcy C A cap l w3.heap.size 0 4 ([⟨0⟩, ⟨1⟩, ⟨3⟩, ⟨10⟩] : List Nu) (by simp) (by simp) _ H3.out.2.1 (by simp) (by omega) H3.out.2.2).mono ?_
 rintro e w4 ⟨v, hv, rfl, k4, d4⟩
 have h4 : 0 <= v.n /\ v.n <= 10 := by
  simp only [List.mem_cons, List.not_mem_nil, or_false] at hv
  rcases hv with rfl | rfl | rfl | rfl<;>exact ⟨by decide, by decide⟩
 generalize v.n = ke at *
 have O4 := hidP (H3.out.1.trans k4)
 have D4 := hidP d4
 have R4 := R3.only k4 (by omega)
 obtain ⟨r0, r1, r2, r3⟩ := R4.row4
 have f0 := R4.thaw 0; have f1 := R4.thaw 1; have f2 := R4.thaw 2; have f3 := R4.thaw 3
 have q4 := R4.lt
 clear H3 k4 d4 hv R3 s3
 go_wp2
 refine bodyPost_ret (v := .agg (Qan (1 + x) wi le ke)) (by simp [results, Tryz.results65, go_sem, r0, r1, r2, r3]) rfl ⟨1 + x, wi, le, ke, rfl, ?_, ?_, ?_⟩
 . simp only [setB, inB, Bool.and_eq_true, decide_eq_true_eq]
   omega
 . exact Qap O4.out ((((Only.refl w.heap.size w4).set 0 _).set 1 _).set 2 _ |>.set 3 _) (Nat.le_refl _)
 . exact D4.out.only ((((Only.refl w.heap.size w4).set 0 _).set 1 _).set 2 _ |>.set 3 _) hC
theorem Qd3 (R : Nat) (hR : 1 <= R /\ R <= 4) (ro wi le ke : Int) (hro : ro = R) (hset : setB ro wi le ke = true) (A : Option Addr) (cap : Nat) (L : List Cq) (hL : L.length <= 900) (hks : ∀ c ∈ L, c.key.size <= 30 /\ c.text.size <= 30) (w : World) (hA : At w A L) :
 Calls Tryz.prog 66 #[.agg (Qan ro wi le ke), .slice A L.length cap] w fun e w' => ∃ (y : KC) (v : Value), e = .returned (.tuple #[.agg y.cells, v]) /\ y.p = allQ ro wi le ke (newK true ro) L /\ Kin R L.length y.p /\ KV w' y (fun b => w.heap.size < b /\ b < w'.heap.size) /\ Below w.heap.size w w' := by
 have HSET : Hid (∀ W : World, Calls Tryz.prog 79 #[.agg (Qan ro wi le ke)] W fun e w' => e = .returned (.bool true) /\ Below W.heap.size W w') := fun W => by have h := Qc8 ro wi le ke W; rw [hset] at h; exact h
 have HNEW : Hid (∀ W : World, Calls Tryz.prog 78 #[.agg (Qan ro wi le ke)] W fun e w' => ToldK W w' e (newK true ro)) := fun W => by have h := Qfk ro wi le ke W; rw [hset] at h; exact h
 have hb : (1 <= wi /\ wi <= 5) /\ (1 <= le /\ le <= 100) /\ 0 <= ke := by
  simp only [setB, inB, Bool.and_eq_true, decide_eq_true_eq] at hset
  omega
 have Hb := hidP hb
 have HA := hidP hA
 have Hks := hidP hks
 have Hro := hidP hro
 have HR := hidP hR
 clear hset hb hA hks hro hR
 go_enter Tryz.func66, Tryz.ntmps66
 go_wp2_with fail
 have B0 : Below w.heap.size w (((w.alloc (.cells (Qan ro wi le ke) 84)).alloc (.cells Qab 90)).alloc (.cells #[] 130)) := by repeat (first | exact Below.refl _ _ | assumption | refine via0 (by assumption) ?_ | refine Below.drew ?_ | refine Qaf ?_ _)
 have s0 : Blk (((w.alloc (.cells (Qan ro wi le ke) 84)).alloc (.cells Qab 90)).alloc (.cells #[] 130)) w.heap.size 84 (Qan ro wi le ke) := ((Blk.new w _ _).alloc _).alloc _
 have r0 : Blk (((w.alloc (.cells (Qan ro wi le ke) 84)).alloc (.cells Qab 90)).alloc (.cells #[] 130)) (w.heap.size + 1) 90 Qab := by have := (Blk.new (w.alloc (.cells (Qan ro wi le ke) 84)) 90 Qab).alloc (.cells #[] 130); rwa [World.size_alloc] at this
 have o0 : (((w.alloc (.cells (Qan ro wi le ke) 84)).alloc (.cells Qab 90)).alloc (.cells #[] 130)).ownsRow (w.heap.size + 1 + 1) 130 4 (.slice (some ⟨w.heap.size + 1 + 1, 0, none⟩) ([] : List An).length 0) ([] : List An).length (flat ([] : List An)) := Qdq (α := An) (by simp) (by simp)
 have hz0 : (((w.alloc (.cells (Qan ro wi le ke) 84)).alloc (.cells Qab 90)).alloc (.cells #[] 130)).heap.size = w.heap.size + 1 + 1 + 1 := by simp
 refine (HNEW.out _).mono ?_
 rintro e w1 ⟨y, he, hp, ho, g1⟩
 simp only [KC.cells] at he
 subst he
 have s1 := s0.below g1 s0.lt
 have r1 := r0.below g1 r0.lt
 have o1 := Qaq o0 g1
 have k1 := ho.kv
 rw [hz0] at k1
 have z1 : w.heap.size + 1 + 1 + 1 <= w1.heap.size := Nat.le_trans (Nat.le_of_eq hz0.symm) g1.size
 have I0 : Al w (w1.alloc (.cells (Qaa y.rA y.rs.length y.rc y.mA y.ms.length y.mc y.gA y.gs.length y.gc y.time y.dA y.ds.length y.dc y.lA y.ls.length y.lc) 90)) w1.heap.size (Qan ro wi le ke) (some ⟨w.heap.size + 1 + 1, 0, none⟩) 0 [] y (w.heap.size + 1 + 1 + 1) w1.heap.size :=
  ⟨s1.alloc _, r1.alloc _, Blk.new w1 _ _, k1.below (Qaf (Below.refl _ _) _), by simp, Qav o1 _, fun z hz => by have e : w.heap.size + 1 + 1 = z := Option.some.inj hz; omega, Qaf (via0 g1 B0) _, by omega, by omega⟩
 have Hp : Hid (y.p = allQ ro wi le ke (newK true ro) (L.take 0)) := by show _ = _; rw [hp]; rfl
 have HK : Hid (Kin R 0 y.p) := by show Kin _ _ _; rw [hp]; exact newK_R Hro.out HR.out
 have hz9 : w1.heap.size < (w1.alloc (.cells (Qaa y.rA y.rs.length y.rc y.mA y.ms.length y.mc y.gA y.gs.length y.gc y.time y.dA y.ds.length y.dc y.lA y.ls.length y.lc) 90)).heap.size := by simp
 clear B0 s0 r0 o0 hz0 hp ho g1 s1 r1 o1 k1 z1
 go_upto_region 3 with fail
 generalize w1.alloc (.cells (Qaa y.rA y.rs.length y.rc y.mA y.ms.length y.mc y.gA y.gs.length y.gc y.time y.dA y.ds.length y.dc y.lA y.ls.length y.lc) 90) = X1 at I0 hz9 ⊢
 generalize w1.heap.size = PT at I0 hz9 ⊢
 go_wp2
 go_loopw [6, 8] (fun ov i wx => ∃ (n : Nat) (a : Option Addr) (c : Nat) (xs : List An) (y : KC) (lo hi : Nat), ov = .slice a xs.length c /\ i = .int .i64 (n : Int) /\ n <= L.length /\ Hid (xs.length = n) /\ Hid (y.p = allQ ro wi le ke (newK true ro) (L.take n) /\ Kin R n y.p) /\ Al w wx PT (Qan ro wi le ke) a c xs y lo hi) (fun _ i _ => L.length - (intOf i).toNat)
 case atStart => exact ⟨0, _, _, [], y, _, _, rfl, rfl, by omega, rfl, ⟨Hp.out, HK.out⟩, I0⟩
 case round =>
  clear I0 Hp HK
  obtain ⟨n, a, c, xs, y, lo, hi, rfl, rfl, hn, hxl, hy, P⟩ := hrel
  by_cases hlt : n < L.length
  . obtain ⟨b, o, rfl, hbs, hIn⟩ : ∃ b o, A = some ⟨b, o, none⟩ /\ b < w.heap.size /\ In w b o L := by
     rcases HA.out with h | h
     . subst h; simp at hlt
     . exact h
    have HCM : Hid (∀ W : World, Below w.heap.size w W -> W.cell? ⟨b, o + n * 8, none⟩ = some (.int .i64 L[n].who) /\ W.cell? ⟨b, o + n * 8 + 1, none⟩ = some (.int .i64 L[n].seq) /\ W.cell? ⟨b, o + n * 8 + 2, none⟩ = some (.int .i64 L[n].op) /\ W.cell? ⟨b, o + n * 8 + 3, none⟩ = some (.int .i64 L[n].a) /\ W.cell? ⟨b, o + n * 8 + 4, none⟩ = some (.int .i64 L[n].b) /\ W.cell? ⟨b, o + n * 8 + 5, none⟩ = some (.int .i64 L[n].c) /\ W.cell? ⟨b, o + n * 8 + 6, none⟩ = some (.string L[n].key) /\ W.cell? ⟨b, o + n * 8 + 7, none⟩ = some (.string L[n].text)) := fun W g => (hIn.below hbs g).getCq n hlt
    have hn0 : (0 : Int) <= (n : Int) := by omega
    have hn1 : (n : Int) < (L.length : Int) := by omega
    have hsz := Hks.out L[n] (List.getElem_mem hlt)
    have HCK : Hid (∀ W : World, Calls Tryz.prog 77 #[.agg (Qad L[n].who L[n].seq L[n].op L[n].a L[n].b L[n].c L[n].key L[n].text)] W fun e w' => e = .returned (.bool (okC L[n])) /\ Below W.heap.size W w') := fun W => CmdOk.spec_any _ _ _ _ _ _ _ _ (by omega) (by omega) W
    clear hIn hsz
    have P1 := P.alloc (.cells Qai 130)
    have A1 := Blk.new wr 130 Qai
    have hPA : w.heap.size + 1 < wr.heap.size /\ PT < wr.heap.size /\ hi <= wr.heap.size := ⟨by have := P.rb.lt; omega, P.kb.lt, P.hi'⟩
    have hOA : Hid (∀ z, (Value.slice a xs.length c).ownBlock = some z -> z < wr.heap.size) := fun z hz => Qbw P.own hz
    clear P
    have HP1 := hidP P1
    obtain ⟨u0, u1, u2, u3⟩ := P1.sb.row4
    have ls1 := P1.sb.lt
    clear P1
    go_wp2_with fail
    refine (HSET.out _).mono ?_
    rintro e w2 ⟨rfl, g2⟩
    have P2 := HP1.out.below g2
    have A2 := A1.below g2 A1.lt
    clear g2 HP1 A1 u0 u1 u2 u3 ls1
    generalize wr.heap.size = PA at A2 hPA hOA ⊢
    obtain ⟨v0, v1, v2, v3, v4, v5, v6, v7⟩ := HCM.out _ P2.bl
    have lb2 : b < w2.heap.size := Nat.lt_of_lt_of_le hbs P2.bl.size
    go_wp2_with fail
    refine (HCK.out _).mono ?_
    rintro e W3a ⟨rfl, g3⟩
    have P := P2.below g3
    have A9 := A2.below g3 A2.lt
    clear g3 P2 A2 v0 v1 v2 v3 v4 v5 v6 v7 lb2
    obtain ⟨ok, hok⟩ : ∃ ok, okC L[n] = ok := ⟨_, rfl⟩
    rw [hok]
    have Hok := hidP hok
    clear hok
    cases ok
    . go_upto_region 11 with fail
      obtain ⟨a9, c9, W9, hr, P9⟩ := P.app zAn Qai rfl (by have := hxl.out; omega)
      obtain ⟨n0, n1, n2, n3⟩ := A9.row4
      have la9 := A9.lt
      go_wp2_with (at_builtin; refine Qae rfl _ _ _ rfl _ _ _ rfl rfl hr ?_)
      exact ⟨⟨n + 1, a9, c9, xs ++ [zAn], y, lo, hi, by rw [List.length_append]; rfl, by go_num, by omega, by show _ = _; rw [List.length_append, hxl.out]; rfl, ⟨by rw [Qia _ _ _ _ _ _ _ hlt, ← hy.out.1]; unfold stepQ; rw [Hok.out]; rfl, hy.out.2.mono (Nat.le_succ n)⟩, P9⟩, by simp [intOf]; omega⟩
    . go_upto_region 8 with fail
      have HDO : Hid (∀ W : World, KAt W y -> Calls Tryz.prog 80 #[.agg (Qan ro wi le ke), .agg (Qaa y.rA y.rs.length y.rc y.mA y.ms.length y.mc y.gA y.gs.length y.gc y.time y.dA y.ds.length y.dc y.lA y.ls.length y.lc), .agg (Qad L[n].who L[n].seq L[n].op L[n].a L[n].b L[n].c L[n].key L[n].text)] W fun e w' => Qbu (fun _ => False) W w' e (doQ ro wi le ke y.p L[n]).1 (doQ ro wi le ke y.p L[n]).2) := fun W hW =>
       doQ_any R n (by omega) HR.out ro wi le ke Hro.out Hb.out.1 Hb.out.2.1 Hb.out.2.2 y.rA y.rc y.rs y.mA y.mc y.ms y.gA y.gc y.gs y.time y.dA y.dc y.ds y.lA y.lc y.ls L[n].who L[n].seq L[n].op L[n].a L[n].b L[n].c L[n].key L[n].text (okC_R Hok.out) W hW hy.out.2
      obtain ⟨DA, hDA⟩ : ∃ q, (doQ ro wi le ke y.p L[n]).2 = q := ⟨_, rfl⟩
      rw [hDA] at HDO
      clear hDA
      have mkS : ∀ V : World, Al w V PT (Qan ro wi le ke) a c xs y lo hi -> (fun (V : World) => V.cell? ⟨w.heap.size, 0, none⟩ = some (.int .i64 ro) /\ V.cell? ⟨w.heap.size, 1, none⟩ = some (.int .i64 wi) /\ V.cell? ⟨w.heap.size, 2, none⟩ = some (.int .i64 le) /\ V.cell? ⟨w.heap.size, 3, none⟩ = some (.int .i64 ke) /\ V.cell? ⟨PT, 0, none⟩ = some (.slice y.rA y.rs.length y.rc) /\ V.cell? ⟨PT, 1, none⟩ = some (.slice y.mA y.ms.length y.mc) /\ V.cell? ⟨PT, 2, none⟩ = some (.slice y.gA y.gs.length y.gc) /\ V.cell? ⟨PT, 3, none⟩ = some (.int .i64 y.time) /\ V.cell? ⟨PT, 4, none⟩ = some (.slice y.dA y.ds.length y.dc) /\ V.cell? ⟨PT, 5, none⟩ = some (.slice y.lA y.ls.length y.lc) /\ V.cell? ⟨b, o + n * 8, none⟩ = some (.int .i64 L[n].who) /\ V.cell? ⟨b, o + n * 8 + 1, none⟩ = some (.int .i64 L[n].seq) /\ V.cell? ⟨b, o + n * 8 + 2, none⟩ = some (.int .i64 L[n].op) /\ V.cell? ⟨b, o + n * 8 + 3, none⟩ = some (.int .i64 L[n].a) /\ V.cell? ⟨b, o + n * 8 + 4, none⟩ = some (.int .i64 L[n].b) /\ V.cell? ⟨b, o + n * 8 + 5, none⟩ = some (.int .i64 L[n].c) /\ V.cell? ⟨b, o + n * 8 + 6, none⟩ = some (.string L[n].key) /\ V.cell? ⟨b, o + n * 8 + 7, none⟩ = some (.string L[n].text)) V := fun V p => by
       obtain ⟨a0, a1, a2, a3⟩ := p.sb.row4
       obtain ⟨k0, k1, k2, k3, k4, k5⟩ := p.kb.row6
       obtain ⟨v0, v1, v2, v3, v4, v5, v6, v7⟩ := HCM.out V p.bl
       exact ⟨a0, a1, a2, a3, k0, k1, k2, k3, k4, k5, v0, v1, v2, v3, v4, v5, v6, v7⟩
      have hPAl : PA < W3a.heap.size := A9.lt
      have P := P.drew
      have A9 : Blk W3a.drew PA 130 Qai := A9
      go_cut [10, 11] from 31 to 40 (fun pa pb wx => ∃ (PB PD : Nat) (z : KC) (ac aN : Int) (ak ax : ByteArray) (lo2 hi2 : Nat), pa = .pointer (some ⟨PB, 0, none⟩) /\ pb = .pointer (some ⟨PD, 0, none⟩) /\ Al w wx PT (Qan ro wi le ke) a c xs y lo hi /\ Blk wx PA 130 Qai /\ Blk wx PB 90 (Qaa z.rA z.rs.length z.rc z.mA z.ms.length z.mc z.gA z.gs.length z.gc z.time z.dA z.ds.length z.dc z.lA z.ls.length z.lc) /\ Blk wx PD 130 (Qas ac aN ak ax) /\ Hid (KV wx z (fun b => lo2 <= b /\ b < hi2)) /\ Hid (z.p = (doQ ro wi le ke y.p L[n]).1) /\ Hid (DA = ⟨ac, aN, ak, ax⟩) /\ hi2 <= wx.heap.size /\ W3a.heap.size <= lo2 /\ PB ≠ PT /\ PD ≠ PT /\ PA ≠ PB /\ PA ≠ PD)
      case first =>
       refine wp_region_noPanic ?_
       refine wp_region_held_drew (S := (fun (V : World) => V.cell? ⟨w.heap.size, 0, none⟩ = some (.int .i64 ro) /\ V.cell? ⟨w.heap.size, 1, none⟩ = some (.int .i64 wi) /\ V.cell? ⟨w.heap.size, 2, none⟩ = some (.int .i64 le) /\ V.cell? ⟨w.heap.size, 3, none⟩ = some (.int .i64 ke) /\ V.cell? ⟨PT, 0, none⟩ = some (.slice y.rA y.rs.length y.rc) /\ V.cell? ⟨PT, 1, none⟩ = some (.slice y.mA y.ms.length y.mc) /\ V.cell? ⟨PT, 2, none⟩ = some (.slice y.gA y.gs.length y.gc) /\ V.cell? ⟨PT, 3, none⟩ = some (.int .i64 y.time) /\ V.cell? ⟨PT, 4, none⟩ = some (.slice y.dA y.ds.length y.dc) /\ V.cell? ⟨PT, 5, none⟩ = some (.slice y.lA y.ls.length y.lc) /\ V.cell? ⟨b, o + n * 8, none⟩ = some (.int .i64 L[n].who) /\ V.cell? ⟨b, o + n * 8 + 1, none⟩ = some (.int .i64 L[n].seq) /\ V.cell? ⟨b, o + n * 8 + 2, none⟩ = some (.int .i64 L[n].op) /\ V.cell? ⟨b, o + n * 8 + 3, none⟩ = some (.int .i64 L[n].a) /\ V.cell? ⟨b, o + n * 8 + 4, none⟩ = some (.int .i64 L[n].b) /\ V.cell? ⟨b, o + n * 8 + 5, none⟩ = some (.int .i64 L[n].c) /\ V.cell? ⟨b, o + n * 8 + 6, none⟩ = some (.string L[n].key) /\ V.cell? ⟨b, o + n * 8 + 7, none⟩ = some (.string L[n].text))) (by kernel_rfl) ?_ (fun hH => ?_)
       . exact mkS _ P
       refine ztk [0,1,2,3,4,5] ?_; repeat (refine ztn (hS := hH) (h := ?_); try simp only [zX,zY])
       refine zte ?_
       generalize hW3 : W3a.drew = W3 at P A9 hH ⊢
       have hz3 : W3.heap.size = W3a.heap.size := (by rw [← hW3]; rfl)
       have hbnd : PT < W3.heap.size /\ PA < W3.heap.size /\ hi <= W3.heap.size /\ w.heap.size + 1 < PT /\ w.heap.size + 1 < PA := ⟨P.kb.lt, A9.lt, P.hi', P.pt.1, hPA.1⟩
       have HOB : Hid (∀ z, (Value.slice a xs.length c).ownBlock = some z -> z < W3.heap.size) := fun z hz => Qbw P.own hz
       have Hz3 := hidP hz3
       clear hW3 hz3
       refine zR3 6 10 11 (fun K hK => ?_) (fun K hK => ?_) (fun K hK => ?_)
       focus
        simp only [zG]
        go_simp
        refine (HDO.out _ P.kv.at).mono ?_; rintro e w5 ⟨z, ur, ug, ud, ul, rfl, hpz, hqz, hoz⟩; have g5 : Below (W3).heap.size (W3) w5 := hoz.toBelow (fun _ h => h.elim) (Nat.le_refl _); have z5 := g5.size; have hkz := (hqz.kv).mono (S' := fun b => (W3).heap.size <= b /\ b < w5.heap.size) (fun b _ hb => hb.elim (fun h => h.elim) id); simp only [KC.cells]; have z5 : W3.heap.size <= w5.heap.size := z5; have hkz : KV w5 z (fun b => W3.heap.size <= b /\ b < w5.heap.size) := hkz; have P := P.below g5; have A9 := A9.below g5 A9.lt; clear hqz hoz g5
        refine hK.out _ _ (mkS _ P) fun hH => ?_; clear hK K; try simp only [zX,zY]
        refine ztk [7,8,9] ?_; repeat (refine ztn (hS := hH) (h := ?_); try simp only [zX,zY])
        refine zte ?_
        refine zR2 10 11 (fun K hK => ?_) (fun K hK => ?_)
        focus
         simp only [zG]
         go_simp
         have B10 : Blk (w5.alloc (.cells Qab 90)) (w5.heap.size) 90 Qab := Blk.new w5 90 Qab; have P := P.alloc (.cells Qab 90); have A9 := A9.alloc (.cells Qab 90); have hkz := hkz.below (Qaf (Below.refl _ _) (.cells Qab 90))
         refine hK.out _ _ (mkS _ P) fun hH => ?_; clear hK K; try simp only [zX,zY]
         refine zR1 11 (fun K hK => ?_)
         simp only [zG]
         go_simp
         have B11 : Blk ((w5.alloc (.cells Qab 90)).alloc (.cells Qai 130)) (w5.heap.size + 1) 130 Qai := (by have h9 := Blk.new (w5.alloc (.cells Qab 90)) 130 Qai; simpa using h9); have P := P.alloc (.cells Qai 130); have A9 := A9.alloc (.cells Qai 130); have B10 := B10.alloc (.cells Qai 130); have hkz := hkz.below (Qaf (Below.refl _ _) (.cells Qai 130))
         refine hK.out _ _ (mkS _ P) fun hH => ?_; clear hK K; try simp only [zX,zY]
         have hB1 : W3.heap.size <= (w5.heap.size) /\ W3.heap.size <= (w5.heap.size + 1) /\ (w5.heap.size) ≠ (w5.heap.size + 1) /\ ¬ (W3.heap.size <= (w5.heap.size) /\ (w5.heap.size) < w5.heap.size) /\ ¬ (W3.heap.size <= (w5.heap.size + 1) /\ (w5.heap.size + 1) < w5.heap.size) /\ W3.heap.size <= W3.heap.size := (by omega)
         have hle5 : w5.heap.size <= (((w5.alloc (.cells Qab 90)).alloc (.cells Qai 130))).heap.size := (by simp only [World.size_alloc]; omega)
         have hpz := hidP hpz
         clear z5
         obtain ⟨lo2, hi2, hkz, hB1, hle5⟩ : ∃ lo2 hi2, KV (((w5.alloc (.cells Qab 90)).alloc (.cells Qai 130))) z (fun b => lo2 <= b /\ b < hi2) /\ (W3.heap.size <= (w5.heap.size) /\ W3.heap.size <= (w5.heap.size + 1) /\ (w5.heap.size) ≠ (w5.heap.size + 1) /\ ¬ (lo2 <= (w5.heap.size) /\ (w5.heap.size) < hi2) /\ ¬ (lo2 <= (w5.heap.size + 1) /\ (w5.heap.size + 1) < hi2) /\ W3.heap.size <= lo2) /\ hi2 <= (((w5.alloc (.cells Qab 90)).alloc (.cells Qai 130))).heap.size := ⟨_, _, hkz, hB1, hle5⟩
         have hlo3 : W3a.heap.size <= lo2 := (by have h9 := Hz3.out; omega)
         have nb : (w5.heap.size) ≠ PT /\ w.heap.size + 1 < (w5.heap.size) /\ ¬ (lo <= (w5.heap.size) /\ (w5.heap.size) < hi) /\ PA ≠ (w5.heap.size) /\ (Value.slice a xs.length c).ownBlock ≠ some (w5.heap.size) := ⟨by omega, by omega, by omega, by omega, fun e => by have := HOB.out _ e; omega⟩
         have nd : (w5.heap.size + 1) ≠ PT /\ w.heap.size + 1 < (w5.heap.size + 1) /\ ¬ (lo <= (w5.heap.size + 1) /\ (w5.heap.size + 1) < hi) /\ PA ≠ (w5.heap.size + 1) /\ (Value.slice a xs.length c).ownBlock ≠ some (w5.heap.size + 1) := ⟨by omega, by omega, by omega, by omega, fun e => by have := HOB.out _ e; omega⟩
         generalize ((w5.alloc (.cells Qab 90)).alloc (.cells Qai 130)) = w6 at P A9 B10 B11 hkz hle5 ⊢
         generalize (w5.heap.size + 1) = PD at B10 B11 hB1 nb nd ⊢
         generalize (w5.heap.size) = PB at B10 B11 hB1 nb nd ⊢
        rotate_left
        focus
         simp only [zG]
         go_simp
         have B11 : Blk (w5.alloc (.cells Qai 130)) (w5.heap.size) 130 Qai := Blk.new w5 130 Qai; have P := P.alloc (.cells Qai 130); have A9 := A9.alloc (.cells Qai 130); have hkz := hkz.below (Qaf (Below.refl _ _) (.cells Qai 130))
         refine hK.out _ _ (mkS _ P) fun hH => ?_; clear hK K; try simp only [zX,zY]
         refine zR1 10 (fun K hK => ?_)
         simp only [zG]
         go_simp
         have B10 : Blk ((w5.alloc (.cells Qai 130)).alloc (.cells Qab 90)) (w5.heap.size + 1) 90 Qab := (by have h9 := Blk.new (w5.alloc (.cells Qai 130)) 90 Qab; simpa using h9); have P := P.alloc (.cells Qab 90); have A9 := A9.alloc (.cells Qab 90); have B11 := B11.alloc (.cells Qab 90); have hkz := hkz.below (Qaf (Below.refl _ _) (.cells Qab 90))
         refine hK.out _ _ (mkS _ P) fun hH => ?_; clear hK K; try simp only [zX,zY]
         have hB1 : W3.heap.size <= (w5.heap.size + 1) /\ W3.heap.size <= (w5.heap.size) /\ (w5.heap.size + 1) ≠ (w5.heap.size) /\ ¬ (W3.heap.size <= (w5.heap.size + 1) /\ (w5.heap.size + 1) < w5.heap.size) /\ ¬ (W3.heap.size <= (w5.heap.size) /\ (w5.heap.size) < w5.heap.size) /\ W3.heap.size <= W3.heap.size := (by omega)
         have hle5 : w5.heap.size <= (((w5.alloc (.cells Qai 130)).alloc (.cells Qab 90))).heap.size := (by simp only [World.size_alloc]; omega)
         have hpz := hidP hpz
         clear z5
         obtain ⟨lo2, hi2, hkz, hB1, hle5⟩ : ∃ lo2 hi2, KV (((w5.alloc (.cells Qai 130)).alloc (.cells Qab 90))) z (fun b => lo2 <= b /\ b < hi2) /\ (W3.heap.size <= (w5.heap.size + 1) /\ W3.heap.size <= (w5.heap.size) /\ (w5.heap.size + 1) ≠ (w5.heap.size) /\ ¬ (lo2 <= (w5.heap.size + 1) /\ (w5.heap.size + 1) < hi2) /\ ¬ (lo2 <= (w5.heap.size) /\ (w5.heap.size) < hi2) /\ W3.heap.size <= lo2) /\ hi2 <= (((w5.alloc (.cells Qai 130)).alloc (.cells Qab 90))).heap.size := ⟨_, _, hkz, hB1, hle5⟩
         have hlo3 : W3a.heap.size <= lo2 := (by have h9 := Hz3.out; omega)
         have nb : (w5.heap.size + 1) ≠ PT /\ w.heap.size + 1 < (w5.heap.size + 1) /\ ¬ (lo <= (w5.heap.size + 1) /\ (w5.heap.size + 1) < hi) /\ PA ≠ (w5.heap.size + 1) /\ (Value.slice a xs.length c).ownBlock ≠ some (w5.heap.size + 1) := ⟨by omega, by omega, by omega, by omega, fun e => by have := HOB.out _ e; omega⟩
         have nd : (w5.heap.size) ≠ PT /\ w.heap.size + 1 < (w5.heap.size) /\ ¬ (lo <= (w5.heap.size) /\ (w5.heap.size) < hi) /\ PA ≠ (w5.heap.size) /\ (Value.slice a xs.length c).ownBlock ≠ some (w5.heap.size) := ⟨by omega, by omega, by omega, by omega, fun e => by have := HOB.out _ e; omega⟩
         generalize ((w5.alloc (.cells Qai 130)).alloc (.cells Qab 90)) = w6 at P A9 B10 B11 hkz hle5 ⊢
         generalize (w5.heap.size + 1) = PB at B10 B11 hB1 nb nd ⊢
         generalize (w5.heap.size) = PD at B10 B11 hB1 nb nd ⊢
       rotate_left 2
       focus
        simp only [zG]
        go_simp
        have B10 : Blk (W3.alloc (.cells Qab 90)) (W3.heap.size) 90 Qab := Blk.new W3 90 Qab; have P := P.alloc (.cells Qab 90); have A9 := A9.alloc (.cells Qab 90)
        refine hK.out _ _ (mkS _ P) fun hH => ?_; clear hK K; try simp only [zX,zY]
        refine zR2 6 11 (fun K hK => ?_) (fun K hK => ?_)
        focus
         simp only [zG]
         go_simp
         refine (HDO.out _ P.kv.at).mono ?_; rintro e w5 ⟨z, ur, ug, ud, ul, rfl, hpz, hqz, hoz⟩; have g5 : Below ((W3.alloc (.cells Qab 90))).heap.size ((W3.alloc (.cells Qab 90))) w5 := hoz.toBelow (fun _ h => h.elim) (Nat.le_refl _); have z5 := g5.size; have hkz := (hqz.kv).mono (S' := fun b => ((W3.alloc (.cells Qab 90))).heap.size <= b /\ b < w5.heap.size) (fun b _ hb => hb.elim (fun h => h.elim) id); simp only [KC.cells]; simp only [World.size_alloc] at z5 hkz; have z5 : W3.heap.size + 1 <= w5.heap.size := z5; have hkz : KV w5 z (fun b => W3.heap.size + 1 <= b /\ b < w5.heap.size) := hkz; have P := P.below g5; have A9 := A9.below g5 A9.lt; have B10 := B10.below g5 B10.lt; clear hqz hoz g5
         refine hK.out _ _ (mkS _ P) fun hH => ?_; clear hK K; try simp only [zX,zY]
         refine ztk [7,8,9] ?_; repeat (refine ztn (hS := hH) (h := ?_); try simp only [zX,zY])
         refine zte ?_
         refine zR1 11 (fun K hK => ?_)
         simp only [zG]
         go_simp
         have B11 : Blk (w5.alloc (.cells Qai 130)) (w5.heap.size) 130 Qai := Blk.new w5 130 Qai; have P := P.alloc (.cells Qai 130); have A9 := A9.alloc (.cells Qai 130); have B10 := B10.alloc (.cells Qai 130); have hkz := hkz.below (Qaf (Below.refl _ _) (.cells Qai 130))
         refine hK.out _ _ (mkS _ P) fun hH => ?_; clear hK K; try simp only [zX,zY]
         have hB1 : W3.heap.size <= (W3.heap.size) /\ W3.heap.size <= (w5.heap.size) /\ (W3.heap.size) ≠ (w5.heap.size) /\ ¬ (W3.heap.size + 1 <= (W3.heap.size) /\ (W3.heap.size) < w5.heap.size) /\ ¬ (W3.heap.size + 1 <= (w5.heap.size) /\ (w5.heap.size) < w5.heap.size) /\ W3.heap.size <= W3.heap.size + 1 := (by omega)
         have hle5 : w5.heap.size <= ((w5.alloc (.cells Qai 130))).heap.size := (by simp only [World.size_alloc]; omega)
         have hpz := hidP hpz
         clear z5
         obtain ⟨lo2, hi2, hkz, hB1, hle5⟩ : ∃ lo2 hi2, KV ((w5.alloc (.cells Qai 130))) z (fun b => lo2 <= b /\ b < hi2) /\ (W3.heap.size <= (W3.heap.size) /\ W3.heap.size <= (w5.heap.size) /\ (W3.heap.size) ≠ (w5.heap.size) /\ ¬ (lo2 <= (W3.heap.size) /\ (W3.heap.size) < hi2) /\ ¬ (lo2 <= (w5.heap.size) /\ (w5.heap.size) < hi2) /\ W3.heap.size <= lo2) /\ hi2 <= ((w5.alloc (.cells Qai 130))).heap.size := ⟨_, _, hkz, hB1, hle5⟩
         have hlo3 : W3a.heap.size <= lo2 := (by have h9 := Hz3.out; omega)
         have nb : (W3.heap.size) ≠ PT /\ w.heap.size + 1 < (W3.heap.size) /\ ¬ (lo <= (W3.heap.size) /\ (W3.heap.size) < hi) /\ PA ≠ (W3.heap.size) /\ (Value.slice a xs.length c).ownBlock ≠ some (W3.heap.size) := ⟨by omega, by omega, by omega, by omega, fun e => by have := HOB.out _ e; omega⟩
         have nd : (w5.heap.size) ≠ PT /\ w.heap.size + 1 < (w5.heap.size) /\ ¬ (lo <= (w5.heap.size) /\ (w5.heap.size) < hi) /\ PA ≠ (w5.heap.size) /\ (Value.slice a xs.length c).ownBlock ≠ some (w5.heap.size) := ⟨by omega, by omega, by omega, by omega, fun e => by have := HOB.out _ e; omega⟩
         generalize (w5.alloc (.cells Qai 130)) = w6 at P A9 B10 B11 hkz hle5 ⊢
         generalize (W3.heap.size) = PB at B10 B11 hB1 nb nd ⊢
         generalize (w5.heap.size) = PD at B10 B11 hB1 nb nd ⊢
        rotate_left
        focus
         simp only [zG]
         go_simp
         have B11 : Blk ((W3.alloc (.cells Qab 90)).alloc (.cells Qai 130)) (W3.heap.size + 1) 130 Qai := (by have h9 := Blk.new (W3.alloc (.cells Qab 90)) 130 Qai; simpa using h9); have P := P.alloc (.cells Qai 130); have A9 := A9.alloc (.cells Qai 130); have B10 := B10.alloc (.cells Qai 130)
         refine hK.out _ _ (mkS _ P) fun hH => ?_; clear hK K; try simp only [zX,zY]
         refine zR1 6 (fun K hK => ?_)
         simp only [zG]
         go_simp
         refine (HDO.out _ P.kv.at).mono ?_; rintro e w5 ⟨z, ur, ug, ud, ul, rfl, hpz, hqz, hoz⟩; have g5 : Below (((W3.alloc (.cells Qab 90)).alloc (.cells Qai 130))).heap.size (((W3.alloc (.cells Qab 90)).alloc (.cells Qai 130))) w5 := hoz.toBelow (fun _ h => h.elim) (Nat.le_refl _); have z5 := g5.size; have hkz := (hqz.kv).mono (S' := fun b => (((W3.alloc (.cells Qab 90)).alloc (.cells Qai 130))).heap.size <= b /\ b < w5.heap.size) (fun b _ hb => hb.elim (fun h => h.elim) id); simp only [KC.cells]; simp only [World.size_alloc] at z5 hkz; have z5 : W3.heap.size + 1 + 1 <= w5.heap.size := z5; have hkz : KV w5 z (fun b => W3.heap.size + 1 + 1 <= b /\ b < w5.heap.size) := hkz; have P := P.below g5; have A9 := A9.below g5 A9.lt; have B10 := B10.below g5 B10.lt; have B11 := B11.below g5 B11.lt; clear hqz hoz g5
         refine hK.out _ _ (mkS _ P) fun hH => ?_; clear hK K; try simp only [zX,zY]
         refine ztk [7,8,9] ?_; repeat (refine ztn (hS := hH) (h := ?_); try simp only [zX,zY])
         refine zte ?_
         have hB1 : W3.heap.size <= (W3.heap.size) /\ W3.heap.size <= (W3.heap.size + 1) /\ (W3.heap.size) ≠ (W3.heap.size + 1) /\ ¬ (W3.heap.size + 1 + 1 <= (W3.heap.size) /\ (W3.heap.size) < w5.heap.size) /\ ¬ (W3.heap.size + 1 + 1 <= (W3.heap.size + 1) /\ (W3.heap.size + 1) < w5.heap.size) /\ W3.heap.size <= W3.heap.size + 1 + 1 := (by omega)
         have hle5 : w5.heap.size <= (w5).heap.size := (by omega)
         have hpz := hidP hpz
         clear z5
         obtain ⟨lo2, hi2, hkz, hB1, hle5⟩ : ∃ lo2 hi2, KV (w5) z (fun b => lo2 <= b /\ b < hi2) /\ (W3.heap.size <= (W3.heap.size) /\ W3.heap.size <= (W3.heap.size + 1) /\ (W3.heap.size) ≠ (W3.heap.size + 1) /\ ¬ (lo2 <= (W3.heap.size) /\ (W3.heap.size) < hi2) /\ ¬ (lo2 <= (W3.heap.size + 1) /\ (W3.heap.size + 1) < hi2) /\ W3.heap.size <= lo2) /\ hi2 <= (w5).heap.size := ⟨_, _, hkz, hB1, hle5⟩
         have hlo3 : W3a.heap.size <= lo2 := (by have h9 := Hz3.out; omega)
         have nb : (W3.heap.size) ≠ PT /\ w.heap.size + 1 < (W3.heap.size) /\ ¬ (lo <= (W3.heap.size) /\ (W3.heap.size) < hi) /\ PA ≠ (W3.heap.size) /\ (Value.slice a xs.length c).ownBlock ≠ some (W3.heap.size) := ⟨by omega, by omega, by omega, by omega, fun e => by have := HOB.out _ e; omega⟩
         have nd : (W3.heap.size + 1) ≠ PT /\ w.heap.size + 1 < (W3.heap.size + 1) /\ ¬ (lo <= (W3.heap.size + 1) /\ (W3.heap.size + 1) < hi) /\ PA ≠ (W3.heap.size + 1) /\ (Value.slice a xs.length c).ownBlock ≠ some (W3.heap.size + 1) := ⟨by omega, by omega, by omega, by omega, fun e => by have := HOB.out _ e; omega⟩
         generalize w5 = w6 at P A9 B10 B11 hkz hle5 ⊢
         generalize (W3.heap.size + 1) = PD at B10 B11 hB1 nb nd ⊢
         generalize (W3.heap.size) = PB at B10 B11 hB1 nb nd ⊢
       rotate_left 2
       focus
        simp only [zG]
        go_simp
        have B11 : Blk (W3.alloc (.cells Qai 130)) (W3.heap.size) 130 Qai := Blk.new W3 130 Qai; have P := P.alloc (.cells Qai 130); have A9 := A9.alloc (.cells Qai 130)
        refine hK.out _ _ (mkS _ P) fun hH => ?_; clear hK K; try simp only [zX,zY]
        refine zR2 6 10 (fun K hK => ?_) (fun K hK => ?_)
        focus
         simp only [zG]
         go_simp
         refine (HDO.out _ P.kv.at).mono ?_; rintro e w5 ⟨z, ur, ug, ud, ul, rfl, hpz, hqz, hoz⟩; have g5 : Below ((W3.alloc (.cells Qai 130))).heap.size ((W3.alloc (.cells Qai 130))) w5 := hoz.toBelow (fun _ h => h.elim) (Nat.le_refl _); have z5 := g5.size; have hkz := (hqz.kv).mono (S' := fun b => ((W3.alloc (.cells Qai 130))).heap.size <= b /\ b < w5.heap.size) (fun b _ hb => hb.elim (fun h => h.elim) id); simp only [KC.cells]; simp only [World.size_alloc] at z5 hkz; have z5 : W3.heap.size + 1 <= w5.heap.size := z5; have hkz : KV w5 z (fun b => W3.heap.size + 1 <= b /\ b < w5.heap.size) := hkz; have P := P.below g5; have A9 := A9.below g5 A9.lt; have B11 := B11.below g5 B11.lt; clear hqz hoz g5
         refine hK.out _ _ (mkS _ P) fun hH => ?_; clear hK K; try simp only [zX,zY]
         refine ztk [7,8,9] ?_; repeat (refine ztn (hS := hH) (h := ?_); try simp only [zX,zY])
         refine zte ?_
         refine zR1 10 (fun K hK => ?_)
         simp only [zG]
         go_simp
         have B10 : Blk (w5.alloc (.cells Qab 90)) (w5.heap.size) 90 Qab := Blk.new w5 90 Qab; have P := P.alloc (.cells Qab 90); have A9 := A9.alloc (.cells Qab 90); have B11 := B11.alloc (.cells Qab 90); have hkz := hkz.below (Qaf (Below.refl _ _) (.cells Qab 90))
         refine hK.out _ _ (mkS _ P) fun hH => ?_; clear hK K; try simp only [zX,zY]
         have hB1 : W3.heap.size <= (w5.heap.size) /\ W3.heap.size <= (W3.heap.size) /\ (w5.heap.size) ≠ (W3.heap.size) /\ ¬ (W3.heap.size + 1 <= (w5.heap.size) /\ (w5.heap.size) < w5.heap.size) /\ ¬ (W3.heap.size + 1 <= (W3.heap.size) /\ (W3.heap.size) < w5.heap.size) /\ W3.heap.size <= W3.heap.size + 1 := (by omega)
         have hle5 : w5.heap.size <= ((w5.alloc (.cells Qab 90))).heap.size := (by simp only [World.size_alloc]; omega)
         have hpz := hidP hpz
         clear z5
         obtain ⟨lo2, hi2, hkz, hB1, hle5⟩ : ∃ lo2 hi2, KV ((w5.alloc (.cells Qab 90))) z (fun b => lo2 <= b /\ b < hi2) /\ (W3.heap.size <= (w5.heap.size) /\ W3.heap.size <= (W3.heap.size) /\ (w5.heap.size) ≠ (W3.heap.size) /\ ¬ (lo2 <= (w5.heap.size) /\ (w5.heap.size) < hi2) /\ ¬ (lo2 <= (W3.heap.size) /\ (W3.heap.size) < hi2) /\ W3.heap.size <= lo2) /\ hi2 <= ((w5.alloc (.cells Qab 90))).heap.size := ⟨_, _, hkz, hB1, hle5⟩
         have hlo3 : W3a.heap.size <= lo2 := (by have h9 := Hz3.out; omega)
         have nb : (w5.heap.size) ≠ PT /\ w.heap.size + 1 < (w5.heap.size) /\ ¬ (lo <= (w5.heap.size) /\ (w5.heap.size) < hi) /\ PA ≠ (w5.heap.size) /\ (Value.slice a xs.length c).ownBlock ≠ some (w5.heap.size) := ⟨by omega, by omega, by omega, by omega, fun e => by have := HOB.out _ e; omega⟩
         have nd : (W3.heap.size) ≠ PT /\ w.heap.size + 1 < (W3.heap.size) /\ ¬ (lo <= (W3.heap.size) /\ (W3.heap.size) < hi) /\ PA ≠ (W3.heap.size) /\ (Value.slice a xs.length c).ownBlock ≠ some (W3.heap.size) := ⟨by omega, by omega, by omega, by omega, fun e => by have := HOB.out _ e; omega⟩
         generalize (w5.alloc (.cells Qab 90)) = w6 at P A9 B10 B11 hkz hle5 ⊢
         generalize (w5.heap.size) = PB at B10 B11 hB1 nb nd ⊢
         generalize (W3.heap.size) = PD at B10 B11 hB1 nb nd ⊢
        rotate_left
        focus
         simp only [zG]
         go_simp
         have B10 : Blk ((W3.alloc (.cells Qai 130)).alloc (.cells Qab 90)) (W3.heap.size + 1) 90 Qab := (by have h9 := Blk.new (W3.alloc (.cells Qai 130)) 90 Qab; simpa using h9); have P := P.alloc (.cells Qab 90); have A9 := A9.alloc (.cells Qab 90); have B11 := B11.alloc (.cells Qab 90)
         refine hK.out _ _ (mkS _ P) fun hH => ?_; clear hK K; try simp only [zX,zY]
         refine zR1 6 (fun K hK => ?_)
         simp only [zG]
         go_simp
         refine (HDO.out _ P.kv.at).mono ?_; rintro e w5 ⟨z, ur, ug, ud, ul, rfl, hpz, hqz, hoz⟩; have g5 : Below (((W3.alloc (.cells Qai 130)).alloc (.cells Qab 90))).heap.size (((W3.alloc (.cells Qai 130)).alloc (.cells Qab 90))) w5 := hoz.toBelow (fun _ h => h.elim) (Nat.le_refl _); have z5 := g5.size; have hkz := (hqz.kv).mono (S' := fun b => (((W3.alloc (.cells Qai 130)).alloc (.cells Qab 90))).heap.size <= b /\ b < w5.heap.size) (fun b _ hb => hb.elim (fun h => h.elim) id); simp only [KC.cells]; simp only [World.size_alloc] at z5 hkz; have z5 : W3.heap.size + 1 + 1 <= w5.heap.size := z5; have hkz : KV w5 z (fun b => W3.heap.size + 1 + 1 <= b /\ b < w5.heap.size) := hkz; have P := P.below g5; have A9 := A9.below g5 A9.lt; have B10 := B10.below g5 B10.lt; have B11 := B11.below g5 B11.lt; clear hqz hoz g5
         refine hK.out _ _ (mkS _ P) fun hH => ?_; clear hK K; try simp only [zX,zY]
         refine ztk [7,8,9] ?_; repeat (refine ztn (hS := hH) (h := ?_); try simp only [zX,zY])
         refine zte ?_
         have hB1 : W3.heap.size <= (W3.heap.size + 1) /\ W3.heap.size <= (W3.heap.size) /\ (W3.heap.size + 1) ≠ (W3.heap.size) /\ ¬ (W3.heap.size + 1 + 1 <= (W3.heap.size + 1) /\ (W3.heap.size + 1) < w5.heap.size) /\ ¬ (W3.heap.size + 1 + 1 <= (W3.heap.size) /\ (W3.heap.size) < w5.heap.size) /\ W3.heap.size <= W3.heap.size + 1 + 1 := (by omega)
         have hle5 : w5.heap.size <= (w5).heap.size := (by omega)
         have hpz := hidP hpz
         clear z5
         obtain ⟨lo2, hi2, hkz, hB1, hle5⟩ : ∃ lo2 hi2, KV (w5) z (fun b => lo2 <= b /\ b < hi2) /\ (W3.heap.size <= (W3.heap.size + 1) /\ W3.heap.size <= (W3.heap.size) /\ (W3.heap.size + 1) ≠ (W3.heap.size) /\ ¬ (lo2 <= (W3.heap.size + 1) /\ (W3.heap.size + 1) < hi2) /\ ¬ (lo2 <= (W3.heap.size) /\ (W3.heap.size) < hi2) /\ W3.heap.size <= lo2) /\ hi2 <= (w5).heap.size := ⟨_, _, hkz, hB1, hle5⟩
         have hlo3 : W3a.heap.size <= lo2 := (by have h9 := Hz3.out; omega)
         have nb : (W3.heap.size + 1) ≠ PT /\ w.heap.size + 1 < (W3.heap.size + 1) /\ ¬ (lo <= (W3.heap.size + 1) /\ (W3.heap.size + 1) < hi) /\ PA ≠ (W3.heap.size + 1) /\ (Value.slice a xs.length c).ownBlock ≠ some (W3.heap.size + 1) := ⟨by omega, by omega, by omega, by omega, fun e => by have := HOB.out _ e; omega⟩
         have nd : (W3.heap.size) ≠ PT /\ w.heap.size + 1 < (W3.heap.size) /\ ¬ (lo <= (W3.heap.size) /\ (W3.heap.size) < hi) /\ PA ≠ (W3.heap.size) /\ (Value.slice a xs.length c).ownBlock ≠ some (W3.heap.size) := ⟨by omega, by omega, by omega, by omega, fun e => by have := HOB.out _ e; omega⟩
         generalize w5 = w6 at P A9 B10 B11 hkz hle5 ⊢
         generalize (W3.heap.size + 1) = PB at B10 B11 hB1 nb nd ⊢
         generalize (W3.heap.size) = PD at B10 B11 hB1 nb nd ⊢
       all_goals
        have l10 := B10.lt
        have l11 := B11.lt
        obtain ⟨⟨ac, aN, ak, ax⟩, haa⟩ : ∃ q : An, DA = q := ⟨_, rfl⟩
        rw [haa]
        simp only
        have haa := hidP haa
        obtain ⟨z0, z1, z2, z3, z4, z5⟩ := B10.row6
        have f0 := B10.thaw 0; have f1 := B10.thaw 1; have f2 := B10.thaw 2; have f3 := B10.thaw 3; have f4 := B10.thaw 4; have f5 := B10.thaw 5
        have P9 := P.only (Qac w6 PB (.slice z.rA z.rs.length z.rc) (.slice z.mA z.ms.length z.mc) (.slice z.gA z.gs.length z.gc) (.int .i64 z.time) (.slice z.dA z.ds.length z.dc) (.slice z.lA z.ls.length z.lc)) ⟨nb.2.1, nb.1, nb.2.2.1⟩ nb.2.2.2.2
        have C10 := Qax B10 (.slice z.rA z.rs.length z.rc) (.slice z.mA z.ms.length z.mc) (.slice z.gA z.gs.length z.gc) (.int .i64 z.time) (.slice z.dA z.ds.length z.dc) (.slice z.lA z.ls.length z.lc)
        have C11 := B11.only (Qac w6 PB (.slice z.rA z.rs.length z.rc) (.slice z.mA z.ms.length z.mc) (.slice z.gA z.gs.length z.gc) (.int .i64 z.time) (.slice z.dA z.ds.length z.dc) (.slice z.lA z.ls.length z.lc)) (fun e => hB1.2.2.1 e.symm)
        have C9 := A9.only (Qac w6 PB (.slice z.rA z.rs.length z.rc) (.slice z.mA z.ms.length z.mc) (.slice z.gA z.gs.length z.gc) (.int .i64 z.time) (.slice z.dA z.ds.length z.dc) (.slice z.lA z.ls.length z.lc)) nb.2.2.2.1
        have kz := hkz.offp (Offp.of_only (Qac w6 PB (.slice z.rA z.rs.length z.rc) (.slice z.mA z.ms.length z.mc) (.slice z.gA z.gs.length z.gc) (.int .i64 z.time) (.slice z.dA z.ds.length z.dc) (.slice z.lA z.ls.length z.lc))) (fun q hq e => hB1.2.2.2.1 (e ▸ hq))
        obtain ⟨y0, y1, y2, y3⟩ := C11.row4
        have e0 := C11.thaw 0; have e1 := C11.thaw 1; have e2 := C11.thaw 2; have e3 := C11.thaw 3
        have PX := P9.only (Qah (putK w6 PB (.slice z.rA z.rs.length z.rc) (.slice z.mA z.ms.length z.mc) (.slice z.gA z.gs.length z.gc) (.int .i64 z.time) (.slice z.dA z.ds.length z.dc) (.slice z.lA z.ls.length z.lc)) PD (.int .i64 ac) (.int .i64 aN) (.string ak) (.string ax)) ⟨nd.2.1, nd.1, nd.2.2.1⟩ nd.2.2.2.2
        have D10 := C10.only (Qah (putK w6 PB (.slice z.rA z.rs.length z.rc) (.slice z.mA z.ms.length z.mc) (.slice z.gA z.gs.length z.gc) (.int .i64 z.time) (.slice z.dA z.ds.length z.dc) (.slice z.lA z.ls.length z.lc)) PD (.int .i64 ac) (.int .i64 aN) (.string ak) (.string ax)) hB1.2.2.1
        have D11 := Qer C11 (.int .i64 ac) (.int .i64 aN) (.string ak) (.string ax)
        have D9 := C9.only (Qah (putK w6 PB (.slice z.rA z.rs.length z.rc) (.slice z.mA z.ms.length z.mc) (.slice z.gA z.gs.length z.gc) (.int .i64 z.time) (.slice z.dA z.ds.length z.dc) (.slice z.lA z.ls.length z.lc)) PD (.int .i64 ac) (.int .i64 aN) (.string ak) (.string ax)) nd.2.2.2.1
        have kz := hidP (kz.offp (Offp.of_only (Qah (putK w6 PB (.slice z.rA z.rs.length z.rc) (.slice z.mA z.ms.length z.mc) (.slice z.gA z.gs.length z.gc) (.int .i64 z.time) (.slice z.dA z.ds.length z.dc) (.slice z.lA z.ls.length z.lc)) PD (.int .i64 ac) (.int .i64 aN) (.string ak) (.string ax))) (fun q hq e => hB1.2.2.2.2.1 (e ▸ hq)))
        have hz6 : (putN (putK w6 PB (.slice z.rA z.rs.length z.rc) (.slice z.mA z.ms.length z.mc) (.slice z.gA z.gs.length z.gc) (.int .i64 z.time) (.slice z.dA z.ds.length z.dc) (.slice z.lA z.ls.length z.lc)) PD (.int .i64 ac) (.int .i64 aN) (.string ak) (.string ax)).heap.size = w6.heap.size := (by simp)
        refine zR1 12 (fun K hK => ?_)
        simp only [zG]
        go_simp
        skip
        refine hK.out _ _ (mkS _ P9) fun hH => ?_; clear hK K; try simp only [zX,zY]
        refine zR1 13 (fun K hK => ?_)
        simp only [zG]
        go_simp
        skip
        refine hK.out _ _ (mkS _ PX) fun hH => ?_; clear hK K; try simp only [zX,zY]
        refine zdn ?_
        go_wp2_with fail
        go_meet
        exact ⟨PB, PD, z, ac, aN, ak, ax, lo2, hi2, rfl, rfl, PX, D9, D10, D11, kz, hpz, haa, by rw [hz6]; exact hle5, hlo3, nb.1, nd.1, nb.2.2.2.1, nd.2.2.2.1⟩
      case rest =>
       obtain ⟨PB, PD, z, ac, aN, ak, ax, lo2, hi2, rfl, rfl, P5, D9, D10, D11, kz, hpz, haa, hhi2, hlo3, n1', n2', n3', n4'⟩ := hcut
       clear mkS P A9
       have kk := Qac wc PT (.slice z.rA z.rs.length z.rc) (.slice z.mA z.ms.length z.mc) (.slice z.gA z.gs.length z.gc) (.int .i64 z.time) (.slice z.dA z.ds.length z.dc) (.slice z.lA z.ls.length z.lc)
       have P6 := P5.setK kk (Qax P5.kb (.slice z.rA z.rs.length z.rc) (.slice z.mA z.ms.length z.mc) (.slice z.gA z.gs.length z.gc) (.int .i64 z.time) (.slice z.dA z.ds.length z.dc) (.slice z.lA z.ls.length z.lc)) kz.out hhi2 (fun q hq => by have h9 := hOA.out q hq; omega) (by omega)
       have E9 := D9.only kk (by omega)
       have E11 := D11.only kk n2'
       have H6 := hidP (And.intro P6 (And.intro E9 E11))
       obtain ⟨k0, k1, k2, k3, k4, k5⟩ := P5.kb.row6
       have f0 := P5.kb.thaw 0; have f1 := P5.kb.thaw 1; have f2 := P5.kb.thaw 2; have f3 := P5.kb.thaw 3; have f4 := P5.kb.thaw 4; have f5 := P5.kb.thaw 5
       obtain ⟨z0, z1, z2, z3, z4, z5⟩ := D10.row6
       have q5 := P5.kb.lt
       have q10 := D10.lt
       clear P6 E9 E11 kk P5 D9 D10 D11 kz
       go_upto_region 10 with fail
       clear k0 k1 k2 k3 k4 k5 f0 f1 f2 f3 f4 f5 z0 z1 z2 z3 z4 z5 q5 q10
       generalize hW7 : ((((((wc.setCell ⟨PT, 0, none⟩ (.slice z.rA z.rs.length z.rc)).setCell ⟨PT, 1, none⟩ (.slice z.mA z.ms.length z.mc)).setCell ⟨PT, 2, none⟩ (.slice z.gA z.gs.length z.gc)).setCell ⟨PT, 3, none⟩ (.int .i64 z.time)).setCell ⟨PT, 4, none⟩ (.slice z.dA z.ds.length z.dc)).setCell ⟨PT, 5, none⟩ (.slice z.lA z.ls.length z.lc)) = W7
       rw [show putK wc PT (.slice z.rA z.rs.length z.rc) (.slice z.mA z.ms.length z.mc) (.slice z.gA z.gs.length z.gc) (.int .i64 z.time) (.slice z.dA z.ds.length z.dc) (.slice z.lA z.ls.length z.lc) = W7 from hW7] at H6
       clear hW7
       obtain ⟨P6, E9, E11⟩ := H6.out
       have kn := Qah W7 PA (.int .i64 ac) (.int .i64 aN) (.string ak) (.string ax)
       have P7 := P6.only kn ⟨by omega, by omega, by omega⟩ (fun e => by have h9 := hOA.out _ e; omega)
       have F9 := Qer E9 (.int .i64 ac) (.int .i64 aN) (.string ak) (.string ax)
       have H7 := hidP (And.intro P7 F9)
       obtain ⟨y0, y1, y2, y3⟩ := E9.row4
       have e0 := E9.thaw 0; have e1 := E9.thaw 1; have e2 := E9.thaw 2; have e3 := E9.thaw 3
       obtain ⟨n0, n1, n2, n3⟩ := E11.row4
       have q9 := E9.lt
       have q11 := E11.lt
       clear P7 F9 kn P6 E9 E11 H6
       go_upto_region 11 with fail
       clear y0 y1 y2 y3 e0 e1 e2 e3 n0 n1 n2 n3 q9 q11
       generalize hW8 : ((((W7.setCell ⟨PA, 0, none⟩ (.int .i64 ac)).setCell ⟨PA, 1, none⟩ (.int .i64 aN)).setCell ⟨PA, 2, none⟩ (.string ak)).setCell ⟨PA, 3, none⟩ (.string ax)) = W8
       rw [show putN W7 PA (.int .i64 ac) (.int .i64 aN) (.string ak) (.string ax) = W8 from hW8] at H7
       clear hW8
       obtain ⟨P, A9⟩ := H7.out
       clear H7
       obtain ⟨a9, c9, W9, hr, P9⟩ := P.app ⟨ac, aN, ak, ax⟩ (Qas ac aN ak ax) rfl (by have := hxl.out; omega)
       obtain ⟨n0, n1, n2, n3⟩ := A9.row4
       have la9 := A9.lt
       go_wp2_with (at_builtin; refine Qae rfl _ _ _ rfl _ _ _ rfl rfl hr ?_)
       exact ⟨⟨n + 1, a9, c9, xs ++ [⟨ac, aN, ak, ax⟩], z, lo2, hi2, by rw [List.length_append]; rfl, by go_num, by omega, by show _ = _; rw [List.length_append, hxl.out]; rfl, ⟨by rw [Qia _ _ _ _ _ _ _ hlt, ← hy.out.1]; unfold stepQ; rw [Hok.out]; exact hpz.out, by rw [hpz.out]; exact (doQ_R hy.out.2 Hro.out Hb.out.1 Hb.out.2.1 (okC_R Hok.out)).1⟩, P9⟩, by simp [intOf]; omega⟩
  . obtain rfl : n = L.length := by omega
    obtain ⟨k0, k1, k2, k3, k4, k5⟩ := P.kb.row6
    obtain ⟨z0, z1, z2, z3, z4, z5⟩ := P.rb.row6
    have f0 := P.rb.thaw 0; have f1 := P.rb.thaw 1; have f2 := P.rb.thaw 2; have f3 := P.rb.thaw 3; have f4 := P.rb.thaw 4; have f5 := P.rb.thaw 5
    have q0 := P.kb.lt
    have q1 := P.rb.lt
    have qp : PT ≠ w.heap.size + 1 := by have := P.pt.1; omega
    have HP := hidP P
    clear P
    go_wp2
    have P := HP.out
    have kk := Qac wr (w.heap.size + 1) (.slice y.rA y.rs.length y.rc) (.slice y.mA y.ms.length y.mc) (.slice y.gA y.gs.length y.gc) (.int .i64 y.time) (.slice y.dA y.ds.length y.dc) (.slice y.lA y.ls.length y.lc)
    have hl := P.lo'
    have hz : (putK wr (w.heap.size + 1) (.slice y.rA y.rs.length y.rc) (.slice y.mA y.ms.length y.mc) (.slice y.gA y.gs.length y.gc) (.int .i64 y.time) (.slice y.dA y.ds.length y.dc) (.slice y.lA y.ls.length y.lc)).heap.size = wr.heap.size := by simp
    obtain ⟨s0, s1, s2, s3, s4, s5⟩ := Qat P.rb (.slice y.rA y.rs.length y.rc) (.slice y.mA y.ms.length y.mc) (.slice y.gA y.gs.length y.gc) (.int .i64 y.time) (.slice y.dA y.ds.length y.dc) (.slice y.lA y.ls.length y.lc)
    refine bodyPost_ret (v := .tuple #[.agg (Qaa y.rA y.rs.length y.rc y.mA y.ms.length y.mc y.gA y.gs.length y.gc y.time y.dA y.ds.length y.dc y.lA y.ls.length y.lc), .slice a xs.length c]) (by simp [results, Tryz.results66, go_sem, s0, s1, s2, s3, s4, s5]) rfl ⟨y, .slice a xs.length c, rfl, ?_, ?_, (P.kv.offp (Offp.of_only kk) (fun q hq e => by omega)).mono (fun q hq1 hq => ⟨by omega, by rw [hz]; have := P.hi'; omega⟩), P.bl.trans ((Off.of_only kk).toBelow (by simp) P.bl.size)⟩
    . have h := hy.out.1
      rw [List.take_length] at h
      exact h
    . exact hy.out.2
structure Kr (w W : World) (C cap : Nat) (A : Option Addr) (l : List By) (X : Nat) (sc : Array Value) : Prop where
  on : Only C w W
  dr : Drawn W C A cap l
  r1 : Blk W w.heap.size 84 Qdz
  r2 : Blk W (w.heap.size + 1) 90 Qab
  sb : Blk W X 84 sc
  hC : C < w.heap.size
  hX : w.heap.size + 1 < X
section
variable {w W W' : World} {C cap : Nat} {A : Option Addr} {l : List By} {X : Nat} {sc : Array Value}
theorem Kr.below (h : Kr w W C cap A l X sc) (g : Below W.heap.size W W') : Kr w W' C cap A l X sc := ⟨h.on.below g, h.dr.below g, h.r1.below g h.r1.lt, h.r2.below g h.r2.lt, h.sb.below g h.sb.lt, h.hC, h.hX⟩
theorem Kr.alloc (h : Kr w W C cap A l X sc) (ob : Obj) : Kr w (W.alloc ob) C cap A l X sc := h.below (Qaf (Below.refl _ _) _)
theorem Kr.drew (h : Kr w W C cap A l X sc) : Kr w W.drew C cap A l X sc := h.below (Below.refl _ _).drew
theorem Kr.only (h : Kr w W C cap A l X sc) (k : Only C W W') (d : Drawn W' C A cap l) : Kr w W' C cap A l X sc :=
 ⟨h.on.trans k, d, h.r1.only k (by have := h.hC; omega), h.r2.only k (by have := h.hC; omega), h.sb.only k (by have := h.hC; have := h.hX; omega), h.hC, h.hX⟩
theorem Kr.box {q : Nat} (h : Kr w W C cap A l X sc) (k : Only q W W') (h1 : w.heap.size + 1 < q) (h2 : X ≠ q) : Kr w W' C cap A l X sc :=
 ⟨Qap h.on k (by omega), h.dr.only k (by have := h.hC; omega), h.r1.only k (by omega), h.r2.only k (by omega), h.sb.only k h2, h.hC, h.hX⟩
end
def DrewK (C : Nat) (A : Option Addr) (cap : Nat) (l : List By) (w : World) (e : Ending) (w' : World) : Prop := ∃ (ro wi le ke : Int) (y : KC) (R : Nat), e = .returned (.tuple #[.agg (Qan ro wi le ke), .agg (Qaa y.rA y.rs.length y.rc y.mA y.ms.length y.mc y.gA y.gs.length y.gc y.time y.dA y.ds.length y.dc y.lA y.ls.length y.lc)]) /\ setB ro wi le ke = true /\ ro = R /\ (1 <= R /\ R <= 4) /\ Kin R 14 y.p /\ KV w' y (fun b => w.heap.size < b /\ b < w'.heap.size) /\ Only C w w' /\ Drawn w' C A cap l
theorem Qh2 (C : Nat) (A : Option Addr) (cap : Nat) (l : List By) (w : World) (hD : Drawn w C A cap l) :
 Calls Tryz.prog 50 #[.pointer (some ⟨C, 0, none⟩)] w fun e w' => DrewK C A cap l w e w' := by
 have hC := hD.lt
 have B0 : Below w.heap.size w ((w.alloc (.cells Qdz 84)).alloc (.cells Qab 90)) := Qaf (Qaf (Below.refl _ _) _) _
 have r1 : Blk ((w.alloc (.cells Qdz 84)).alloc (.cells Qab 90)) w.heap.size 84 Qdz := (Blk.new w _ _).alloc _
 have r2 : Blk ((w.alloc (.cells Qdz 84)).alloc (.cells Qab 90)) (w.heap.size + 1) 90 Qab := by have := Blk.new (w.alloc (.cells Qdz 84)) 90 Qab; rwa [World.size_alloc] at this
 have D0 := hD.below B0
 have O0 : Only C w ((w.alloc (.cells Qdz 84)).alloc (.cells Qab 90)) := Only.of_below B0
 have H0 := hidP (And.intro O0 D0)
 clear hD B0 D0 O0
 go_enter Tryz.func50, Tryz.ntmps50
 go_wp2_with fail
 refine (Qgv C A cap l _ H0.out.2).mono ?_
 rintro e w1 ⟨ro, wi, le, ke, rfl, hset, k1, d1⟩
 have q1 := r1.only k1 (by omega)
 have q2 := r2.only k1 (by omega)
 have P : Kr w (w1.alloc (.cells (Qan ro wi le ke) 84)) C cap A l w1.heap.size (Qan ro wi le ke) := ⟨(H0.out.1.trans k1).below (Qaf (Below.refl _ _) _), d1.below (Qaf (Below.refl _ _) _), q1.alloc _, q2.alloc _, Blk.new w1 _ _, hC, q2.lt⟩
 clear H0 k1 d1 q1 q2 r1 r2
 have hset := hidP hset
 obtain ⟨h1, h4⟩ := Qg8 hset.out
 obtain ⟨R, hro0⟩ : ∃ R : Nat, ro = R := ⟨ro.toNat, by omega⟩
 have hR : 1 <= R /\ R <= 4 := by omega
 have hro := hidP hro0
 clear h1 h4 hro0
 have HCM : Hid (∀ V : World, Drawn V C A cap l -> Calls Tryz.prog 67 #[.pointer (some ⟨C, 0, none⟩), .int .i64 14] V fun e w' => ∃ (a : Option Addr) (c : Nat) (L : List Cq), e = .returned (.slice a L.length c) /\ L.length <= 14 /\ (∀ x ∈ L, x.key.size <= 30 /\ x.text.size <= 30) /\ DL 105 V w' C cap A l a c L) := fun V d => Qh4 C A cap l 14 (by omega) V d
 go_upto_region 2 with fail
 generalize w1.alloc (.cells (Qan ro wi le ke) 84) = w2a at P ⊢
 have hX := P.hX
 generalize w1.heap.size = X at P hX ⊢
 have mkS : ∀ V : World, Kr w V C cap A l X (Qan ro wi le ke) -> (fun (V : World) => V.cell? ⟨X, 0, none⟩ = some (.int .i64 ro) /\ V.cell? ⟨X, 1, none⟩ = some (.int .i64 wi) /\ V.cell? ⟨X, 2, none⟩ = some (.int .i64 le) /\ V.cell? ⟨X, 3, none⟩ = some (.int .i64 ke)) V := fun V p => by
  obtain ⟨a0, a1, a2, a3⟩ := p.sb.row4
  exact ⟨a0, a1, a2, a3⟩
 have P := P.drew
 go_cut [5] from 9 to 15 (fun pv wx => ∃ (P5 : Nat) (y : KC) (lo2 hi2 : Nat), pv = .pointer (some ⟨P5, 0, none⟩) /\ Kr w wx C cap A l X (Qan ro wi le ke) /\ Blk wx P5 90 (Qaa y.rA y.rs.length y.rc y.mA y.ms.length y.mc y.gA y.gs.length y.gc y.time y.dA y.ds.length y.dc y.lA y.ls.length y.lc) /\ Hid (KV wx y (fun b => lo2 < b /\ b < hi2)) /\ Hid (Kin R 14 y.p) /\ hi2 <= wx.heap.size /\ w.heap.size + 1 < lo2 /\ (X < P5 /\ w.heap.size + 1 < P5) /\ ¬ (lo2 < P5 /\ P5 < hi2))
 case first =>
  refine wp_region_noPanic ?_
  refine wp_region_held_drew (S := (fun (V : World) => V.cell? ⟨X, 0, none⟩ = some (.int .i64 ro) /\ V.cell? ⟨X, 1, none⟩ = some (.int .i64 wi) /\ V.cell? ⟨X, 2, none⟩ = some (.int .i64 le) /\ V.cell? ⟨X, 3, none⟩ = some (.int .i64 ke))) (by kernel_rfl) ?_ (fun hH => ?_)
  . exact mkS _ P
  refine ztk [0,1] ?_; repeat (refine ztn (hS := hH) (h := ?_); try simp only [zX,zY])
  refine zte ?_
  generalize hw2 : w2a.drew = w2 at P hH ⊢
  have hz2 : w2.heap.size = w2a.heap.size := (by rw [← hw2]; rfl)
  have hX2 : X < w2.heap.size := P.sb.lt
  clear hw2 hz2
  refine zR2 2 7 (fun K hK => ?_) (fun K hK => ?_)
  focus
   simp only [zG]
   go_simp
   refine (HCM.out _ P.dr).mono ?_; rintro e w3 ⟨ca, cc, L, rfl, hL, hLs, dl⟩; have z3 := dl.on.size; have z3 : w2.heap.size <= w3.heap.size := z3; have P := P.only dl.on dl.dr; have hat := hidP (Qci rfl dl.own); have HL := hidP (And.intro hL hLs); clear hL hLs dl
   refine hK.out _ _ (mkS _ P) fun hH => ?_; clear hK K; try simp only [zX,zY]
   refine zR2 3 7 (fun K hK => ?_) (fun K hK => ?_)
   focus
    simp only [zG]
    go_simp
    refine (Qd3 R hR ro wi le ke hro.out hset.out ca cc L (by have h9 := HL.out.1; omega) HL.out.2 _ hat.out).mono ?_; rintro e w4 ⟨y, v, rfl, hyp, hyk, hyv, g4⟩; have z4 := g4.size; have z4 : w3.heap.size <= w4.heap.size := z4; have hyv : KV w4 y (fun b => w3.heap.size < b /\ b < w4.heap.size) := hyv; have P := P.below g4; have hyk := hidP (hyk.mono HL.out.1); simp only [KC.cells]; clear hyp g4
    refine hK.out _ _ (mkS _ P) fun hH => ?_; clear hK K; try simp only [zX,zY]
    refine ztk [4,5,6] ?_; repeat (refine ztn (hS := hH) (h := ?_); try simp only [zX,zY])
    refine zte ?_
    refine zR1 7 (fun K hK => ?_)
    simp only [zG]
    go_simp
    have B7 : Blk (w4.alloc (.cells Qab 90)) (w4.heap.size) 90 Qab := Blk.new w4 90 Qab; have P := P.alloc (.cells Qab 90); have hyv := hyv.below (Qaf (Below.refl _ _) (.cells Qab 90))
    refine hK.out _ _ (mkS _ P) fun hH => ?_; clear hK K; try simp only [zX,zY]
    have hP7 : w2.heap.size <= (w4.heap.size) /\ ¬ (w3.heap.size < (w4.heap.size) /\ (w4.heap.size) < w4.heap.size) /\ w2.heap.size <= w3.heap.size := (by omega)
    have hle4 : w4.heap.size <= ((w4.alloc (.cells Qab 90))).heap.size := (by simp only [World.size_alloc]; omega)
    obtain ⟨lo2, hi2, hyv, hP7, hle4⟩ : ∃ lo2 hi2, KV ((w4.alloc (.cells Qab 90))) y (fun b => lo2 < b /\ b < hi2) /\ (w2.heap.size <= (w4.heap.size) /\ ¬ (lo2 < (w4.heap.size) /\ (w4.heap.size) < hi2) /\ w2.heap.size <= lo2) /\ hi2 <= ((w4.alloc (.cells Qab 90))).heap.size := ⟨_, _, hyv, hP7, hle4⟩
    have hn7 : X < (w4.heap.size) /\ w.heap.size + 1 < (w4.heap.size) := (by omega)
    have hlo2 : w.heap.size + 1 < lo2 := (by omega)
    generalize (w4.alloc (.cells Qab 90)) = w6 at P B7 hyv hle4 ⊢
    generalize (w4.heap.size) = P5 at B7 hP7 hn7 ⊢
   rotate_left
   focus
    simp only [zG]
    go_simp
    have B7 : Blk (w3.alloc (.cells Qab 90)) (w3.heap.size) 90 Qab := Blk.new w3 90 Qab; have P := P.alloc (.cells Qab 90)
    refine hK.out _ _ (mkS _ P) fun hH => ?_; clear hK K; try simp only [zX,zY]
    refine zR1 3 (fun K hK => ?_)
    simp only [zG]
    go_simp
    refine (Qd3 R hR ro wi le ke hro.out hset.out ca cc L (by have h9 := HL.out.1; omega) HL.out.2 _ (hat.out.below (Qaf (Below.refl _ _) (.cells Qab 90)))).mono ?_; rintro e w4 ⟨y, v, rfl, hyp, hyk, hyv, g4⟩; have z4 := g4.size; simp only [World.size_alloc] at z4 hyv; have z4 : w3.heap.size + 1 <= w4.heap.size := z4; have hyv : KV w4 y (fun b => w3.heap.size + 1 < b /\ b < w4.heap.size) := hyv; have P := P.below g4; have B7 := B7.below g4 B7.lt; have hyk := hidP (hyk.mono HL.out.1); simp only [KC.cells]; clear hyp g4
    refine hK.out _ _ (mkS _ P) fun hH => ?_; clear hK K; try simp only [zX,zY]
    refine ztk [4,5,6] ?_; repeat (refine ztn (hS := hH) (h := ?_); try simp only [zX,zY])
    refine zte ?_
    have hP7 : w2.heap.size <= (w3.heap.size) /\ ¬ (w3.heap.size + 1 < (w3.heap.size) /\ (w3.heap.size) < w4.heap.size) /\ w2.heap.size <= w3.heap.size + 1 := (by omega)
    have hle4 : w4.heap.size <= (w4).heap.size := (by omega)
    obtain ⟨lo2, hi2, hyv, hP7, hle4⟩ : ∃ lo2 hi2, KV (w4) y (fun b => lo2 < b /\ b < hi2) /\ (w2.heap.size <= (w3.heap.size) /\ ¬ (lo2 < (w3.heap.size) /\ (w3.heap.size) < hi2) /\ w2.heap.size <= lo2) /\ hi2 <= (w4).heap.size := ⟨_, _, hyv, hP7, hle4⟩
    have hn7 : X < (w3.heap.size) /\ w.heap.size + 1 < (w3.heap.size) := (by omega)
    have hlo2 : w.heap.size + 1 < lo2 := (by omega)
    generalize w4 = w6 at P B7 hyv hle4 ⊢
    generalize (w3.heap.size) = P5 at B7 hP7 hn7 ⊢
  rotate_left 2
  focus
   simp only [zG]
   go_simp
   have B7 : Blk (w2.alloc (.cells Qab 90)) (w2.heap.size) 90 Qab := Blk.new w2 90 Qab; have P := P.alloc (.cells Qab 90)
   refine hK.out _ _ (mkS _ P) fun hH => ?_; clear hK K; try simp only [zX,zY]
   refine zR1 2 (fun K hK => ?_)
   simp only [zG]
   go_simp
   refine (HCM.out _ P.dr).mono ?_; rintro e w3 ⟨ca, cc, L, rfl, hL, hLs, dl⟩; have z3 := dl.on.size; simp only [World.size_alloc] at z3; have z3 : w2.heap.size + 1 <= w3.heap.size := z3; have P := P.only dl.on dl.dr; have hat := hidP (Qci rfl dl.own); have HL := hidP (And.intro hL hLs); have B7 := B7.only dl.on (by omega); clear hL hLs dl
   refine hK.out _ _ (mkS _ P) fun hH => ?_; clear hK K; try simp only [zX,zY]
   refine zR1 3 (fun K hK => ?_)
   simp only [zG]
   go_simp
   refine (Qd3 R hR ro wi le ke hro.out hset.out ca cc L (by have h9 := HL.out.1; omega) HL.out.2 _ hat.out).mono ?_; rintro e w4 ⟨y, v, rfl, hyp, hyk, hyv, g4⟩; have z4 := g4.size; have z4 : w3.heap.size <= w4.heap.size := z4; have hyv : KV w4 y (fun b => w3.heap.size < b /\ b < w4.heap.size) := hyv; have P := P.below g4; have B7 := B7.below g4 B7.lt; have hyk := hidP (hyk.mono HL.out.1); simp only [KC.cells]; clear hyp g4
   refine hK.out _ _ (mkS _ P) fun hH => ?_; clear hK K; try simp only [zX,zY]
   refine ztk [4,5,6] ?_; repeat (refine ztn (hS := hH) (h := ?_); try simp only [zX,zY])
   refine zte ?_
   have hP7 : w2.heap.size <= (w2.heap.size) /\ ¬ (w3.heap.size < (w2.heap.size) /\ (w2.heap.size) < w4.heap.size) /\ w2.heap.size <= w3.heap.size := (by omega)
   have hle4 : w4.heap.size <= (w4).heap.size := (by omega)
   obtain ⟨lo2, hi2, hyv, hP7, hle4⟩ : ∃ lo2 hi2, KV (w4) y (fun b => lo2 < b /\ b < hi2) /\ (w2.heap.size <= (w2.heap.size) /\ ¬ (lo2 < (w2.heap.size) /\ (w2.heap.size) < hi2) /\ w2.heap.size <= lo2) /\ hi2 <= (w4).heap.size := ⟨_, _, hyv, hP7, hle4⟩
   have hn7 : X < (w2.heap.size) /\ w.heap.size + 1 < (w2.heap.size) := (by omega)
   have hlo2 : w.heap.size + 1 < lo2 := (by omega)
   generalize w4 = w6 at P B7 hyv hle4 ⊢
   generalize (w2.heap.size) = P5 at B7 hP7 hn7 ⊢
  all_goals
   obtain ⟨z0, z1, z2, z3, z4, z5⟩ := B7.row6
   have f0 := B7.thaw 0; have f1 := B7.thaw 1; have f2 := B7.thaw 2; have f3 := B7.thaw 3; have f4 := B7.thaw 4; have f5 := B7.thaw 5
   have kk := Qac w6 P5 (.slice y.rA y.rs.length y.rc) (.slice y.mA y.ms.length y.mc) (.slice y.gA y.gs.length y.gc) (.int .i64 y.time) (.slice y.dA y.ds.length y.dc) (.slice y.lA y.ls.length y.lc)
   have P9 := P.box kk (by omega) (by omega)
   have C7 := Qax B7 (.slice y.rA y.rs.length y.rc) (.slice y.mA y.ms.length y.mc) (.slice y.gA y.gs.length y.gc) (.int .i64 y.time) (.slice y.dA y.ds.length y.dc) (.slice y.lA y.ls.length y.lc)
   have kv9 := hidP (hyv.offp (Offp.of_only kk) (fun q hq e => hP7.2.1 (e ▸ hq)))
   have hz6 : (putK w6 P5 (.slice y.rA y.rs.length y.rc) (.slice y.mA y.ms.length y.mc) (.slice y.gA y.gs.length y.gc) (.int .i64 y.time) (.slice y.dA y.ds.length y.dc) (.slice y.lA y.ls.length y.lc)).heap.size = w6.heap.size := (by simp)
   clear kk
   refine zR1 8 (fun K hK => ?_)
   simp only [zG]
   go_simp
   skip
   refine hK.out _ _ (mkS _ P9) fun hH => ?_; clear hK K; try simp only [zX,zY]
   refine zt1 9 ?_; refine ztn (hS := hH) (h := ?_); try simp only [zX,zY]
   refine zte ?_
   refine zdn ?_
   go_wp2_with fail
   go_meet
   exact ⟨P5, y, lo2, hi2, rfl, P9, C7, kv9, hyk, by rw [hz6]; exact hle4, hlo2, hn7, hP7.2.1⟩
 case rest =>
  obtain ⟨P5, y, lo2, hi2, rfl, P, C7, kv9, hyk, hle4, hlo2, hn7, hP7⟩ := hcut
  clear mkS
  go_upto_region 3 with fail
  have P5' := P.drew
  have D7 : Blk wc.drew P5 90 (Qaa y.rA y.rs.length y.rc y.mA y.ms.length y.mc y.gA y.gs.length y.gc y.time y.dA y.ds.length y.dc y.lA y.ls.length y.lc) := C7
  have mkS3 : ∀ V : World, Kr w V C cap A l X (Qan ro wi le ke) -> Blk V P5 90 (Qaa y.rA y.rs.length y.rc y.mA y.ms.length y.mc y.gA y.gs.length y.gc y.time y.dA y.ds.length y.dc y.lA y.ls.length y.lc) -> (fun (V : World) => V.cell? ⟨X, 0, none⟩ = some (.int .i64 ro) /\ V.cell? ⟨X, 1, none⟩ = some (.int .i64 wi) /\ V.cell? ⟨X, 2, none⟩ = some (.int .i64 le) /\ V.cell? ⟨X, 3, none⟩ = some (.int .i64 ke) /\ V.cell? ⟨P5, 0, none⟩ = some (.slice y.rA y.rs.length y.rc) /\ V.cell? ⟨P5, 1, none⟩ = some (.slice y.mA y.ms.length y.mc) /\ V.cell? ⟨P5, 2, none⟩ = some (.slice y.gA y.gs.length y.gc) /\ V.cell? ⟨P5, 3, none⟩ = some (.int .i64 y.time) /\ V.cell? ⟨P5, 4, none⟩ = some (.slice y.dA y.ds.length y.dc) /\ V.cell? ⟨P5, 5, none⟩ = some (.slice y.lA y.ls.length y.lc)) V := fun V p q => by
   obtain ⟨a0, a1, a2, a3⟩ := p.sb.row4
   obtain ⟨k0, k1, k2, k3, k4, k5⟩ := q.row6
   exact ⟨a0, a1, a2, a3, k0, k1, k2, k3, k4, k5⟩
  clear P C7
  refine wp_region_noPanic ?_
  refine wp_region_held_drew (S := (fun (V : World) => V.cell? ⟨X, 0, none⟩ = some (.int .i64 ro) /\ V.cell? ⟨X, 1, none⟩ = some (.int .i64 wi) /\ V.cell? ⟨X, 2, none⟩ = some (.int .i64 le) /\ V.cell? ⟨X, 3, none⟩ = some (.int .i64 ke) /\ V.cell? ⟨P5, 0, none⟩ = some (.slice y.rA y.rs.length y.rc) /\ V.cell? ⟨P5, 1, none⟩ = some (.slice y.mA y.ms.length y.mc) /\ V.cell? ⟨P5, 2, none⟩ = some (.slice y.gA y.gs.length y.gc) /\ V.cell? ⟨P5, 3, none⟩ = some (.int .i64 y.time) /\ V.cell? ⟨P5, 4, none⟩ = some (.slice y.dA y.ds.length y.dc) /\ V.cell? ⟨P5, 5, none⟩ = some (.slice y.lA y.ls.length y.lc))) (by kernel_rfl) ?_ (fun hH => ?_)
  . exact mkS3 _ P5' D7
  have kvd := hidP (kv9.out.below (Below.refl _ _).drew)
  have hzd : wc.drew.heap.size = wc.heap.size := rfl
  generalize wc.drew = XX at P5' D7 kvd hzd hH ⊢
  refine ztk [0,1] ?_; repeat (refine ztn (hS := hH) (h := ?_); try simp only [zX,zY])
  refine zte ?_
  obtain ⟨r0, r1, r2, r3⟩ := P5'.r1.row4
  have f0 := P5'.r1.thaw 0; have f1 := P5'.r1.thaw 1; have f2 := P5'.r1.thaw 2; have f3 := P5'.r1.thaw 3
  have ks := Qah XX w.heap.size (.int .i64 ro) (.int .i64 wi) (.int .i64 le) (.int .i64 ke)
  have B1 := Qer P5'.r1 (.int .i64 ro) (.int .i64 wi) (.int .i64 le) (.int .i64 ke)
  have Q2 := P5'.r2.only ks (by omega)
  obtain ⟨z0, z1, z2, z3, z4, z5⟩ := Q2.row6
  have g0 := Q2.thaw 0; have g1 := Q2.thaw 1; have g2 := Q2.thaw 2; have g3 := Q2.thaw 3; have g4 := Q2.thaw 4; have g5 := Q2.thaw 5
  have SA : Hid ((fun (V : World) => V.cell? ⟨X, 0, none⟩ = some (.int .i64 ro) /\ V.cell? ⟨X, 1, none⟩ = some (.int .i64 wi) /\ V.cell? ⟨X, 2, none⟩ = some (.int .i64 le) /\ V.cell? ⟨X, 3, none⟩ = some (.int .i64 ke) /\ V.cell? ⟨P5, 0, none⟩ = some (.slice y.rA y.rs.length y.rc) /\ V.cell? ⟨P5, 1, none⟩ = some (.slice y.mA y.ms.length y.mc) /\ V.cell? ⟨P5, 2, none⟩ = some (.slice y.gA y.gs.length y.gc) /\ V.cell? ⟨P5, 3, none⟩ = some (.int .i64 y.time) /\ V.cell? ⟨P5, 4, none⟩ = some (.slice y.dA y.ds.length y.dc) /\ V.cell? ⟨P5, 5, none⟩ = some (.slice y.lA y.ls.length y.lc)) (putN XX w.heap.size (.int .i64 ro) (.int .i64 wi) (.int .i64 le) (.int .i64 ke))) := (by obtain ⟨a0, a1, a2, a3⟩ := (P5'.sb.only ks (by have := P5'.hX; omega)).row4; obtain ⟨k0, k1, k2, k3, k4, k5⟩ := (D7.only ks (by omega)).row6; exact ⟨a0, a1, a2, a3, k0, k1, k2, k3, k4, k5⟩)
  have kk := Qac (putN XX w.heap.size (.int .i64 ro) (.int .i64 wi) (.int .i64 le) (.int .i64 ke)) (w.heap.size + 1) (.slice y.rA y.rs.length y.rc) (.slice y.mA y.ms.length y.mc) (.slice y.gA y.gs.length y.gc) (.int .i64 y.time) (.slice y.dA y.ds.length y.dc) (.slice y.lA y.ls.length y.lc)
  have SB : Hid ((fun (V : World) => V.cell? ⟨X, 0, none⟩ = some (.int .i64 ro) /\ V.cell? ⟨X, 1, none⟩ = some (.int .i64 wi) /\ V.cell? ⟨X, 2, none⟩ = some (.int .i64 le) /\ V.cell? ⟨X, 3, none⟩ = some (.int .i64 ke) /\ V.cell? ⟨P5, 0, none⟩ = some (.slice y.rA y.rs.length y.rc) /\ V.cell? ⟨P5, 1, none⟩ = some (.slice y.mA y.ms.length y.mc) /\ V.cell? ⟨P5, 2, none⟩ = some (.slice y.gA y.gs.length y.gc) /\ V.cell? ⟨P5, 3, none⟩ = some (.int .i64 y.time) /\ V.cell? ⟨P5, 4, none⟩ = some (.slice y.dA y.ds.length y.dc) /\ V.cell? ⟨P5, 5, none⟩ = some (.slice y.lA y.ls.length y.lc)) (putK (putN XX w.heap.size (.int .i64 ro) (.int .i64 wi) (.int .i64 le) (.int .i64 ke)) (w.heap.size + 1) (.slice y.rA y.rs.length y.rc) (.slice y.mA y.ms.length y.mc) (.slice y.gA y.gs.length y.gc) (.int .i64 y.time) (.slice y.dA y.ds.length y.dc) (.slice y.lA y.ls.length y.lc))) := (by obtain ⟨a0, a1, a2, a3⟩ := ((P5'.sb.only ks (by have := P5'.hX; omega)).only kk (by have := P5'.hX; omega)).row4; obtain ⟨k0, k1, k2, k3, k4, k5⟩ := ((D7.only ks (by omega)).only kk (by omega)).row6; exact ⟨a0, a1, a2, a3, k0, k1, k2, k3, k4, k5⟩)
  have B1' := B1.only kk (by omega)
  obtain ⟨s0, s1, s2, s3⟩ := B1'.row4
  obtain ⟨t0, t1, t2, t3, t4, t5⟩ := Qat Q2 (.slice y.rA y.rs.length y.rc) (.slice y.mA y.ms.length y.mc) (.slice y.gA y.gs.length y.gc) (.int .i64 y.time) (.slice y.dA y.ds.length y.dc) (.slice y.lA y.ls.length y.lc)
  have O9 := Qap (Qap P5'.on ks (Nat.le_refl _)) kk (by omega)
  have D9 := (P5'.dr.only ks P5'.hC).only kk (by have := P5'.hC; omega)
  have V9 := kvd.out.offp (Offp.of_only ks) (fun q hq e => by omega)
  have V9 := V9.offp (Offp.of_only kk) (fun q hq e => by omega)
  have hz9 : (putK (putN XX w.heap.size (.int .i64 ro) (.int .i64 wi) (.int .i64 le) (.int .i64 ke)) (w.heap.size + 1) (.slice y.rA y.rs.length y.rc) (.slice y.mA y.ms.length y.mc) (.slice y.gA y.gs.length y.gc) (.int .i64 y.time) (.slice y.dA y.ds.length y.dc) (.slice y.lA y.ls.length y.lc)).heap.size = wc.heap.size := (by simp [hzd])
  have TT : Hid (Only C w _ /\ Drawn _ C A cap l /\ KV _ y (fun b => lo2 < b /\ b < hi2) /\ _ = wc.heap.size) := ⟨O9, D9, V9, hz9⟩
  refine zR1 2 (fun K hK => ?_)
  simp only [zG]
  go_simp
  skip
  refine hK.out _ _ SA.out fun hH => ?_; clear hK K; try simp only [zX,zY]
  refine zR1 3 (fun K hK => ?_)
  simp only [zG]
  go_simp
  skip
  refine hK.out _ _ SB.out fun hH => ?_; clear hK K; try simp only [zX,zY]
  refine zdn ?_
  go_wp2
  refine bodyPost_ret (v := .tuple #[.agg (Qan ro wi le ke), .agg (Qaa y.rA y.rs.length y.rc y.mA y.ms.length y.mc y.gA y.gs.length y.gc y.time y.dA y.ds.length y.dc y.lA y.ls.length y.lc)]) (by simp [results, Tryz.results50, go_sem, s0, s1, s2, s3, t0, t1, t2, t3, t4, t5]) rfl ⟨ro, wi, le, ke, y, R, rfl, hset.out, hro.out, hR, hyk.out, TT.out.2.2.1.mono (fun q _ hq => ⟨by omega, by rw [TT.out.2.2.2]; omega⟩), TT.out.1, TT.out.2.1⟩
structure En where
  term : Int
  who : Int
  seq : Int
  op : Int
  a : Int
  b : Int
  c : Int
  key : ByteArray
  text : ByteArray
instance : Inhabited En := ⟨⟨0, 0, 0, 0, 0, 0, 0, ⟨#[]⟩, ⟨#[]⟩⟩⟩
instance : Cel En where
  k := 9
  cs x := [.int .i64 x.term, .int .i64 x.who, .int .i64 x.seq, .int .i64 x.op, .int .i64 x.a, .int .i64 x.b, .int .i64 x.c, .string x.key, .string x.text]
  len _ := rfl
  one x u hu := by simp at hu; rcases hu with rfl | rfl | rfl | rfl | rfl | rfl | rfl | rfl | rfl<;>rfl
def En.fit (x : En) : Prop := x.key.size <= 9223372036854775807 /\ x.text.size <= 9223372036854775807
theorem In.getEn {w : World} {b o : Nat} {l : List En} (h : In w b o l) (n : Nat) (hi : n < l.length) :
 w.cell? ⟨b, o + n * 9, none⟩ = some (.int .i64 l[n].term) /\ w.cell? ⟨b, o + n * 9 + 1, none⟩ = some (.int .i64 l[n].who) /\ w.cell? ⟨b, o + n * 9 + 2, none⟩ = some (.int .i64 l[n].seq) /\ w.cell? ⟨b, o + n * 9 + 3, none⟩ = some (.int .i64 l[n].op) /\ w.cell? ⟨b, o + n * 9 + 4, none⟩ = some (.int .i64 l[n].a) /\ w.cell? ⟨b, o + n * 9 + 5, none⟩ = some (.int .i64 l[n].b) /\ w.cell? ⟨b, o + n * 9 + 6, none⟩ = some (.int .i64 l[n].c) /\ w.cell? ⟨b, o + n * 9 + 7, none⟩ = some (.string l[n].key) /\ w.cell? ⟨b, o + n * 9 + 8, none⟩ = some (.string l[n].text) :=
 ⟨h.cell n hi (f := 0) rfl, h.cell n hi (f := 1) rfl, h.cell n hi (f := 2) rfl, h.cell n hi (f := 3) rfl, h.cell n hi (f := 4) rfl, h.cell n hi (f := 5) rfl, h.cell n hi (f := 6) rfl, h.cell n hi (f := 7) rfl, h.cell n hi (f := 8) rfl⟩
theorem infoEn : (Tryz.prog.info? 107).map (fun i => (i.zero, i.size, i.bytes)) = some (some (.agg Qiq), 9, 88) := by kernel_rfl
theorem Qfy (C : Nat) (A : Option Addr) (cap : Nat) (l : List By) (term0 : Int) (ht0 : 0 <= term0 /\ term0 <= 1000) (most : Nat) (hm : most <= 200) (w : World) (hD : Drawn w C A cap l) :
 Calls Tryz.prog 52 #[.pointer (some ⟨C, 0, none⟩), .int .i64 term0, .int .i64 (most : Int)] w fun e w' => ∃ (a : Option Addr) (c : Nat) (L : List En), e = .returned (.slice a L.length c) /\ L.length <= most /\ (∀ x ∈ L, x.key.size <= 30 /\ x.text.size <= 30) /\ DL 107 w w' C cap A l a c L := by
 have hC := hD.lt
 have I0 : DL (α := En) 107 w (w.alloc (.cells #[] 107)) C cap A l (some ⟨w.heap.size, 0, none⟩) 0 [] := ⟨Only.of_below (Qaf (Below.refl _ _) _), hD.below (Qaf (Below.refl _ _) _), Qdq (α := En) (Nat.le_refl _) rfl, hC⟩
 have HI := hidP I0
 clear hD I0
 go_enter Tryz.func52, Tryz.ntmps52
 go_wp2_with fail
 refine (Qa7 C A cap l ((most : Int) + 1) (by omega) (by omega) _ HI.out.dr).mono ?_
 rintro e w1 ⟨n, rfl, hn0, hn1, k1, d1⟩
 have I1 := HI.out.only k1 d1
 clear HI k1 d1
 go_wp2
 go_loopw [1, 7, 9] (fun tv ov iv wx => ∃ (i : Nat) (term : Int) (a : Option Addr) (c : Nat) (L : List En), tv = .int .i64 term /\ ov = .slice a L.length c /\ iv = .int .i64 (i : Int) /\ (i : Int) <= n /\ (0 <= term /\ term <= 1000 + (i : Int)) /\ Hid (L.length = i) /\ Hid (∀ x ∈ L, x.key.size <= 30 /\ x.text.size <= 30) /\ DL 107 w wx C cap A l a c L) (fun _ _ iv _ => (n - intOf iv).toNat)
 case atStart => exact ⟨0, term0, _, _, [], rfl, rfl, rfl, by omega, by omega, rfl, by show ∀ x ∈ _, _; simp, I1⟩
 case round =>
  clear I1
  obtain ⟨i, term, la, lc, L, rfl, rfl, rfl, hi, ht, hl, hs, P⟩ := hrel
  by_cases hlt : (i : Int) < n
  . have HP := hidP P
    clear P
    go_wp2_with fail
    refine (Qa7 C A cap l 2 (by omega) (by omega) _ HP.out.dr).mono ?_
    rintro e w2 ⟨q, rfl, hq0, hq1, k2, d2⟩
    have P2 := hidP (HP.out.only k2 d2)
    clear HP k2 d2
    go_wp2_with fail
    refine (Qen C A cap l _ P2.out.dr).mono ?_
    rintro e w3 ⟨who, seq, op, a, b, c, k, t, rfl, hdc, k3, d3⟩
    have Hsz := hidP hdc.size
    have P := P2.out.only k3 d3
    clear P2 k3 d3 hdc
    obtain ⟨a9, c9, W9, hr, P9⟩ := P.app Tryz.underlying70 infoEn rfl (by decide) (by decide) (⟨term + q, who, seq, op, a, b, c, k, t⟩ : En) (Qft (term + q) who seq op a b c k t) rfl (by have := hl.out; omega)
    go_wp2_with (at_builtin; refine Qae rfl _ _ _ rfl _ _ _ rfl rfl hr ?_)
    exact ⟨⟨i + 1, term + q, a9, c9, L ++ [(⟨term + q, who, seq, op, a, b, c, k, t⟩ : En)], rfl, by rw [List.length_append]; rfl, by go_num, by omega, by omega, by show _ = _; rw [List.length_append, hl.out]; rfl, by show ∀ x ∈ _, _; intro x hx; rcases List.mem_append.1 hx with h | h; exact hs.out x h; rw [List.mem_singleton] at h; subst h; exact Hsz.out, P9⟩, by simp [intOf]; omega⟩
  . go_wp2
    go_ret
    exact ⟨la, lc, L, rfl, by have := hl.out; omega, hs.out, P⟩
theorem Blk.row6n {W : World} {B : Nat} {t : TypeId} {a b c d e f : Value} (h : Blk W B t #[a, b, c, d, e, f]) : W.cell? ⟨B, 0, none⟩ = some a /\ W.cell? ⟨B, 1, none⟩ = some b /\ W.cell? ⟨B, 2, none⟩ = some c /\ W.cell? ⟨B, 3, none⟩ = some d /\ W.cell? ⟨B, 4, none⟩ = some e /\ W.cell? ⟨B, 5, none⟩ = some f :=
 ⟨h.cell (by rfl), h.cell (by rfl), h.cell (by rfl), h.cell (by rfl), h.cell (by rfl), h.cell (by rfl)⟩
end Go.Proofs.YtlniljigeemnoaaGreat.Gen
