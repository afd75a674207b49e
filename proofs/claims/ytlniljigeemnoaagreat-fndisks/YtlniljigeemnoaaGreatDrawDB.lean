/-
  Bytes of notes that are drawn (spec.l9DrawBytes): at most 130000. No condition.
-/
import Derived.Test.YtlniljigeemnoaaGreatNS2
set_option linter.unusedVariables false
set_option linter.unusedSimpArgs false
set_option maxRecDepth 100000
set_option maxHeartbeats 8000000
namespace Go.Proofs.YtlniljigeemnoaaGreat.Gen
open ChangeShapes WideShapes ChangeAt RowKit Joins Deep Base
open Items (It)
theorem DL.app8 {w W W1 : World} {C cap : Nat} {A : Option Addr} {l : List By} {a a1 : Option Addr} {c c1 : Nat} {xs ys : List UInt8} (h : DL 5 w W C cap A l a c xs) (hy : At W a1 ys) (hlen : xs.length + ys.length <= 1000000) :
 ∃ a2 c2 W2, (Builtin.append_ #[22, 22] 22 #[.slice a xs.length c, .slice a1 ys.length c1]).run Tryz.prog W = .ok (.slice a2 (xs.length + ys.length) c2) W2 /\ DL 5 w W2 C cap A l a2 c2 (xs ++ ys) := by
 have hs := h.size
 obtain ⟨v', W2, hr, hown, hgrow, hob⟩ := Qbr w.heap.size (.slice a xs.length c) xs ys a1 c1 W hs h.own hy (by omega)
 obtain ⟨a2, c2, rfl, _⟩ := Qao hown
 have ko := Qb5 hgrow
 have g : Below w.heap.size W W2 := ko.toBelow (fun z hz => (h.own.lt z hz).1) hs
 exact ⟨a2, c2, W2, hr, Qgb h.on (Nat.le_refl _) g, h.dr.under g h.hC, by rw [List.length_append]; exact hown, h.hC⟩
def DrewB (n : Nat) (C : Nat) (A : Option Addr) (cap : Nat) (l : List By) (w : World) (e : Ending) (w' : World) : Prop := ∃ (a : Option Addr) (c : Nat) (L : List UInt8), e = .returned (.slice a L.length c) /\ L.length <= n /\ DL 5 w w' C cap A l a c L
theorem Qeo (C : Nat) (A : Option Addr) (cap : Nat) (l : List By) (w : World) (hD : Drawn w C A cap l) :
 Calls Tryz.prog 27 #[.pointer (some ⟨C, 0, none⟩)] w fun e w' => DrewB 130000 C A cap l w e w' := by
 have hC := hD.lt
 have I0 : DL (α := UInt8) 5 w (w.alloc (.cells #[] 5)) C cap A l (some ⟨w.heap.size, 0, none⟩) 0 [] := ⟨Only.of_below (Qaf (Below.refl _ _) _), hD.below (Qaf (Below.refl _ _) _), Qdq (α := UInt8) (Nat.le_refl _) rfl, hC⟩
 clear hD
 go_enter Tryz.func27, Tryz.ntmps27
 go_wp2
 go_loopw [3, 4] (fun ov iv wx => ∃ (i : Nat) (a : Option Addr) (c : Nat) (L : List UInt8), ov = .slice a L.length c /\ iv = .int .i64 (i : Int) /\ i <= 3 /\ Hid (L.length <= i * 41000) /\ DL 5 w wx C cap A l a c L) (fun _ iv _ => 3 - (intOf iv).toNat)
 case atStart => exact ⟨0, _, _, [], rfl, rfl, by omega, by show _ <= _; simp, I0⟩
 case round =>
  clear I0
  obtain ⟨i, la, lc, L, rfl, rfl, hi, hl, P⟩ := hrel
  have HP := hidP P
  clear P
  go_wp2_with fail
  refine (Qa7 C A cap l 4 (by omega) (by omega) _ HP.out.dr).mono ?_
  rintro e w1 ⟨x, rfl, hx0, hx1, k1, d1⟩
  have P1 := HP.out.only k1 d1
  clear HP k1 d1
  by_cases hlt : (i : Int) < x
  . have HP1 := hidP P1
    clear P1
    go_wp2_with fail
    refine (Qh1 C A cap l _ HP1.out.dr).mono ?_
    rintro e w2 ⟨kind, term, vote, prev, na, nc, NL, snap, rfl, hn1, hn2, hn3, hav, k2, d2⟩
    have P2 := hidP (HP1.out.only k2 d2)
    have HNB : Hid (∀ W : World, Below w2.heap.size w2 W -> Calls Tryz.prog 38 #[.agg (Qbe kind term vote prev na NL.length nc snap)] W fun e w' => ∃ a' c', e = .returned (.slice a' (Qd1 kind term vote prev NL snap).length c') /\ Below W.heap.size W w' /\ w'.ownsRow W.heap.size 5 1 (.slice a' (Qd1 kind term vote prev NL snap).length c') (Qd1 kind term vote prev NL snap).length (flat (Qd1 kind term vote prev NL snap))) := fun W g => Qew kind term vote prev snap (by omega) na nc NL (by omega) (fun y hy => by have := hn2 y hy; exact ⟨by omega, by omega⟩) W (hav.at.below g)
    have hno := noteO_le kind term vote prev NL snap
    generalize Qd1 kind term vote prev NL snap = B at HNB hno
    clear HP1 k2 d2 hav hn1 hn2 hn3
    go_wp2_with fail
    refine (HNB.out _ (Below.refl _ _)).mono ?_
    rintro e w3 ⟨ba, bc, rfl, g3, o3⟩
    have P3 := P2.out.below g3
    have hat : At w3 ba B := Qci rfl o3
    clear P2 HNB g3 o3
    obtain ⟨a9, c9, W9, hr, P9⟩ := P3.app8 (c1 := bc) (W1 := w3) hat (by have := hl.out; omega)
    obtain ⟨m9, hm9⟩ : ∃ m, m = L.length + B.length := ⟨_, rfl⟩
    rw [← hm9] at hr
    have Hm := hidP hm9
    clear hm9
    go_wp2_with (at_builtin; refine Qae rfl _ _ _ rfl _ _ _ rfl rfl hr ?_)
    exact ⟨⟨i + 1, a9, c9, L ++ B, by rw [List.length_append, Hm.out], by go_num, by omega, by show _ <= _; rw [List.length_append]; have := hl.out; omega, P9⟩, by simp [intOf]; omega⟩
  . go_wp2
    go_ret
    exact ⟨la, lc, L, rfl, by have := hl.out; omega, P1⟩
def DrewD (C : Nat) (A : Option Addr) (cap : Nat) (l : List By) (w : World) (e : Ending) (w' : World) : Prop := ∃ (a : Option Addr) (c : Nat) (L : List UInt8) (su : Int), e = .returned (.agg #[.slice a L.length c, .int .i64 su]) /\ L.length <= 130000 /\ (L.length <= c /\ c <= 9223372036854775807) /\ (-1 <= su /\ su <= 130001) /\ Av w' a L (fun b => w.heap.size < b) /\ Only C w w' /\ Drawn w' C A cap l
structure Dd (w W : World) (C cap : Nat) (A : Option Addr) (l : List By) (X : Nat) (a : Option Addr) (c : Nat) (L : List UInt8) (su : Int) : Prop where
  on : Only C w W
  dr : Drawn W C A cap l
  r : Blk W w.heap.size 25 #[.slice none 0 0, .int .i64 0]
  x : Blk W X 25 #[.slice a L.length c, .int .i64 su]
  av : Av W a L (fun b => w.heap.size < b /\ b ≠ X)
  hC : C < w.heap.size
  hX : w.heap.size < X
section
variable {w W W' : World} {C cap : Nat} {A : Option Addr} {l : List By} {X : Nat} {a : Option Addr} {c : Nat} {L : List UInt8} {su : Int}
theorem Dd.below (h : Dd w W C cap A l X a c L su) (g : Below W.heap.size W W') : Dd w W' C cap A l X a c L su := ⟨h.on.below g, h.dr.below g, h.r.below g h.r.lt, h.x.below g h.x.lt, h.av.offp (T := fun _ => False) (Offp.of_below g) (fun _ _ e => e), h.hC, h.hX⟩
theorem Dd.alloc (h : Dd w W C cap A l X a c L su) (ob : Obj) : Dd w (W.alloc ob) C cap A l X a c L su := h.below (Qaf (Below.refl _ _) _)
theorem Dd.only (h : Dd w W C cap A l X a c L su) (k : Only C W W') (d : Drawn W' C A cap l) : Dd w W' C cap A l X a c L su :=
 ⟨h.on.trans k, d, h.r.only k (by have := h.hC; omega), h.x.only k (by have := h.hC; have := h.hX; omega), h.av.offp (Offp.of_only k) (fun b hb e => by have := h.hC; omega), h.hC, h.hX⟩
theorem Dd.setS (h : Dd w W C cap A l X a c L su) (s : Int) : Dd w (W.setCell ⟨X, 1, none⟩ (.int .i64 s)) C cap A l X a c L s := by
 have k : Only X W (W.setCell ⟨X, 1, none⟩ (.int .i64 s)) := (Only.refl X W).set _ _
 have hX := h.hX
 exact ⟨Qap h.on k (by omega), h.dr.only k (by have := h.hC; omega), h.r.only k (by omega), h.x.setAt 1 _, h.av.offp (Offp.of_only k) (fun b hb e => hb.2 e), h.hC, h.hX⟩
theorem Dd.setB (h : Dd w W C cap A l X a c L su) {a2 : Option Addr} {c2 : Nat} {L2 : List UInt8} (hv : Av W a2 L2 (fun b => w.heap.size < b /\ b ≠ X)) : Dd w (W.setCell ⟨X, 0, none⟩ (.slice a2 L2.length c2)) C cap A l X a2 c2 L2 su := by
 have k : Only X W (W.setCell ⟨X, 0, none⟩ (.slice a2 L2.length c2)) := (Only.refl X W).set _ _
 have hX := h.hX
 exact ⟨Qap h.on k (by omega), h.dr.only k (by have := h.hC; omega), h.r.only k (by omega), h.x.setAt 0 _, hv.offp (Offp.of_only k) (fun b hb e => hb.2 e), h.hC, h.hX⟩
end
theorem made8 (w : World) (n : Nat) : In (w.alloc (.cells (madeCells #[Value.int .u8 0] n) 5)) w.heap.size 0 (List.replicate n (0 : UInt8)) := by
 intro j v hv
 have hj : j < n := by have := (List.getElem?_eq_some_iff.1 hv).1; rw [Qbq] at this; simpa [Cel.k] using this
 have h2 : (flat (List.replicate n (0 : UInt8)))[j]? = some (.int .u8 0) := by
  have := Qdd (List.replicate n (0 : UInt8)) j (by simpa using hj) 0 (by decide)
  simp only [Cel.k, Nat.mul_one, Nat.add_zero] at this
  rw [this]
  simp [Cel.cs]
 rw [h2] at hv
 cases hv
 exact (Blk.new w 5 (madeCells #[Value.int .u8 0] n)).cell (by simp [madeCells, hj, Nat.mod_one])
theorem Qcz (C : Nat) (A : Option Addr) (cap : Nat) (l : List By) (w : World) (hD : Drawn w C A cap l) :
 Calls Tryz.prog 18 #[.pointer (some ⟨C, 0, none⟩)] w fun e w' => DrewD C A cap l w e w' := by
 have hC := hD.lt
 have O0 : Only C w (w.alloc (.cells #[.slice none 0 0, .int .i64 0] 25)) := Only.of_below (Qaf (Below.refl _ _) _)
 have H0 := hidP (And.intro O0 (hD.below (Qaf (Below.refl _ w) (.cells #[.slice none 0 0, .int .i64 0] 25))))
 have R0 := Blk.new w 25 #[.slice none 0 0, .int .i64 0]
 clear hD O0
 go_enter Tryz.func18, Tryz.ntmps18
 go_wp2_with fail
 refine (Qeo C A cap l _ H0.out.2).mono ?_
 rintro e w1 ⟨a, c, L, rfl, hL, dl⟩
 have hcap := Qha dl.own
 have R1 := R0.only dl.on (by omega)
 have hav : Av w1 a L (fun b => w.heap.size < b) := Av.of_own (S := fun b => w.heap.size < b) dl.own (fun b hb => by simp at hb; omega)
 have Q1 := hidP (And.intro (H0.out.1.trans dl.on) (And.intro dl.dr (And.intro R1 hav)))
 clear H0 dl R0 R1 hav
 go_wp2_with fail
 refine (belowG_any C A cap l ((L.length : Int) + 1) (by omega) (by omega) _ Q1.out.2.1).mono ?_
 rintro e w2 ⟨su, rfl, hs0, hs1, k2, d2⟩
 have r2 := Q1.out.2.2.1.only k2 (by omega)
 have v2 : Av w2 a L (fun b => w.heap.size < b) := Q1.out.2.2.2.offp (Offp.of_only k2) (fun b hb e => by omega)
 have v3 : Av w2 a L (fun b => w.heap.size < b /\ b ≠ w2.heap.size) := v2.mono (fun b hb hb2 => ⟨hb2, by omega⟩)
 have P2 : Dd w (w2.alloc (.cells #[.slice a L.length c, .int .i64 su] 25)) C cap A l w2.heap.size a c L su := ⟨(Q1.out.1.trans k2).below (Qaf (Below.refl _ _) _), d2.below (Qaf (Below.refl _ _) _), r2.alloc _, Blk.new w2 _ _, v3.offp (T := fun _ => False) (Offp.of_below (Qaf (Below.refl _ _) _)) (fun _ _ e => e), hC, r2.lt⟩
 have HP2 := hidP P2
 clear Q1 k2 d2 r2 v2 v3 P2
 go_wp2_with fail
 refine (Qa7 C A cap l 14 (by omega) (by omega) _ HP2.out.dr).mono ?_
 rintro e w3 ⟨x, rfl, hx0, hx1, k3, d3⟩
 have P3 := HP2.out.only k3 d3
 clear HP2 k3 d3
 generalize w2.heap.size = X at P3 ⊢
 by_cases h0 : x = 0
 . subst h0
   have HI := hidP (Qe3 w3 ([⟨-1⟩, ⟨(L.length : Int) + 1⟩] : List Nu) #[.int .i64 (-1), .int .i64 ((L.length : Int) + 1)] 3 rfl)
   have HP4 := hidP (P3.alloc (.cells #[.int .i64 (-1), .int .i64 ((L.length : Int) + 1)] 3))
   have q3 : C < w3.heap.size := P3.dr.lt
   clear P3
   go_wp2_with fail
   refine (Qcy C A cap l w3.heap.size 0 2 ([⟨-1⟩, ⟨(L.length : Int) + 1⟩] : List Nu) (by simp) (by simp) _ HP4.out.dr (by simp) (by omega) HI.out).mono ?_
   rintro e w4 ⟨y, hy, rfl, k4, d4⟩
   have hyn : -1 <= y.n /\ y.n <= 130001 := by
    simp only [List.mem_cons, List.not_mem_nil, or_false] at hy
    rcases hy with rfl | rfl
    . exact ⟨by decide, by decide⟩
    . exact ⟨by show -1 <= (L.length : Int) + 1; omega, by show (L.length : Int) + 1 <= 130001; omega⟩
   generalize y.n = s at hyn ⊢
   have P5 := HP4.out.only k4 d4
   have HP6 := hidP (P5.setS s)
   obtain ⟨x0, x1⟩ := P5.x.row2
   have f1 := P5.x.thaw 1
   have qx := P5.x.lt
   clear HP4 HI k4 d4 hy P5
   go_upto_region 8 with fail
   clear x0 x1 f1 qx
   generalize w4.setCell ⟨X, 1, none⟩ (.int .i64 s) = W6 at HP6 ⊢
   have P := HP6.out
   clear HP6
   obtain ⟨x0, x1⟩ := P.x.row2
   obtain ⟨r0, r1⟩ := P.r.row2
   have f0 := P.r.thaw 0
   have f1 := P.r.thaw 1
   have qx := P.x.lt
   have qr := P.r.lt
   have hX := P.hX
   have HP := hidP P
   clear P
   go_wp2
   have ko : ∀ u0 u1 : Value, Only w.heap.size W6 ((W6.setCell ⟨w.heap.size, 0, none⟩ u0).setCell ⟨w.heap.size, 1, none⟩ u1) := fun u0 u1 => ((Only.refl w.heap.size W6).set 0 u0).set 1 u1
   refine bodyPost_ret (v := .agg #[.slice a L.length c, .int .i64 s]) (by simp [results, Tryz.results18, go_sem, r0, r1]) rfl ⟨a, c, L, s, rfl, hL, hcap, hyn, (HP.out.av.offp (Offp.of_only (ko _ _)) (fun b hb e => by omega)).mono (fun b _ hb => hb.1), Qap HP.out.on (ko _ _) (Nat.le_refl _), HP.out.dr.only (ko _ _) HP.out.hC⟩
 by_cases h1 : x = 1
 . subst h1
   have HP3 := hidP P3
   clear P3
   go_wp2_with fail
   refine (Qa7 C A cap l 2 (by omega) (by omega) _ HP3.out.dr).mono ?_
   rintro e w4 ⟨z, rfl, hz0, hz1, k4, d4⟩
   have P4 := HP3.out.only k4 d4
   clear HP3 k4 d4
   obtain ⟨zn, rfl⟩ : ∃ zn : Nat, z = zn := ⟨z.toNat, by omega⟩
   obtain ⟨m, hm⟩ : ∃ m : Nat, 80000 + zn = m := ⟨_, rfl⟩
   have hmz : (80000 : Int) + (zn : Int) = (m : Int) := by omega
   have hmk : ∀ W : World, (Instr.makeSlice 22 (.int .i64 (80000 + (zn : Int))) (.int .i64 (80000 + (zn : Int)))).run Tryz.prog W = .ok (.slice (some ⟨W.heap.size, 0, none⟩) m m) (W.alloc (.cells (madeCells #[.int .u8 0] m) 5)) := fun W => by
    rw [hmz]
    have h := Qei (P := Tryz.prog) Tryz.underlying22 infoB (by omega) m (by omega) W
    rw [Nat.mul_one] at h
    exact h
   have hml : m <= 80001 := by omega
   clear hmz hm
   have hrl : (List.replicate m (0 : UInt8)).length = m := by simp
   have hXw : X < w4.heap.size := P4.x.lt
   have hav4 : Av (w4.alloc (.cells (madeCells #[.int .u8 0] m) 5)) (some ⟨w4.heap.size, 0, none⟩) (List.replicate m (0 : UInt8)) (fun b => w.heap.size < b /\ b ≠ X) := .inr ⟨w4.heap.size, 0, rfl, by simp, made8 w4 m, by have := P4.hX; omega, by omega⟩
   have P5 := (P4.alloc (.cells (madeCells #[.int .u8 0] m) 5)).setB (c2 := m) hav4
   rw [hrl] at P5
   have hcm : (w4.alloc (.cells (madeCells #[.int .u8 0] m) 5)).setCell ⟨X, 0, none⟩ (.slice (some ⟨w4.heap.size, 0, none⟩) m m) = (w4.setCell ⟨X, 0, none⟩ (.slice (some ⟨w4.heap.size, 0, none⟩) m m)).alloc (.cells (madeCells #[.int .u8 0] m) 5) := World.setCell_alloc_past _ _ _ _ hXw
   rw [hcm] at P5
   have HP5 := hidP P5
   obtain ⟨x0, x1⟩ := P4.x.row2
   have f0 := P4.x.thaw 0
   clear P5 hav4 hcm
   go_upto_region 8 with fail
   clear x0 x1 f0
   generalize (w4.setCell ⟨X, 0, none⟩ (.slice (some ⟨w4.heap.size, 0, none⟩) m m)).alloc (.cells (madeCells #[.int .u8 0] m) 5) = W6 at HP5 ⊢
   generalize w4.heap.size = g4 at HP5 ⊢
   have P := HP5.out
   clear HP5 P4 hmk
   have Px := P.x
   rw [hrl] at Px
   obtain ⟨x0, x1⟩ := Px.row2
   obtain ⟨r0, r1⟩ := P.r.row2
   have f0 := P.r.thaw 0
   have f1 := P.r.thaw 1
   have qx := P.x.lt
   have qr := P.r.lt
   have hX := P.hX
   have HP := hidP P
   clear P
   go_wp2
   have ko : ∀ u0 u1 : Value, Only w.heap.size W6 ((W6.setCell ⟨w.heap.size, 0, none⟩ u0).setCell ⟨w.heap.size, 1, none⟩ u1) := fun u0 u1 => ((Only.refl w.heap.size W6).set 0 u0).set 1 u1
   refine bodyPost_ret (v := .agg #[.slice (some ⟨g4, 0, none⟩) m m, .int .i64 su]) (by simp [results, Tryz.results18, go_sem, r0, r1]) rfl ⟨some ⟨g4, 0, none⟩, m, List.replicate m 0, su, by rw [hrl], by simp; omega, by simp; omega, ⟨by omega, by omega⟩, (HP.out.av.offp (Offp.of_only (ko _ _)) (fun b hb e => by omega)).mono (fun b _ hb => hb.1), Qap HP.out.on (ko _ _) (Nat.le_refl _), HP.out.dr.only (ko _ _) HP.out.hC⟩
 . have P := P3
   clear P3
   go_upto_region 8 with fail
   obtain ⟨x0, x1⟩ := P.x.row2
   obtain ⟨r0, r1⟩ := P.r.row2
   have f0 := P.r.thaw 0
   have f1 := P.r.thaw 1
   have qx := P.x.lt
   have qr := P.r.lt
   have hX := P.hX
   have HP := hidP P
   clear P
   go_wp2
   have ko : ∀ u0 u1 : Value, Only w.heap.size w3 ((w3.setCell ⟨w.heap.size, 0, none⟩ u0).setCell ⟨w.heap.size, 1, none⟩ u1) := fun u0 u1 => ((Only.refl w.heap.size w3).set 0 u0).set 1 u1
   refine bodyPost_ret (v := .agg #[.slice a L.length c, .int .i64 su]) (by simp [results, Tryz.results18, go_sem, r0, r1]) rfl ⟨a, c, L, su, rfl, hL, hcap, ⟨by omega, by omega⟩, (HP.out.av.offp (Offp.of_only (ko _ _)) (fun b hb e => by omega)).mono (fun b _ hb => hb.1), Qap HP.out.on (ko _ _) (Nat.le_refl _), HP.out.dr.only (ko _ _) HP.out.hC⟩
def ToldDk (w : World) (e : Ending) (w' : World) : Prop := ∃ (a : Option Addr) (c : Nat) (L : List UInt8) (su : Int), e = .returned (.agg #[.slice a L.length c, .int .i64 su]) /\ (L.length <= 130000 /\ (L.length <= c /\ c <= 9223372036854775807) /\ (-1 <= su /\ su <= 130001)) /\ Av w' a L (fun b => w.heap.size <= b) /\ Below w.heap.size w w'
def ToldDa (w : World) (e : Ending) (w' : World) : Prop := ∃ (a : Option Addr) (c : Nat) (L : List UInt8) (su : Int) (b : Option Addr) (d : Nat) (M : List UInt8), e = .returned (.tuple #[.agg #[.slice a L.length c, .int .i64 su], .slice b M.length d]) /\ (L.length <= 130000 /\ (L.length <= c /\ c <= 9223372036854775807) /\ (-1 <= su /\ su <= 130001)) /\ (M.length <= 130000 /\ M.length <= d /\ d <= 9223372036854775807) /\ Av w' a L (fun b => w.heap.size <= b) /\ Av w' b M (fun b => w.heap.size <= b) /\ Below w.heap.size w w'
def ToldDf (w : World) (e : Ending) (w' : World) : Prop := ∃ (a : Option Addr) (c : Nat) (L : List UInt8) (su k : Int), e = .returned (.tuple #[.agg #[.slice a L.length c, .int .i64 su], .int .i64 k]) /\ (L.length <= 130000 /\ (L.length <= c /\ c <= 9223372036854775807) /\ (-1 <= su /\ su <= 130001)) /\ I64 k /\ Av w' a L (fun b => w.heap.size <= b) /\ Below w.heap.size w w'
structure Dx (w W : World) (C cap : Nat) (A : Option Addr) (l : List By) (X : Nat) (a : Option Addr) (c : Nat) (L : List UInt8) (su : Int) : Prop where
  bl : Below w.heap.size w W
  dr : Drawn W C A cap l
  r : Blk W w.heap.size 25 #[.slice none 0 0, .int .i64 0]
  x : Blk W X 25 #[.slice a L.length c, .int .i64 su]
  av : Av W a L (fun b => w.heap.size < b /\ b ≠ X /\ b ≠ C)
  hC : w.heap.size < C
  hX : w.heap.size < X
  hCX : C < X
section
variable {w W W' : World} {C cap : Nat} {A : Option Addr} {l : List By} {X : Nat} {a : Option Addr} {c : Nat} {L : List UInt8} {su : Int}
theorem Dx.below (h : Dx w W C cap A l X a c L su) (g : Below W.heap.size W W') : Dx w W' C cap A l X a c L su := ⟨via0 g h.bl, h.dr.below g, h.r.below g h.r.lt, h.x.below g h.x.lt, h.av.offp (T := fun _ => False) (Offp.of_below g) (fun _ _ e => e), h.hC, h.hX, h.hCX⟩
theorem Dx.alloc (h : Dx w W C cap A l X a c L su) (ob : Obj) : Dx w (W.alloc ob) C cap A l X a c L su := h.below (Qaf (Below.refl _ _) _)
theorem Dx.only (h : Dx w W C cap A l X a c L su) (k : Only C W W') (d : Drawn W' C A cap l) : Dx w W' C cap A l X a c L su :=
 ⟨h.bl.trans ((Off.of_only k).toBelow (by have := h.hC; simp; omega) h.bl.size), d, h.r.only k (by have := h.hC; omega), h.x.only k (by have := h.hCX; omega), h.av.offp (Offp.of_only k) (fun b hb e => hb.2.2 e), h.hC, h.hX, h.hCX⟩
end
theorem Qf6 (A : Option Addr) (cap : Nat) (l : List By) (hl : l.length <= 1048576) (hby : ∀ x ∈ l, x.right) (w : World) (hA : At w A l) :
 Calls Tryz.prog 13 #[.slice A l.length cap] w fun e w' => ToldDk w e w' := by
 have HN : Hid (∀ W : World, Below w.heap.size w W -> Calls Tryz.prog 17 #[.slice A l.length cap] W fun e w' => ∃ C, e = .returned (.pointer (some ⟨C, 0, none⟩)) /\ W.heap.size <= C /\ Below W.heap.size W w' /\ Drawn w' C A cap l) := fun W g => Qgm A cap l hl hby W (hA.below g)
 have R0 := Blk.new w 25 #[.slice none 0 0, .int .i64 0]
 clear hA
 go_enter Tryz.func13, Tryz.ntmps13
 go_wp2_with fail
 refine (HN.out _ (Qaf (Below.refl _ _) _)).mono ?_
 rintro e w1 ⟨C, rfl, hC, g1, d1⟩
 have R1 := R0.below g1 (by simp)
 have B1 : Below w.heap.size w w1 := via0 g1 (Qaf (Below.refl _ _) _)
 simp only [World.size_alloc] at hC
 have D1 := hidP d1
 clear g1 HN d1 R0
 go_wp2_with fail
 refine (Qcz C A cap l _ D1.out).mono ?_
 rintro e w2 ⟨a, c, L, su, rfl, hL, hc, hs, hav, k2, d2⟩
 have R2 := R1.only k2 (by omega)
 have B2 : Below w.heap.size w w2 := B1.trans ((Off.of_only k2).toBelow (by simp; omega) B1.size)
 have hw1 : w.heap.size < w1.heap.size := R1.lt
 have HA := hidP hav
 obtain ⟨r0, r1⟩ := R2.row2
 have f0 := R2.thaw 0
 have f1 := R2.thaw 1
 have qr := R2.lt
 clear D1 k2 d2 R1 hav B1
 go_wp2
 have ko : ∀ u0 u1 : Value, Only w.heap.size w2 ((w2.setCell ⟨w.heap.size, 0, none⟩ u0).setCell ⟨w.heap.size, 1, none⟩ u1) := fun u0 u1 => ((Only.refl w.heap.size w2).set 0 u0).set 1 u1
 exact bodyPost_ret (v := .agg #[.slice a L.length c, .int .i64 su]) (by simp [results, Tryz.results13, go_sem, r0, r1]) rfl ⟨a, c, L, su, rfl, ⟨hL, hc, hs⟩, (HA.out.offp (Offp.of_only (ko _ _)) (fun b hb e => by omega)).mono (fun b _ hb => by omega), B2.trans ((Off.of_only (ko _ _)).toBelow (by simp) B2.size)⟩
theorem Qh0 (A : Option Addr) (cap : Nat) (l : List By) (hl : l.length <= 1048576) (hby : ∀ x ∈ l, x.right) (w : World) (hA : At w A l) :
 Calls Tryz.prog 11 #[.slice A l.length cap] w fun e w' => ToldDk w e w' := by
 have HN : Hid (∀ W : World, Below w.heap.size w W -> Calls Tryz.prog 17 #[.slice A l.length cap] W fun e w' => ∃ C, e = .returned (.pointer (some ⟨C, 0, none⟩)) /\ W.heap.size <= C /\ Below W.heap.size W w' /\ Drawn w' C A cap l) := fun W g => Qgm A cap l hl hby W (hA.below g)
 have R0 := Blk.new w 25 #[.slice none 0 0, .int .i64 0]
 clear hA
 go_enter Tryz.func11, Tryz.ntmps11
 go_wp2_with fail
 refine (HN.out _ (Qaf (Below.refl _ _) _)).mono ?_
 rintro e w1 ⟨C, rfl, hC, g1, d1⟩
 have R1 := R0.below g1 (by simp)
 have B1 : Below w.heap.size w w1 := via0 g1 (Qaf (Below.refl _ _) _)
 simp only [World.size_alloc] at hC
 have D1 := hidP d1
 clear g1 HN d1 R0
 go_wp2_with fail
 refine (Qcz C A cap l _ D1.out).mono ?_
 rintro e w2 ⟨a, c, L, su, rfl, hL, hc, hs, hav, k2, d2⟩
 have R2 := R1.only k2 (by omega)
 have B2 : Below w.heap.size w w2 := B1.trans ((Off.of_only k2).toBelow (by simp; omega) B1.size)
 have hw1 : w.heap.size < w1.heap.size := R1.lt
 have HA := hidP hav
 obtain ⟨r0, r1⟩ := R2.row2
 have f0 := R2.thaw 0
 have f1 := R2.thaw 1
 have qr := R2.lt
 clear D1 k2 d2 R1 hav B1
 go_wp2
 have ko : ∀ u0 u1 : Value, Only w.heap.size w2 ((w2.setCell ⟨w.heap.size, 0, none⟩ u0).setCell ⟨w.heap.size, 1, none⟩ u1) := fun u0 u1 => ((Only.refl w.heap.size w2).set 0 u0).set 1 u1
 exact bodyPost_ret (v := .agg #[.slice a L.length c, .int .i64 su]) (by simp [results, Tryz.results11, go_sem, r0, r1]) rfl ⟨a, c, L, su, rfl, ⟨hL, hc, hs⟩, (HA.out.offp (Offp.of_only (ko _ _)) (fun b hb e => by omega)).mono (fun b _ hb => by omega), B2.trans ((Off.of_only (ko _ _)).toBelow (by simp) B2.size)⟩
theorem Qf7 (A : Option Addr) (cap : Nat) (l : List By) (hl : l.length <= 1048576) (hby : ∀ x ∈ l, x.right) (w : World) (hA : At w A l) :
 Calls Tryz.prog 8 #[.slice A l.length cap] w fun e w' => ToldDa w e w' := by
 have HN : Hid (∀ W : World, Below w.heap.size w W -> Calls Tryz.prog 17 #[.slice A l.length cap] W fun e w' => ∃ C, e = .returned (.pointer (some ⟨C, 0, none⟩)) /\ W.heap.size <= C /\ Below W.heap.size W w' /\ Drawn w' C A cap l) := fun W g => Qgm A cap l hl hby W (hA.below g)
 have R0 := Blk.new w 25 #[.slice none 0 0, .int .i64 0]
 clear hA
 go_enter Tryz.func8, Tryz.ntmps8
 go_wp2_with fail
 refine (HN.out _ (Qaf (Below.refl _ _) _)).mono ?_
 rintro e w1 ⟨C, rfl, hC, g1, d1⟩
 have R1 := R0.below g1 (by simp)
 have B1 : Below w.heap.size w w1 := via0 g1 (Qaf (Below.refl _ _) _)
 simp only [World.size_alloc] at hC
 have D1 := hidP d1
 clear g1 HN d1 R0
 go_wp2_with fail
 refine (Qcz C A cap l _ D1.out).mono ?_
 rintro e w2 ⟨a, c, L, su, rfl, hL, hc, hs, hav, k2, d2⟩
 have R2 := R1.only k2 (by omega)
 have B2 : Below w.heap.size w w2 := B1.trans ((Off.of_only k2).toBelow (by simp; omega) B1.size)
 have hw1 : w.heap.size < w1.heap.size := R1.lt
 have v3 : Av w2 a L (fun b => w.heap.size < b /\ b ≠ w2.heap.size /\ b ≠ C) := hav.mono (fun b hb hb2 => ⟨by omega, by omega, by have := D1.out.lt; omega⟩)
 have P : Dx w (w2.alloc (.cells #[.slice a L.length c, .int .i64 su] 25)) C cap A l w2.heap.size a c L su := ⟨Qaf B2 _, d2.below (Qaf (Below.refl _ _) _), R2.alloc _, Blk.new w2 _ _, v3.offp (T := fun _ => False) (Offp.of_below (Qaf (Below.refl _ _) _)) (fun _ _ e => e), by omega, R2.lt, by have := d2.lt; omega⟩
 clear D1 k2 d2 R1 hav B1 R2 B2 v3 hw1
 go_upto_region 3 with fail
 generalize w2.alloc (.cells #[.slice a L.length c, .int .i64 su] 25) = w3 at P ⊢
 generalize w2.heap.size = X at P ⊢
 have mkS : ∀ V : World, Dx w V C cap A l X a c L su -> (fun (V : World) => V.cell? ⟨X, 0, none⟩ = some (.slice a L.length c) /\ V.cell? ⟨X, 1, none⟩ = some (.int .i64 su)) V := fun V p => p.x.row2
 have P : Dx w w3.drew C cap A l X a c L su := P.below (Below.refl _ _).drew
 refine wp_region_noPanic ?_
 refine wp_region_held_drew (S := (fun (V : World) => V.cell? ⟨X, 0, none⟩ = some (.slice a L.length c) /\ V.cell? ⟨X, 1, none⟩ = some (.int .i64 su))) (by kernel_rfl) ?_ (fun hH => ?_)
 . exact mkS _ P
 refine ztk [0,1] ?_; repeat (refine ztn (hS := hH) (h := ?_); try simp only [zX,zY])
 refine zte ?_
 generalize w3.drew = W3 at P hH ⊢
 refine zR1 2 (fun K hK => ?_)
 simp only [zG]
 go_simp
 refine (Qeo C A cap l _ P.dr).mono ?_; rintro e w5 ⟨b, d, M, rfl, hM, dl⟩; have hq3 : w.heap.size < W3.heap.size := P.r.lt; have hbv : Hid (Av w5 b M (fun q => w.heap.size < q)) := (Av.of_own (S := fun q => w.heap.size < q) dl.own (fun q hq => by omega)); have hcd := Qha dl.own; have P := P.only dl.on dl.dr; clear dl
 refine hK.out _ _ (mkS _ P) fun hH => ?_; clear hK K; try simp only [zX,zY]
 obtain ⟨r0, r1⟩ := P.r.row2
 have f0 := P.r.thaw 0
 have f1 := P.r.thaw 1
 have qr := P.r.lt
 have ko : ∀ u0 u1 : Value, Only w.heap.size w5 ((w5.setCell ⟨w.heap.size, 0, none⟩ u0).setCell ⟨w.heap.size, 1, none⟩ u1) := fun u0 u1 => ((Only.refl w.heap.size w5).set 0 u0).set 1 u1
 have HS : ∀ u0 u1 : Value, (fun (V : World) => V.cell? ⟨X, 0, none⟩ = some (.slice a L.length c) /\ V.cell? ⟨X, 1, none⟩ = some (.int .i64 su)) ((w5.setCell ⟨w.heap.size, 0, none⟩ u0).setCell ⟨w.heap.size, 1, none⟩ u1) := (fun u0 u1 => (P.x.only (ko u0 u1) (by have h9 := P.hX; omega)).row2)
 refine zR1 3 (fun K hK => ?_)
 simp only [zG]
 go_simp
 skip
 refine hK.out _ _ (HS _ _) fun hH => ?_; clear hK K; try simp only [zX,zY]
 refine zt1 4 ?_; refine ztn (hS := hH) (h := ?_); try simp only [zX,zY]
 refine zte ?_
 refine zdn ?_
 have HP := hidP P
 go_wp2
 exact bodyPost_ret (v := .tuple #[.agg #[.slice a L.length c, .int .i64 su], .slice b M.length d]) (by simp [results, Tryz.results8, go_sem, r0, r1]) rfl ⟨a, c, L, su, b, d, M, rfl, ⟨hL, hc, hs⟩, ⟨hM, hcd⟩, (HP.out.av.offp (Offp.of_only (ko _ _)) (fun q hq e => by omega)).mono (fun q _ hq => by omega), (hbv.out.offp (Offp.of_only (ko _ _)) (fun q hq e => by omega)).mono (fun q _ hq => by omega), HP.out.bl.trans ((Off.of_only (ko _ _)).toBelow (by simp) HP.out.bl.size)⟩
theorem Qh3 (A : Option Addr) (cap : Nat) (l : List By) (hl : l.length <= 1048576) (hby : ∀ x ∈ l, x.right) (w : World) (hA : At w A l) :
 Calls Tryz.prog 5 #[.slice A l.length cap] w fun e w' => ToldDf w e w' := by
 have HN : Hid (∀ W : World, Below w.heap.size w W -> Calls Tryz.prog 17 #[.slice A l.length cap] W fun e w' => ∃ C, e = .returned (.pointer (some ⟨C, 0, none⟩)) /\ W.heap.size <= C /\ Below W.heap.size W w' /\ Drawn w' C A cap l) := fun W g => Qgm A cap l hl hby W (hA.below g)
 have R0 := Blk.new w 25 #[.slice none 0 0, .int .i64 0]
 clear hA
 go_enter Tryz.func5, Tryz.ntmps5
 go_wp2_with fail
 refine (HN.out _ (Qaf (Below.refl _ _) _)).mono ?_
 rintro e w1 ⟨C, rfl, hC, g1, d1⟩
 have R1 := R0.below g1 (by simp)
 have B1 : Below w.heap.size w w1 := via0 g1 (Qaf (Below.refl _ _) _)
 simp only [World.size_alloc] at hC
 have D1 := hidP d1
 clear g1 HN d1 R0
 go_wp2_with fail
 refine (Qcz C A cap l _ D1.out).mono ?_
 rintro e w2 ⟨a, c, L, su, rfl, hL, hc, hs, hav, k2, d2⟩
 have R2 := R1.only k2 (by omega)
 have B2 : Below w.heap.size w w2 := B1.trans ((Off.of_only k2).toBelow (by simp; omega) B1.size)
 have hw1 : w.heap.size < w1.heap.size := R1.lt
 have v3 : Av w2 a L (fun b => w.heap.size < b /\ b ≠ w2.heap.size /\ b ≠ C) := hav.mono (fun b hb hb2 => ⟨by omega, by omega, by have := D1.out.lt; omega⟩)
 have P : Dx w (w2.alloc (.cells #[.slice a L.length c, .int .i64 su] 25)) C cap A l w2.heap.size a c L su := ⟨Qaf B2 _, d2.below (Qaf (Below.refl _ _) _), R2.alloc _, Blk.new w2 _ _, v3.offp (T := fun _ => False) (Offp.of_below (Qaf (Below.refl _ _) _)) (fun _ _ e => e), by omega, R2.lt, by have := d2.lt; omega⟩
 clear D1 k2 d2 R1 hav B1 R2 B2 v3 hw1
 go_upto_region 3 with fail
 generalize w2.alloc (.cells #[.slice a L.length c, .int .i64 su] 25) = w3 at P ⊢
 generalize w2.heap.size = X at P ⊢
 have mkS : ∀ V : World, Dx w V C cap A l X a c L su -> (fun (V : World) => V.cell? ⟨X, 0, none⟩ = some (.slice a L.length c) /\ V.cell? ⟨X, 1, none⟩ = some (.int .i64 su)) V := fun V p => p.x.row2
 have P : Dx w w3.drew C cap A l X a c L su := P.below (Below.refl _ _).drew
 refine wp_region_noPanic ?_
 refine wp_region_held_drew (S := (fun (V : World) => V.cell? ⟨X, 0, none⟩ = some (.slice a L.length c) /\ V.cell? ⟨X, 1, none⟩ = some (.int .i64 su))) (by kernel_rfl) ?_ (fun hH => ?_)
 . exact mkS _ P
 refine ztk [0,1] ?_; repeat (refine ztn (hS := hH) (h := ?_); try simp only [zX,zY])
 refine zte ?_
 generalize w3.drew = W3 at P hH ⊢
 refine zR1 2 (fun K hK => ?_)
 simp only [zG]
 go_simp
 have HI := hidP (Qe3 W3 ([⟨0⟩, ⟨1⟩, ⟨5⟩, ⟨30⟩, ⟨99999⟩, ⟨-1⟩, ⟨9223372036854775807⟩, ⟨-9223372036854775808⟩] : List Nu) (Qgd 0 1 5 30 99999 (-1) 9223372036854775807 (-9223372036854775808)) 3 rfl); have hq3 : C < W3.heap.size := P.dr.lt; have P := P.alloc (.cells (Qgd 0 1 5 30 99999 (-1) 9223372036854775807 (-9223372036854775808)) 3)
 refine hK.out _ _ (mkS _ P) fun hH => ?_; clear hK K; try simp only [zX,zY]
 refine zR1 3 (fun K hK => ?_)
 simp only [zG]
 go_simp
 refine (Qcy C A cap l W3.heap.size 0 8 ([⟨0⟩, ⟨1⟩, ⟨5⟩, ⟨30⟩, ⟨99999⟩, ⟨-1⟩, ⟨9223372036854775807⟩, ⟨-9223372036854775808⟩] : List Nu) (by simp) (by simp) _ P.dr (by simp) (by omega) HI.out).mono ?_; rintro e w5 ⟨y, hy, rfl, k5, d5⟩; have hyn : I64 y.n := (by simp only [List.mem_cons, List.not_mem_nil, or_false] at hy; rcases hy with rfl | rfl | rfl | rfl | rfl | rfl | rfl | rfl<;>exact ⟨by decide, by decide⟩); have hyn := hidP hyn; have P := P.only k5 d5; clear k5 d5 hy HI
 refine hK.out _ _ (mkS _ P) fun hH => ?_; clear hK K; try simp only [zX,zY]
 obtain ⟨r0, r1⟩ := P.r.row2
 have f0 := P.r.thaw 0
 have f1 := P.r.thaw 1
 have qr := P.r.lt
 have ko : ∀ u0 u1 : Value, Only w.heap.size w5 ((w5.setCell ⟨w.heap.size, 0, none⟩ u0).setCell ⟨w.heap.size, 1, none⟩ u1) := fun u0 u1 => ((Only.refl w.heap.size w5).set 0 u0).set 1 u1
 have HS : ∀ u0 u1 : Value, (fun (V : World) => V.cell? ⟨X, 0, none⟩ = some (.slice a L.length c) /\ V.cell? ⟨X, 1, none⟩ = some (.int .i64 su)) ((w5.setCell ⟨w.heap.size, 0, none⟩ u0).setCell ⟨w.heap.size, 1, none⟩ u1) := (fun u0 u1 => (P.x.only (ko u0 u1) (by have h9 := P.hX; omega)).row2)
 refine zR1 4 (fun K hK => ?_)
 simp only [zG]
 go_simp
 skip
 refine hK.out _ _ (HS _ _) fun hH => ?_; clear hK K; try simp only [zX,zY]
 refine zt1 5 ?_; refine ztn (hS := hH) (h := ?_); try simp only [zX,zY]
 refine zte ?_
 refine zdn ?_
 have HP := hidP P
 go_wp2
 exact bodyPost_ret (v := .tuple #[.agg #[.slice a L.length c, .int .i64 su], .int .i64 y.n]) (by simp [results, Tryz.results5, go_sem, r0, r1]) rfl ⟨a, c, L, su, y.n, rfl, ⟨hL, hc, hs⟩, hyn.out, (HP.out.av.offp (Offp.of_only (ko _ _)) (fun q hq e => by omega)).mono (fun q _ hq => by omega), HP.out.bl.trans ((Off.of_only (ko _ _)).toBelow (by simp) HP.out.bl.size)⟩
def Qbl (su : Int) (n : Nat) : Bool := decide (n <= 80000) && inB su 0 (n : Int)
theorem Qdj {su : Int} {n : Nat} (h : Qbl su n = true) : n <= 80000 /\ 0 <= su /\ su <= (n : Int) := by
 simp only [Qbl, inB, Bool.and_eq_true, decide_eq_true_eq] at h; exact h
theorem Qcm (su : Int) (A : Option Addr) (n cap : Nat) (hn : n <= 9223372036854775807) (w : World) :
 Calls Tryz.prog 16 #[.agg #[.slice A n cap, .int .i64 su]] w fun e w' => e = .returned (.bool (Qbl su n)) /\ Below w.heap.size w w' := by
 have e : Qbl su n = (decide ((n : Int) <= 80000) && inB su 0 (n : Int)) := by
  unfold Qbl; congr 1; simp; omega
 rw [e]
 clear e
 by_cases h : (n : Int) <= 80000
 all_goals
  go_enter Tryz.func16, Tryz.ntmps16
  go_wp2_with (go_at_call 30; refine (Qbp _ _ _ _).mono ?_; rintro e w' ⟨rfl, rfl⟩)
  go_ret
  exact ⟨by simp [h]<;>(intro h2; omega), by repeat (first | exact Below.refl _ _ | assumption | refine via0 (by assumption) ?_ | refine Below.drew ?_ | refine Qaf ?_ _)⟩
theorem Qb1 (su : Int) (A : Option Addr) (n cap : Nat) (hn : n <= 9223372036854775807) (w : World) :
 Calls Tryz.prog 15 #[.agg #[.slice A n cap, .int .i64 su]] w fun e w' => e = .returned (.bool (Qbl su n)) /\ Below w.heap.size w w' := by
 have e : Qbl su n = (decide ((n : Int) <= 80000) && inB su 0 (n : Int)) := by
  unfold Qbl; congr 1; simp; omega
 rw [e]
 clear e
 by_cases h : (n : Int) <= 80000
 all_goals
  go_enter Tryz.func15, Tryz.ntmps15
  go_wp2_with (go_at_call 29; refine (Qes _ _ _ _).mono ?_; rintro e w' ⟨rfl, rfl⟩)
  go_ret
  exact ⟨by simp [h]<;>(intro h2; omega), by repeat (first | exact Below.refl _ _ | assumption | refine via0 (by assumption) ?_ | refine Below.drew ?_ | refine Qaf ?_ _)⟩
theorem keptB {W W' : World} {B : Nat} {o : Option Nat} {t : TypeId} {vs : Array Value} (h : Blk W B t vs) (hg : W.grownBy W' o) (hne : some B ≠ o) : Blk W' B t vs := (hg.block B h.lt hne).trans h
theorem heldD {W : World} {B C : Nat} {t t' : TypeId} {a b a' b' : Value} (h : Blk W B t #[a, b]) (h' : Blk W C t' #[a', b']) :
 W.cell? ⟨B, 0, none⟩ = some a /\ W.cell? ⟨B, 1, none⟩ = some b /\ (W.cell? ⟨C, 0, none⟩).isSome = true /\ (W.cell? ⟨C, 1, none⟩).isSome = true /\ W.frozen? ⟨C, 0, none⟩ = false /\ W.frozen? ⟨C, 1, none⟩ = false := by
 obtain ⟨h0, h1⟩ := h.row2
 obtain ⟨s0, s1⟩ := h'.row2
 exact ⟨h0, h1, by rw [s0]; rfl, by rw [s1]; rfl, h'.thaw 0, h'.thaw 1⟩
theorem Qd2 (su : Int) (A : Option Addr) (cap : Nat) (l : List UInt8) (hl : l.length <= 3000000) (w : World) (hA : At w A l) :
 Calls Tryz.prog 24 #[.agg #[.slice A l.length cap, .int .i64 su]] w fun e w' => ∃ a c, e = .returned (.agg #[.slice a l.length c, .int .i64 su]) /\ w'.ownsRow w.heap.size 5 1 (.slice a l.length c) l.length (flat l) /\ Below w.heap.size w w' := by
 have HA : Hid (At w A l) := hA
 clear hA
 have p0 := (Blk.new w 25 #[.slice A l.length cap, .int .i64 su]).alloc (.cells #[.slice none 0 0, .int .i64 0] 25)
 have p1 := Blk.new (w.alloc (.cells #[.slice A l.length cap, .int .i64 su] 25)) 25 #[.slice none 0 0, .int .i64 0]
 have B0 : Below w.heap.size w ((w.alloc (.cells #[.slice A l.length cap, .int .i64 su] 25)).alloc (.cells #[.slice none 0 0, .int .i64 0] 25)) := Qaf (Qaf (Below.refl _ _) _) _
 have hsz : ((w.alloc (.cells #[.slice A l.length cap, .int .i64 su] 25)).alloc (.cells #[.slice none 0 0, .int .i64 0] 25)).heap.size = w.heap.size + 2 := by simp
 rw [World.size_alloc] at p1
 go_enter Tryz.func24, Tryz.ntmps24
 go_wp2_with fail
 generalize (w.alloc (.cells #[.slice A l.length cap, .int .i64 su] 25)).alloc (.cells #[.slice none 0 0, .int .i64 0] 25) = W0 at p0 p1 B0 hsz ⊢
 have X0 := (p0.alloc (.cells #[] 5)).drew
 have X1 := (p1.alloc (.cells #[] 5)).drew
 have hBX : Below w.heap.size w (W0.alloc (.cells #[] 5)).drew := (Qaf B0 _).drew
 obtain ⟨v, w1, hr, hown, hgrow, hat⟩ := Qbr w.heap.size (.slice (some ⟨W0.heap.size, 0, none⟩) 0 0) [] l A cap (W0.alloc (.cells #[] 5)).drew hBX.size
  ⟨rfl, .inr ⟨W0.heap.size, 0, #[], rfl, by omega, (Blk.new W0 5 #[]).drew, Nat.le_refl _, by simp [maxLen], rfl, rfl⟩⟩ (HA.out.below hBX) (by simp; omega)
 simp only [List.length_nil, Nat.zero_add, List.nil_append] at hown
 have Y0 := keptB X0 hgrow (by intro h; have : w.heap.size = W0.heap.size := Option.some.inj h; omega)
 have Y1 := keptB X1 hgrow (by intro h; have : w.heap.size + 1 = W0.heap.size := Option.some.inj h; omega)
 have B1 : Below w.heap.size w w1 := hBX.grown hgrow hBX.size (fun k e => by have : W0.heap.size = k := Option.some.inj e; omega)
 obtain ⟨a, c, rfl, hc⟩ := Qao hown
 have hn1 : some (w.heap.size + 1) ≠ (Value.slice a l.length c).ownBlock := by
  rcases hat with e | e
  . rw [e]; intro h; have : w.heap.size + 1 = W0.heap.size := Option.some.inj h; omega
  . rw [e]; intro h; have := Option.some.inj h; have e2 : (W0.alloc (Obj.cells #[] 5)).drew.heap.size = W0.heap.size + 1 := World.size_alloc _ _; omega
 have Hn1 : Hid (some (w.heap.size + 1) ≠ (Value.slice a l.length c).ownBlock) := hn1
 have Hown : Hid (w1.ownsRow w.heap.size 5 1 (.slice a l.length c) l.length (flat l)) := hown
 have Z0 := (Y0.other (B' := w.heap.size + 1) (by omega) 0 (.slice a l.length c)).other (B' := w.heap.size + 1) (by omega) 1 (.int .i64 su)
 have Z1 : Blk _ (w.heap.size + 1) 25 #[.slice a l.length c, .int .i64 su] := (Y1.setAt 0 (.slice a l.length c)).setAt 1 (.int .i64 su)
 have SW := heldD p0 p1
 have SX := heldD X0 X1
 have SY := heldD Y0 Y1
 have SZ := heldD Z0 Z1
 have SD := heldD p0.drew p1.drew
 obtain ⟨c0, c1⟩ := p0.row2
 obtain ⟨e0, e1⟩ := Z1.row2
 obtain ⟨n0, n1⟩ := Y1.row2
 have k6 := Y1.thaw 0
 have k7 := Y1.thaw 1
 clear hgrow hat hown hn1 hBX p0 p1 X0 X1 Y0 Y1 Z0 Z1 hc hsz
 go_region_held3 (fun w' => w'.cell? ⟨w.heap.size, 0, none⟩ = some (.slice A l.length cap) /\ w'.cell? ⟨w.heap.size, 1, none⟩ = some (.int .i64 su) /\
  (w'.cell? ⟨w.heap.size + 1, 0, none⟩).isSome = true /\ (w'.cell? ⟨w.heap.size + 1, 1, none⟩).isSome = true /\ w'.frozen? ⟨w.heap.size + 1, 0, none⟩ = false /\ w'.frozen? ⟨w.heap.size + 1, 1, none⟩ = false)
  (first | with_reducible exact SD | with_reducible exact SX | with_reducible exact SY | with_reducible exact SZ | with_reducible exact SW)
  (first
   | (refine Qc0 (by rfl) _ _ _ (by rfl) _ _ _ rfl rfl hr ?_))
 all_goals
  clear SW SX SY SZ SD n0 n1 k6 k7
  go_wp2
  exact bodyPost_ret (v := .agg #[.slice a l.length c, .int .i64 su]) (by simp [results, Tryz.results24, go_sem, e0, e1]) rfl
   ⟨_, _, rfl, Qaj (Qaj Hown.out Hn1.out) Hn1.out, Qal (Qal B1 (by omega) _) (by omega) _⟩
def okA (su : Int) (n m : Nat) : Bool := Qbl su n && decide (n + m <= 80000)
def appL (su : Int) (l b : List UInt8) : List UInt8 := if okA su l.length b.length then l ++ b else l
def Qdx (su : Int) (n : Nat) (keep : Int) : Int := max 0 (min keep ((n : Int) - su))
def Qcr (su : Int) (n : Nat) (keep : Int) : Nat := (su + Qdx su n keep).toNat
def Qdy (su : Int) (l : List UInt8) (keep : Int) : List UInt8 := if Qbl su l.length then l.take (Qcr su l.length keep) else l
def Qgu (su : Int) (n : Nat) (keep : Int) : Int := if Qbl su n then (Qcr su n keep : Int) else su
def Qeu (su : Int) (n : Nat) : Int := if Qbl su n then (n : Int) else su
theorem Qfg {su : Int} {n : Nat} (h : Qbl su n = true) (keep : Int) : 0 <= Qdx su n keep /\ su + Qdx su n keep <= (n : Int) /\ (Qcr su n keep : Int) = su + Qdx su n keep /\ Qcr su n keep <= n := by
 obtain ⟨_, h1, h2⟩ := Qdj h
 have e1 : 0 <= Qdx su n keep := by unfold Qdx; omega
 have e2 : su + Qdx su n keep <= (n : Int) := by unfold Qdx; omega
 refine ⟨e1, e2, ?_, ?_⟩<;>unfold Qcr<;>omega
def NewB (B : Nat) (w : World) (v : Value) (l : List UInt8) : Prop := ∃ a c F, v = .slice a l.length c /\ l.length <= c /\ c <= maxLen /\ Sl w a l F /\ (∀ x ∈ F, B <= x)
theorem Qcw {B n : Nat} {W : World} {v : Value} {l : List UInt8} (hn : n = l.length) (h : W.ownsRow B 5 1 v n (flat l)) : NewB B W v l := by
 subst hn
 have hf := Qa6 (t := 5) h
 have hc : ∃ a c, v = .slice a l.length c /\ l.length <= c /\ c <= maxLen := by
  rcases h.2 with ⟨rfl, h0⟩ | ⟨g, c, cur, rfl, _, _, h1, h2, _⟩
  . exact ⟨none, 0, by rw [h0], by omega, by simp [maxLen]⟩
  . exact ⟨_, c, rfl, h1, h2⟩
 obtain ⟨a, c, rfl, h1, h2⟩ := hc
 obtain ⟨_, F, hs, hF⟩ := Sl.of_fresh hf
 exact ⟨a, c, F, rfl, h1, h2, hs, hF⟩
theorem Qbo {B C : Nat} {W : World} {v : Value} {l : List UInt8} (h : NewB B W v l) (hC : C <= B) : NewB C W v l := by
 obtain ⟨a, c, F, e, h1, h2, hs, hF⟩ := h
 exact ⟨a, c, F, e, h1, h2, hs, fun x hx => Nat.le_trans hC (hF x hx)⟩
theorem Qdr {B : Nat} {W W' : World} {v : Value} {l : List UInt8} (h : NewB B W v l) (g : Below W.heap.size W W') : NewB B W' v l := by
 obtain ⟨a, c, F, e, h1, h2, hs, hF⟩ := h
 exact ⟨a, c, F, e, h1, h2, hs.below g, hF⟩
theorem Qa8 {B C i : Nat} {W : World} {v u : Value} {l : List UInt8} (h : NewB B W v l) (hC : C < B) : NewB B (W.setCell ⟨C, i, none⟩ u) v l := by
 obtain ⟨a, c, F, e, h1, h2, hs, hF⟩ := h
 exact ⟨a, c, F, e, h1, h2, hs.off (Off.of_only ((Only.refl C W).set i u)) (fun x hx hm => by have := hF x hx; simp at hm; omega), hF⟩
theorem min8_any (a b : Int) (w : World) : Calls Tryz.prog 26 #[.int .i64 a, .int .i64 b] w fun e w' => e = .returned (.int .i64 (min a b)) /\ w' = w := by
 by_cases h : a < b
 . rw [show min a b = a by omega]
   go_enter Tryz.func26, Tryz.ntmps26
   go_wp2
   go_ret
   exact ⟨rfl, rfl⟩
 . rw [show min a b = b by omega]
   go_enter Tryz.func26, Tryz.ntmps26
   go_wp2
   go_ret
   exact ⟨rfl, rfl⟩
theorem max8_any (a b : Int) (w : World) : Calls Tryz.prog 25 #[.int .i64 a, .int .i64 b] w fun e w' => e = .returned (.int .i64 (max a b)) /\ w' = w := by
 by_cases h : b < a
 . rw [show max a b = a by omega]
   go_enter Tryz.func25, Tryz.ntmps25
   go_wp2
   go_ret
   exact ⟨rfl, rfl⟩
 . rw [show max a b = b by omega]
   go_enter Tryz.func25, Tryz.ntmps25
   go_wp2
   go_ret
   exact ⟨rfl, rfl⟩
theorem Qg2 (su : Int) (A : Option Addr) (cap : Nat) (l : List UInt8) (hl : l.length <= 1048576) (w : World) (hA : At w A l) :
 Calls Tryz.prog 14 #[.agg #[.slice A l.length cap, .int .i64 su]] w fun e w' => ∃ v, e = .returned (.agg #[v, .int .i64 (Qeu su l.length)]) /\ NewB w.heap.size w' v l /\ Below w.heap.size w w' := by
 have HA := hidP hA
 have HD : Hid (∀ W : World, Calls Tryz.prog 16 #[.agg #[.slice A l.length cap, .int .i64 su]] W fun e w' => e = .returned (.bool (Qbl su l.length)) /\ Below W.heap.size W w') := fun W => Qcm su A l.length cap (by omega) W
 clear hA
 unfold Qeu
 generalize Qbl su l.length = bb at HD ⊢
 have B0 : Below w.heap.size w ((w.alloc (.cells #[.slice A l.length cap, .int .i64 su] 25)).alloc (.cells #[.slice none 0 0, .int .i64 0] 25)) := Qaf (Qaf (Below.refl _ _) _) _
 have p := (Blk.new w 25 #[.slice A l.length cap, .int .i64 su]).alloc (.cells #[.slice none 0 0, .int .i64 0] 25)
 have r := Blk.new (w.alloc (.cells #[.slice A l.length cap, .int .i64 su] 25)) 25 #[.slice none 0 0, .int .i64 0]
 rw [World.size_alloc] at r
 go_enter Tryz.func14, Tryz.ntmps14
 go_wp2_with fail
 generalize (w.alloc (.cells #[.slice A l.length cap, .int .i64 su] 25)).alloc (.cells #[.slice none 0 0, .int .i64 0] 25) = W0 at p r B0 ⊢
 have zr := r.lt
 refine (Qd2 su A cap l (by omega) _ (HA.out.below B0)).mono ?_
 rintro e w1 ⟨a, c, rfl, o1, g1⟩
 have B1 : Below w.heap.size w (w1.alloc (.cells #[.slice a l.length c, .int .i64 su] 25)) := Qaf (via0 g1 B0) _
 replace p := (p.below g1 p.lt).alloc (.cells #[.slice a l.length c, .int .i64 su] 25)
 replace r := (r.below g1 r.lt).alloc (.cells #[.slice a l.length c, .int .i64 su] 25)
 have o := Blk.new w1 25 #[.slice a l.length c, .int .i64 su]
 have O1 := hidP o1
 have z2 := Nat.lt_of_lt_of_le zr g1.size
 have zo := g1.size
 have z0 := B0.size
 clear o1 g1
 obtain ⟨u0, u1⟩ := p.row2
 go_wp2_with fail
 refine (HD.out _).mono ?_
 rintro e w2 ⟨rfl, g2⟩
 have B2 := via0 g2 B1
 replace p := p.below g2 p.lt
 replace r := r.below g2 r.lt
 replace o := o.below g2 o.lt
 have G : Below w1.heap.size w1 w2 := via0 g2 (Qaf (Below.refl _ _) _)
 have O2 := hidP (Qaq O1.out G)
 have HG := hidP G
 have zo2 := o.lt
 clear u0 u1 g2 G
 obtain ⟨u0, u1⟩ := p.row2
 obtain ⟨o0, o1⟩ := o.row2
 obtain ⟨r0, r1⟩ := r.row2
 have f0 := r.thaw 0
 have f1 := r.thaw 1
 have f2 := o.thaw 1
 have f3 := o.thaw 0
 cases bb
 . have R := (r.setAt 0 (.slice a l.length c)).setAt 1 (.int .i64 su)
   obtain ⟨e0, e1⟩ := Blk.row2 R
   clear R
   go_wp2
   exact bodyPost_ret (v := .agg #[.slice a l.length c, .int .i64 su]) (by simp [results, Tryz.results14, go_sem, e0, e1]) rfl
    ⟨_, rfl, Qbo (Qa8 (Qa8 (Qdr (Qcw rfl O1.out) HG.out) zr) zr) z0, Qal (Qal B2 (by omega) _) (by omega) _⟩
 . have R := ((r.other (B' := w1.heap.size) (by omega) 1 (.int .i64 (l.length : Int))).setAt 0 (.slice a l.length c)).setAt 1 (.int .i64 (l.length : Int))
   obtain ⟨e0, e1⟩ := Blk.row2 R
   clear R
   go_wp2
   exact bodyPost_ret (v := .agg #[.slice a l.length c, .int .i64 (l.length : Int)]) (by simp [results, Tryz.results14, go_sem, e0, e1]) rfl
    ⟨_, rfl, Qbo (Qa8 (Qa8 (Qdr (Qcw rfl O1.out) (Qal HG.out (Nat.le_refl _) _)) zr) zr) z0, Qal (Qal (Qal B2 (by omega) _) (by omega) _) (by omega) _⟩
theorem Qf2 (su : Int) (A A2 : Option Addr) (cap cap2 : Nat) (l b : List UInt8) (hl : l.length <= 1048576) (hb : b.length <= 1048576) (w : World) (hA : At w A l) (hA2 : At w A2 b) :
 Calls Tryz.prog 10 #[.agg #[.slice A l.length cap, .int .i64 su], .slice A2 b.length cap2] w fun e w' => ∃ v, e = .returned (.tuple #[.agg #[v, .int .i64 su], .bool (okA su l.length b.length)]) /\ NewB w.heap.size w' v (appL su l b) /\ Below w.heap.size w w' := by
 have HA := hidP hA
 have HA2 := hidP hA2
 clear hA2
 have HD : Hid (∀ W : World, Calls Tryz.prog 16 #[.agg #[.slice A l.length cap, .int .i64 su]] W fun e w' => e = .returned (.bool (Qbl su l.length)) /\ Below W.heap.size W w') := fun W => Qcm su A l.length cap (by omega) W
 clear hA
 have hok : Hid (okA su l.length b.length = (Qbl su l.length && decide (l.length + b.length <= 80000))) := rfl
 have hL : Hid (appL su l b = if okA su l.length b.length then l ++ b else l) := rfl
 generalize appL su l b = L at hL ⊢
 generalize okA su l.length b.length = ok at hok hL ⊢
 generalize Qbl su l.length = bb at HD hok
 have B0 : Below w.heap.size w ((w.alloc (.cells #[.slice A l.length cap, .int .i64 su] 25)).alloc (.cells #[.slice none 0 0, .int .i64 0] 25)) := Qaf (Qaf (Below.refl _ _) _) _
 have p := (Blk.new w 25 #[.slice A l.length cap, .int .i64 su]).alloc (.cells #[.slice none 0 0, .int .i64 0] 25)
 have r := Blk.new (w.alloc (.cells #[.slice A l.length cap, .int .i64 su] 25)) 25 #[.slice none 0 0, .int .i64 0]
 rw [World.size_alloc] at r
 go_enter Tryz.func10, Tryz.ntmps10
 go_wp2_with fail
 generalize (w.alloc (.cells #[.slice A l.length cap, .int .i64 su] 25)).alloc (.cells #[.slice none 0 0, .int .i64 0] 25) = W0 at p r B0 ⊢
 have zr := r.lt
 refine (Qd2 su A cap l (by omega) _ (HA.out.below B0)).mono ?_
 rintro e w1 ⟨a, c, rfl, o1, g1⟩
 have B1 : Below w.heap.size w (w1.alloc (.cells #[.slice a l.length c, .int .i64 su] 25)) := Qaf (via0 g1 B0) _
 replace p := (p.below g1 p.lt).alloc (.cells #[.slice a l.length c, .int .i64 su] 25)
 replace r := (r.below g1 r.lt).alloc (.cells #[.slice a l.length c, .int .i64 su] 25)
 have o := Blk.new w1 25 #[.slice a l.length c, .int .i64 su]
 have O1 := hidP o1
 have z2 := Nat.lt_of_lt_of_le zr g1.size
 have zo := g1.size
 have z0 := B0.size
 clear o1 g1
 obtain ⟨u0, u1⟩ := p.row2
 go_wp2_with fail
 refine (HD.out _).mono ?_
 rintro e w2 ⟨rfl, g2⟩
 have B2 := via0 g2 B1
 replace p := p.below g2 p.lt
 replace r := r.below g2 r.lt
 replace o := o.below g2 o.lt
 have G : Below w1.heap.size w1 w2 := via0 g2 (Qaf (Below.refl _ _) _)
 have O2 := hidP (Qaq O1.out G)
 have HG := hidP G
 have zo2 := o.lt
 clear u0 u1 g2 G
 obtain ⟨u0, u1⟩ := p.row2
 obtain ⟨o0, o1⟩ := o.row2
 obtain ⟨r0, r1⟩ := r.row2
 have f0 := r.thaw 0
 have f1 := r.thaw 1
 have f2 := o.thaw 1
 have f3 := o.thaw 0
 cases bb
 . have eok : ok = false := by rw [hok.out]; rfl
   have eL : L = l := by rw [hL.out, eok]; rfl
   subst eok eL
   have R := (r.setAt 0 (.slice a L.length c)).setAt 1 (.int .i64 su)
   obtain ⟨e0, e1⟩ := Blk.row2 R
   clear R
   go_wp2
   exact bodyPost_ret (v := .tuple #[.agg #[.slice a L.length c, .int .i64 su], .bool false]) (by simp [results, Tryz.results10, go_sem, e0, e1]) rfl
    ⟨_, rfl, Qbo (Qa8 (Qa8 (Qdr (Qcw rfl O1.out) HG.out) zr) zr) z0, Qal (Qal B2 (by omega) _) (by omega) _⟩
 . by_cases hfit : (b.length : Int) > 80000 - (l.length : Int)
   . have eok : ok = false := by rw [hok.out, Bool.true_and]; exact decide_eq_false (by omega)
     have eL : L = l := by rw [hL.out, eok]; rfl
     subst eok eL
     have R := (r.setAt 0 (.slice a L.length c)).setAt 1 (.int .i64 su)
     obtain ⟨e0, e1⟩ := Blk.row2 R
     clear R
     go_wp2
     exact bodyPost_ret (v := .tuple #[.agg #[.slice a L.length c, .int .i64 su], .bool false]) (by simp [results, Tryz.results10, go_sem, e0, e1]) rfl
      ⟨_, rfl, Qbo (Qa8 (Qa8 (Qdr (Qcw rfl O1.out) HG.out) zr) zr) z0, Qal (Qal B2 (by omega) _) (by omega) _⟩
   . have eok : ok = true := by rw [hok.out, Bool.true_and]; exact decide_eq_true (by omega)
     have eL : Hid (L = l ++ b) := by show L = _; rw [hL.out, eok]; rfl
     subst eok
     obtain ⟨v3, w3, hr3, own3, gr3, at3⟩ := Qbr W0.heap.size (.slice a l.length c) l b A2 cap2 w2 (by omega) O2.out (HA2.out.below B2) (by omega)
     obtain ⟨a3, c3, rfl, _⟩ := Qao own3
     have far : ∀ C, C < W0.heap.size -> some C ≠ (Value.slice a l.length c).ownBlock := fun C hC => Qay O2.out hC
     have faro : some w1.heap.size ≠ (Value.slice a l.length c).ownBlock := fun e => Nat.lt_irrefl _ (Qbw O1.out e.symm)
     have r3 := r.kept gr3 (far _ zr)
     have o3 := o.kept gr3 faro
     have B3 : Below w.heap.size w w3 := B2.grown gr3 B2.size (fun k e => by have := Qay O2.out (C := k); exact Nat.le_of_not_lt fun h => far k (by omega) e.symm)
     have zo3 : some w1.heap.size ≠ (Value.slice a3 (l.length + b.length) c3).ownBlock := by
      rcases at3 with e | e
      . rw [e]; exact faro
      . rw [e]; intro h; have := Option.some.inj h; omega
     have R := ((r3.other (B' := w1.heap.size) (by omega) 0 (.slice a3 (l.length + b.length) c3)).setAt 0 (.slice a3 (l.length + b.length) c3)).setAt 1 (.int .i64 su)
     obtain ⟨e0, e1⟩ := Blk.row2 R
     obtain ⟨o0', o1'⟩ := o3.row2
     have f3' := o3.thaw 0
     obtain ⟨r0', r1'⟩ := r3.row2
     have f0' := r3.thaw 0
     have f1' := r3.thaw 1
     have O3 := hidP own3
     have Z3 := hidP zo3
     clear R own3 zo3 at3 far faro gr3
     go_wp2_with (at_builtin; refine Qae rfl _ _ _ rfl _ _ _ rfl rfl hr3 ?_)
     exact bodyPost_ret (v := .tuple #[.agg #[.slice a3 (l.length + b.length) c3, .int .i64 su], .bool true]) (by simp [results, Tryz.results10, go_sem, e0, e1]) rfl
      ⟨_, rfl, by
       have h := Qbo (Qa8 (C := w.heap.size + 1) (i := 1) (u := .int .i64 su) (Qa8 (C := w.heap.size + 1) (i := 0) (u := .slice a3 (l.length + b.length) c3) (Qcw (l := l ++ b) (by simp) (Qaj (i := 0) (u := .slice a3 (l.length + b.length) c3) O3.out Z3.out)) zr) zr) z0
       rw [eL.out]; exact h, Qal (Qal (Qal B3 (by omega) _) (by omega) _) (by omega) _⟩
theorem Qh6 (w : World) : (sizeOf 5).run Tryz.prog w = .ok 1 w := Tryz.sizeOf5 w
theorem cut_to8 (A : Option Addr) (n c j : Nat) (h2 : j <= c) (hc : c <= maxLen) (w : World) :
 (Instr.slice 22 (.slice A n c) none (some (.int .i64 (j : Int))) none).run Tryz.prog w = .ok (.slice A j c) w := by
 have hc' : c <= 9223372036854775807 := hc
 have e : A.map (fun x => x.add 0) = A := by cases A<;>rfl
 simp [Instr.slice, run_underlying Tryz.underlying22, Instr.sliceBounds, Instr.sliceBound, asIntOf, Qh6, h2, e]
theorem cut_end8 (A : Option Addr) (n c j : Nat) (h2 : j <= c) (hc : c <= maxLen) (w : World) :
 (Instr.slice 22 (.slice A n c) none (some (.int .i64 (j : Int))) (some (.int .i64 (j : Int)))).run Tryz.prog w = .ok (.slice A j j) w := by
 have hc' : c <= 9223372036854775807 := hc
 have e : A.map (fun x => x.add 0) = A := by cases A<;>rfl
 simp [Instr.slice, run_underlying Tryz.underlying22, Instr.sliceBounds, Instr.sliceBound, asIntOf, Qh6, h2, e]
theorem In.take8 {w : World} {b o : Nat} {l : List UInt8} (h : In w b o l) (n : Nat) : In w b o (l.take n) := fun j v hv => h j v (by
 have e : flat l = flat (l.take n) ++ flat (l.drop n) := by rw [← Qck, List.take_append_drop]
 rw [e, List.getElem?_append_left (List.getElem?_eq_some_iff.1 hv).1]
 exact hv)
theorem At.take8 {w : World} {A : Option Addr} {l : List UInt8} (h : At w A l) (n : Nat) : At w A (l.take n) := by
 rcases h with rfl | ⟨b, o, e, hb, hi⟩
 . left; simp
 . exact .inr ⟨b, o, e, hb, hi.take8 n⟩
theorem Qh8 {a b : World} (h : Below a.heap.size a b) (n : Nat) : Below a.heap.size a (b.drewN n) := by
 induction n with
 | zero => exact h
 | succ n ih => exact ih.drew
theorem Qg7 (su keep : Int) (A : Option Addr) (cap : Nat) (l : List UInt8) (hl : l.length <= 1048576) (hcap : l.length <= cap /\ cap <= maxLen) (w : World) (hA : At w A l) :
 Calls Tryz.prog 7 #[.agg #[.slice A l.length cap, .int .i64 su], .int .i64 keep] w fun e w' => ∃ v, e = .returned (.agg #[v, .int .i64 (Qgu su l.length keep)]) /\ NewB w.heap.size w' v (Qdy su l keep) /\ Below w.heap.size w w' := by
 have HA := hidP hA
 have HD : Hid (∀ W : World, Calls Tryz.prog 16 #[.agg #[.slice A l.length cap, .int .i64 su]] W fun e w' => e = .returned (.bool (Qbl su l.length)) /\ Below W.heap.size W w') := fun W => Qcm su A l.length cap (by omega) W
 clear hA
 have hS : Hid (Qgu su l.length keep = if Qbl su l.length then (Qcr su l.length keep : Int) else su) := rfl
 have hL : Hid (Qdy su l keep = if Qbl su l.length then l.take (Qcr su l.length keep) else l) := rfl
 have hF : Hid (Qbl su l.length = true -> 0 <= su /\ su <= (l.length : Int) /\ 0 <= Qdx su l.length keep /\ su + Qdx su l.length keep <= (l.length : Int) /\ (Qcr su l.length keep : Int) = su + Qdx su l.length keep /\ Qcr su l.length keep <= l.length) := fun h => ⟨(Qdj h).2.1, (Qdj h).2.2, Qfg h keep⟩
 have hZ : Hid (Qdx su l.length keep = max 0 (min keep ((l.length : Int) - su))) := rfl
 generalize Qgu su l.length keep = fs at hS ⊢
 generalize Qdy su l keep = L at hL ⊢
 generalize Qbl su l.length = bb at HD hS hL hF
 generalize Qcr su l.length keep = fn at hS hL hF
 generalize Qdx su l.length keep = fz at hF hZ
 have B0 : Below w.heap.size w ((w.alloc (.cells #[.slice A l.length cap, .int .i64 su] 25)).alloc (.cells #[.slice none 0 0, .int .i64 0] 25)) := Qaf (Qaf (Below.refl _ _) _) _
 have p := (Blk.new w 25 #[.slice A l.length cap, .int .i64 su]).alloc (.cells #[.slice none 0 0, .int .i64 0] 25)
 have r := Blk.new (w.alloc (.cells #[.slice A l.length cap, .int .i64 su] 25)) 25 #[.slice none 0 0, .int .i64 0]
 rw [World.size_alloc] at r
 go_enter Tryz.func7, Tryz.ntmps7
 go_wp2_with fail
 generalize (w.alloc (.cells #[.slice A l.length cap, .int .i64 su] 25)).alloc (.cells #[.slice none 0 0, .int .i64 0] 25) = W0 at p r B0 ⊢
 refine (HD.out _).mono ?_
 rintro e w2 ⟨rfl, g2⟩
 have B2 := via0 g2 B0
 replace p := p.below g2 p.lt
 replace r := r.below g2 r.lt
 have zr := r.lt
 have z0 := B2.size
 clear g2
 obtain ⟨u0, u1⟩ := p.row2
 cases bb
 . have eS : fs = su := hS.out
   have eL : L = l := hL.out
   subst eS eL
   go_wp2_with fail
   refine (Qd2 fs A cap L (by omega) _ (HA.out.below B2)).mono ?_
   rintro e w3 ⟨a, c, rfl, o3, g3⟩
   have B3 := via0 g3 B2
   replace r := r.below g3 r.lt
   have N3 := hidP (Qcw rfl o3)
   have R := (r.setAt 0 (.slice a L.length c)).setAt 1 (.int .i64 fs)
   obtain ⟨e0, e1⟩ := Blk.row2 R
   obtain ⟨r0, r1⟩ := r.row2
   have f0 := r.thaw 0
   have f1 := r.thaw 1
   clear R o3 g3 u0 u1
   go_wp2
   exact bodyPost_ret (v := .agg #[.slice a L.length c, .int .i64 fs]) (by simp [results, Tryz.results7, go_sem, e0, e1]) rfl
    ⟨_, rfl, Qbo (Qa8 (Qa8 N3.out zr) zr) z0, Qal (Qal B3 (by omega) _) (by omega) _⟩
 . have eS : Hid (fs = (fn : Int)) := hS.out
   have eL : Hid (L = l.take fn) := hL.out
   obtain ⟨s0, s1, k0, k1, k2, k3⟩ := hF.out rfl
   have hw1 : IntKind.i64.wrap ((l.length : Int) - su) = (l.length : Int) - su := by rw [IntKind.wrap_i64]; omega
   have hw2 : IntKind.i64.wrap (su + fz) = su + fz := by rw [IntKind.wrap_i64]; omega
   go_wp2_with fail
   go_quiet (first
    | (go_at_call 26; refine Calls.quiet_of_same ((min8_any _ _ _).mono (fun e w' h => h)))
    | (go_at_call 25; refine Calls.quiet_of_same ((max8_any _ _ _).mono (fun e w' h => h))))
   have ez : su + max 0 (min keep ((l.length : Int) - su)) = (fn : Int) := by rw [k2, hZ.out]
   rw [ez]
   have g3 : Below w2.heap.size w2 (w2.drewN nq) := Qh8 (Below.refl _ _) nq
   generalize w2.drewN nq = w3 at g3 ⊢
   have B3 := via0 g3 B2
   replace p := p.below g3 p.lt
   replace r := r.below g3 r.lt
   have zr3 := r.lt
   have z3 := B3.size
   have et : (l.take fn).length = fn := by rw [List.length_take]; omega
   obtain ⟨v4, w4, hr4, own4, gr4, at4⟩ := Qbr w3.heap.size (.slice (some ⟨w3.heap.size, 0, none⟩) 0 0) [] (l.take fn) A cap (w3.alloc (.cells #[] 5)) (by simp)
    ⟨rfl, .inr ⟨w3.heap.size, 0, #[], rfl, Nat.le_refl _, Blk.new w3 5 #[], Nat.le_refl _, by simp [maxLen], rfl, rfl⟩⟩ ((HA.out.below (Qaf B3 _)).take8 fn) (by simp; omega)
   rw [et] at hr4 own4
   simp only [List.length_nil, Nat.zero_add, List.nil_append] at own4
   obtain ⟨a4, c4, rfl, _⟩ := Qao own4
   have B4 : Below w.heap.size w w4 := (Qaf B3 (.cells #[] 5)).grown gr4 (by simp; omega) (fun k e => by have : w3.heap.size = k := Option.some.inj e; omega)
   have r4 := (r.alloc (.cells #[] 5)).kept gr4 (by intro h; have : w.heap.size + 1 = w3.heap.size := Option.some.inj h; omega)
   have N4 := hidP (Qcw et.symm own4)
   have R := (r4.setAt 0 (.slice a4 fn c4)).setAt 1 (.int .i64 (fn : Int))
   obtain ⟨e0, e1⟩ := Blk.row2 R
   obtain ⟨r0, r1⟩ := r4.row2
   have f0 := r4.thaw 0
   have f1 := r4.thaw 1
   obtain ⟨u0', u1'⟩ := (p.alloc (.cells #[] 5)).row2
   have hcut : ∀ W : World, (Instr.slice 22 (.slice A l.length cap) none (some (.int .i64 (fn : Int))) none).run Tryz.prog W = .ok (.slice A fn cap) W := fun W => cut_to8 A l.length cap fn (by omega) hcap.2 W
   clear R own4 at4 gr4 u0 u1 hw1 hw2 ez et k2 g3
   go_wp2_with (at_builtin; refine Qae rfl _ _ _ rfl _ _ _ rfl rfl hr4 ?_)
   have eS' := eS.out
   subst eS'
   exact bodyPost_ret (v := .agg #[.slice a4 fn c4, .int .i64 (fn : Int)]) (by simp [results, Tryz.results7, go_sem, e0, e1]) rfl
    ⟨_, rfl, by rw [eL.out]; exact Qbo (Qa8 (Qa8 N4.out zr3) zr3) z3, Qal (Qal B4 (by omega) _) (by omega) _⟩
end Go.Proofs.YtlniljigeemnoaaGreat.Gen
