/-
  A new node, as the specification makes it. No condition.
-/
import Derived.Test.YtenhcjkkpnlbeaaGreatDoorPnC
set_option linter.unusedVariables false
set_option linter.unusedSimpArgs false
set_option maxRecDepth 100000
set_option maxHeartbeats 8000000
namespace Go.Proofs.YtenhcjkkpnlbeaaGreatDoor.Gen
open ChangeShapes WideShapes ChangeAt RowKit Joins Deep Base
def noP {α : Type} : World -> α -> (Nat -> Prop) -> Prop := fun _ _ _ => True
theorem noP_firm {α : Type} [Cel α] : Firm (noP (α := α)) := fun _ _ _ _ _ _ _ _ => trivial
theorem ones_any (n : Nat) (hn : n <= 5) (w : World) :
 Calls Tryz.prog 32 #[.int .i64 (n : Int), .int .i64 1] w fun e w' => ∃ (a : Option Addr) (c : Nat), e = .returned (.slice a n c) /\ Sub w' a (List.replicate n (1 : Int)) (fun b => w.heap.size <= b /\ b < w'.heap.size) /\ Below w.heap.size w w' := by
 have G0 : GU (noP (α := Int)) 3 w.heap.size w.heap.size (w.alloc (.cells #[] 3)) (some ⟨w.heap.size, 0, none⟩) 0 [] :=
  ⟨⟨by simp [flat], .inr ⟨w.heap.size, 0, #[], rfl, Nat.le_refl _, Blk.new w _ _, Nat.le_refl _, by simp [maxLen], by simp, by simp [flat]⟩⟩, ⟨fun _ _ => False, fun i h => by simp at h, fun _ _ _ _ h => h.elim, fun _ _ h => h.elim⟩, Nat.le_refl _, by simp⟩
 have B0 := Qab (Below.refl _ w) (.cells #[] 3)
 have HG0 := hidP G0
 have HB0 := hidP B0
 clear G0 B0
 go_enter Tryz.func32, Tryz.ntmps32
 go_wp2
 go_loopw [5, 6] (fun v5 v6 W => ∃ (k c : Nat) (a : Option Addr), v6 = .int .i64 (k : Int) /\ v5 = .slice a k c /\ k <= n /\ Hid (GU (noP (α := Int)) 3 w.heap.size w.heap.size W a c (List.replicate k 1)) /\ Hid (Below w.heap.size w W)) (fun _ v6 _ => 5 - (intOf v6).toNat)
 case atStart => exact ⟨0, 0, some ⟨w.heap.size, 0, none⟩, rfl, rfl, by omega, HG0, HB0⟩
 case round =>
  obtain ⟨k, c, a, rfl, rfl, hk, G, B⟩ := hrel
  by_cases hkn : k < n
  . have hkn' : (k : Int) < (n : Int) := by omega
    have hw : IntKind.i64.wrap ((k : Int) + 1) = ((k + 1 : Nat) : Int) := by simp [IntKind.wrap, IntKind.bits, IntKind.signed]; omega
    obtain ⟨a2, c2, W2, hr, G2, o2⟩ := G.out.app noP_firm (pg := Tryz.prog) Tryz.underlying28 Qdf rfl (by decide) (by decide) (Offp.refl (fun _ => False) wr) (fun _ e => e.elim) (1 : Int) (S := fun _ => False) trivial (fun _ e => e.elim) #[.int .i64 1] rfl (by simp; omega)
    have e1 : List.replicate k (1 : Int) ++ [1] = List.replicate (k + 1) 1 := by rw [List.replicate_succ']
    rw [e1] at G2
    rw [List.length_replicate] at hr
    have B2 := (B.out.trans ((Qab (Below.refl _ wr) (.cells #[.int .i64 1] 3)).mono B.out.size)).trans (o2.toBelow (fun z e => e) (by have := B.out.size; simp; omega))
    have HG2 := hidP G2
    have HB2 := hidP B2
    clear G B o2 G2 B2 e1
    go_wp2_with (at_builtin; refine Qa8 rfl _ _ _ rfl _ _ _ rfl rfl hr ?_)
    exact ⟨⟨k + 1, c2, a2, by first | (rw [hw]; done) | (simp; done), rfl, by omega, HG2, HB2⟩, by simp [intOf]; omega⟩
  . obtain rfl : k = n := by omega
    have HS := hidP (Qfg G.out.own)
    clear G
    go_wp2
    go_ret
    exact ⟨a, c, rfl, HS.out, B.out⟩
structure Pn2 (w W : World) (sc zp : Array Value) : Prop where
  b : Blk W w.heap.size 24 sc
  r : Blk W (w.heap.size + 1) 56 zp
  bl : Below w.heap.size w W
theorem Pn2.below {w W W' : World} {sc zn : Array Value} (h : Pn2 w W sc zn) (g : Below W.heap.size W W') : Pn2 w W' sc zn := ⟨h.b.below g h.b.lt, h.r.below g h.r.lt, via0 g h.bl⟩
theorem Pn2.offp {w W W' : World} {sc zn : Array Value} (h : Pn2 w W sc zn) {b : Nat} (hb : w.heap.size + 1 < b) (o : Offp (fun z => z = b) W W') : Pn2 w W' sc zn := ⟨h.b.offp o (by omega), h.r.offp o (by omega), h.bl.trans (o.toBelow (fun z e => by omega) h.bl.size)⟩
def bldP (id : Int) (h v n q k : Value) : Value := match h, k with
  | .agg hs, .agg ks => .agg (#[.int .i64 id] ++ hs ++ #[.int .i64 0, v, n, q, .int .i64 0] ++ ks ++ l0SIS)
  | _, _ => undef
def PtN (ro : Int) (n : Nat) (j : Nat) (u : Value) (W : World) (S : Nat -> Prop) : Prop :=
  if j = 2 then ∃ x : KC, u = .agg (Qaj 0 (-1) 0 0 none 0 0 x.rA x.rs.length x.rc x.mA x.ms.length x.mc x.gA x.gs.length x.gc x.time x.dA x.ds.length x.dc x.lA x.ls.length x.lc) /\ x.p = newK true ro /\ KOwn W x S
  else if j = 4 then ∃ b : Nat, u = .slice (some ⟨b, 0, none⟩) n n /\ Sub W (some ⟨b, 0, none⟩) (List.replicate n false) S
  else if j = 6 then ∃ (a : Option Addr) (c : Nat), u = .slice a n c /\ Sub W a (List.replicate n (1 : Int)) S
  else if j = 8 then ∃ b : Nat, u = .slice (some ⟨b, 0, none⟩) n n /\ Sub W (some ⟨b, 0, none⟩) (List.replicate n (0 : Int)) S
  else if j = 10 then ∃ y : KC, u = .agg y.cells /\ y.p = newK true ro /\ KOwn W y S
  else if j = 12 then ∃ b : Nat, u = .pointer (some ⟨b, 0, none⟩) /\ Blk W b 56 Qaa /\ S b
  else True
theorem PtN_fm (ro : Int) (n j : Nat) (u : Value) : Fm (PtN ro n j u) := by
 refine ⟨fun W W' S T h o d => ?_, fun W S S' h s => ?_⟩
 . unfold PtN at h ⊢
   (repeat' split at h)
   . rename_i e; subst e; obtain ⟨x, h1, h2, h3⟩ := h; simp only [if_true]; exact ⟨x, h1, h2, h3.offp o d⟩
   . rename_i e0 e; subst e; obtain ⟨b, h1, h3⟩ := h; simp only [reduceIte, Nat.reduceEqDiff]; exact ⟨b, h1, h3.offp o d⟩
   . rename_i e0 e1 e; subst e; obtain ⟨a, c, h1, h3⟩ := h; simp only [reduceIte, Nat.reduceEqDiff]; exact ⟨a, c, h1, h3.offp o d⟩
   . rename_i e0 e1 e2 e; subst e; obtain ⟨b, h1, h3⟩ := h; simp only [reduceIte, Nat.reduceEqDiff]; exact ⟨b, h1, h3.offp o d⟩
   . rename_i e0 e1 e2 e3 e; subst e; obtain ⟨x, h1, h2, h3⟩ := h; simp only [reduceIte, Nat.reduceEqDiff]; exact ⟨x, h1, h2, h3.offp o d⟩
   . rename_i e0 e1 e2 e3 e4 e; subst e; obtain ⟨b, h1, h2, h3⟩ := h; simp only [reduceIte, Nat.reduceEqDiff]; exact ⟨b, h1, h2.offp o (d _ h3), h3⟩
   . rename_i e0 e1 e2 e3 e4 e5; simp only [if_neg e0, if_neg e1, if_neg e2, if_neg e3, if_neg e4, if_neg e5]
 . unfold PtN at h ⊢
   (repeat' split at h)
   . rename_i e; subst e; obtain ⟨x, h1, h2, h3⟩ := h; simp only [if_true]; exact ⟨x, h1, h2, h3.mono s⟩
   . rename_i e0 e; subst e; obtain ⟨b, h1, h3⟩ := h; simp only [reduceIte, Nat.reduceEqDiff]; exact ⟨b, h1, h3.mono s⟩
   . rename_i e0 e1 e; subst e; obtain ⟨a, c, h1, h3⟩ := h; simp only [reduceIte, Nat.reduceEqDiff]; exact ⟨a, c, h1, h3.mono s⟩
   . rename_i e0 e1 e2 e; subst e; obtain ⟨b, h1, h3⟩ := h; simp only [reduceIte, Nat.reduceEqDiff]; exact ⟨b, h1, h3.mono s⟩
   . rename_i e0 e1 e2 e3 e; subst e; obtain ⟨x, h1, h2, h3⟩ := h; simp only [reduceIte, Nat.reduceEqDiff]; exact ⟨x, h1, h2, h3.mono s⟩
   . rename_i e0 e1 e2 e3 e4 e; subst e; obtain ⟨b, h1, h2, h3⟩ := h; simp only [reduceIte, Nat.reduceEqDiff]; exact ⟨b, h1, h2, s _ h3⟩
   . rename_i e0 e1 e2 e3 e4 e5; simp only [if_neg e0, if_neg e1, if_neg e2, if_neg e3, if_neg e4, if_neg e5]
def lstN (m : Nat -> Bool) : Array Bool := #[true, true, m 2, true, m 4, true, m 6, true, m 8, true, m 10, m 11, m 12, false]
def preN (i : Nat) (m : Nat -> Bool) : Bool := if i = 11 then m 2 && m 4 && m 6 && m 8 && m 10 else if i = 12 then true else !m 11
def StN (w : World) (ro wi le ke id : Int) (n : Nat) (zp : Array Value) (m : Nat -> Bool) (a : Act) (W : World) : Prop := ∃ v : Nat -> Value,
  a = { tmps := #[.agg (Qag ro wi le ke), .int .i64 id, .int .i64 (n : Int), .pointer (some ⟨w.heap.size, 0, none⟩), undef, undef, .pointer (some ⟨w.heap.size + 1, 0, none⟩), .bool false, sl m v 12, .agg (Qag ro wi le ke), .bool true, .bool false, .bool false, .int .i64 (n : Int), .bool true, .bool false, .bool false, undef, .int .i64 id, .agg (Qag ro wi le ke), sl m v 2, .int .i64 (n : Int), sl m v 4, .int .i64 (n : Int), sl m v 6, .int .i64 (n : Int), sl m v 8, .agg (Qag ro wi le ke), sl m v 10, sl m v 11, undef, undef, undef, undef, undef, undef, undef], defers := [] } /\
  Pn2 w W (Qag ro wi le ke) zp /\ Lt (w.heap.size + 2) W (PtN ro n) m v /\ (m 11 = true -> v 11 = bldP id (v 2) (v 4) (v 6) (v 8) (v 10))
theorem Qbl {P : Program} {fn : Func} {p q : Tmp} {ty : TypeId} (h : fn.results = #[.cell p ty, .tmp q]) {tmps : Array Value} {w : World} {b : Nat} {v : Value} (ht : tmps.getD p undef = .pointer (some ⟨b, 0, none⟩)) (hv : tmps.getD q undef = v) {t : TypeId} {vs : Array Value} (r : Blk w b t vs) {fs : Array Field} (hu : P.underlying ty = some (.struct fs)) (hi : (P.info? ty).map (·.size) = some vs.size) : (results fn tmps).run P w = .ok (.tuple #[.agg vs, v]) w := by
 have ht2 : tmps[p]?.getD undef = .pointer (some ⟨b, 0, none⟩) := by rw [← Array.getD_eq_getD_getElem?]; exact ht
 have hv2 : tmps[q]?.getD undef = v := by rw [← Array.getD_eq_getD_getElem?]; exact hv
 have hl := run_loadVar_row (P := P) w b t ty vs (0, 0) (.struct fs) r hu rfl hi
 simp only [results, h]
 simp [ht2, hv2, asAddr, hl]
def ToldPN (w w' : World) (e : Ending) (R : Bool) (ro id : Int) (n : Nat) : Prop := ∃ q : PC, e = .returned (.tuple #[.agg (Qam q), .bool R]) /\ Nw q R ro (if R then id else 0) (if R then n else 0) /\ POwn w' q (fun z => w.heap.size <= z /\ z < w'.heap.size) /\ Below w.heap.size w w'
def zPC : PC := ⟨0, 0, 0, 0, 0, none, 0, [], zKC, 0, none, 0, [], none, 0, [], none, 0, [], 0, zKC, none, 0, [], 0, none, 0, []⟩
theorem zPC_new (ro : Int) : Nw zPC false ro 0 0 := ⟨rfl, rfl, rfl, rfl, rfl, rfl, rfl, rfl, rfl, rfl, rfl, rfl, rfl, rfl, rfl, rfl⟩
theorem zPC_own (W : World) (S : Nat -> Prop) : POwn W zPC S := ⟨fun _ => 0, .inl rfl, ⟨fun _ => 0, .inl rfl, .inl rfl, .inl rfl, .inl rfl, .inl rfl⟩, .inl rfl, .inl rfl, .inl rfl, ⟨fun _ => 0, .inl rfl, .inl rfl, .inl rfl, .inl rfl, .inl rfl⟩, .inl rfl, .inl rfl⟩
theorem Qee {w w' : World} {ro id : Int} {n : Nat} (g : Below w.heap.size w w') : ToldPN w w' (.returned (.tuple #[.agg Qaa, .bool false])) false ro id n := ⟨zPC, rfl, zPC_new ro, zPC_own _ _, g⟩
theorem Qgu (ro wi le ke id size : Int) (hsz : I64 size) (bb : Bool) (hbb : ∀ q : PC, Nw q true ro id size.toNat -> okQ ro wi le ke (size.toNat : Int) q = bb) (w : World) :
 Calls Tryz.prog 12 #[.agg (Qag ro wi le ke), .int .i64 id, .int .i64 size] w fun e w' => ToldPN w w' e (setB ro wi le ke && inB size 1 5 && bb) ro id size.toNat := by
 cases hb : setB ro wi le ke && inB size 1 5
 . have ZS : Hid ((Qaa : Array Value).size = 26) := hidP rfl
   have Z1 : Hid ((Qaa : Array Value).all (·.oneCell') = true) := hidP (by simp [Value.oneCell'])
   have CS : Hid (∀ W : World, Calls Tryz.prog 10 #[.agg (Qag ro wi le ke)] W fun e w' => e = .returned (.bool (setB ro wi le ke)) /\ Below W.heap.size W w') := fun W => Qbp ro wi le ke W
   have CI : Hid (∀ W : World, Calls Tryz.prog 11 (Qbt size 1 5) W fun e w' => e = .returned (.bool (inB size 1 5)) /\ w' = W) := fun W => in_any _ _ _ W
   have HI := hidP (show Pn2 w ((w.alloc (.cells (Qag ro wi le ke) 24)).alloc (.cells Qaa 56)) (Qag ro wi le ke) Qaa from ⟨(Blk.new w _ _).alloc _, by have := Blk.new (w.alloc (.cells (Qag ro wi le ke) 24)) 56 Qaa; rwa [World.size_alloc] at this, Qab (Qab (Below.refl _ w) _) _⟩)
   obtain ⟨sb, hsb⟩ : ∃ b, setB ro wi le ke = b := ⟨_, rfl⟩
   obtain ⟨ib, hib⟩ : ∃ b, inB size 1 5 = b := ⟨_, rfl⟩
   rw [hsb] at CS
   rw [hib] at CI
   rw [hsb, hib] at hb
   simp only [Bool.false_and]
   clear hsb hib hsz hbb
   go_enter Tryz.func12, Tryz.ntmps12
   go_wp2_with fail
   refine (CS.out _).mono ?_
   rintro e w1 ⟨rfl, g1⟩
   replace HI := hidP (HI.out.below g1)
   clear g1 CS
   have HR := hidP (HI.out.r.row Qaa)
   have HB := hidP (Qcf HI.out.bl (show w.heap.size <= w.heap.size + 1 by omega) Qaa)
   cases sb with
   | false =>
    go_wp2_with (refine Qap rfl 56 _ _ rfl (g := w.heap.size + 1) (cells := Qaa) rfl rfl HI.out.r (by kernel_rfl) ZS.out Z1.out ?_)
    exact bodyPost_ret (v := .tuple #[.agg Qaa, .bool false]) (Qbl (fn := Tryz.f12) (p := 6) (q := 7) (by rfl) rfl rfl HR.out Tryz.underlying56 (by kernel_rfl)) rfl (Qee HB.out)
   | true =>
    obtain rfl : ib = false := by simpa using hb
    clear hb
    go_wp2_with fail
    refine (CI.out _).mono ?_
    rintro e w2 ⟨rfl, e2⟩
    cases e2
    go_wp2_with (refine Qap rfl 56 _ _ rfl (g := w.heap.size + 1) (cells := Qaa) rfl rfl HI.out.r (by kernel_rfl) ZS.out Z1.out ?_)
    exact bodyPost_ret (v := .tuple #[.agg Qaa, .bool false]) (Qbl (fn := Tryz.f12) (p := 6) (q := 7) (by rfl) rfl rfl HR.out Tryz.underlying56 (by kernel_rfl)) rfl (Qee HB.out)
 . obtain ⟨hB, hI⟩ : setB ro wi le ke = true /\ inB size 1 5 = true := by simpa using hb
   have hn : 1 <= size /\ size <= 5 := by simpa [inB] using hI
   obtain ⟨n, rfl⟩ : ∃ n : Nat, size = n := ⟨size.toNat, by omega⟩
   have hn5 : 1 <= n /\ n <= 5 := by omega
   simp only [Int.toNat_natCast] at hbb
   have CH : Hid (∀ W : World, Calls Tryz.prog 31 #[.agg (Qag ro wi le ke)] W fun e w' => ∃ x : KC, e = .returned (.agg (Qaj 0 (-1) 0 0 none 0 0 x.rA x.rs.length x.rc x.mA x.ms.length x.mc x.gA x.gs.length x.gc x.time x.dA x.ds.length x.dc x.lA x.ls.length x.lc)) /\ x.p = newK true ro /\ KOwn w' x (fun b => W.heap.size <= b /\ b < w'.heap.size) /\ Below W.heap.size W w') := fun W => by have h := Qgv ro wi le ke W; rw [hB] at h; simp only [Qnj, Qd7, if_true] at h; exact h
   have CK : Hid (∀ W : World, Calls Tryz.prog 33 #[.agg (Qag ro wi le ke)] W fun e w' => ∃ y : KC, e = .returned (.agg y.cells) /\ y.p = newK true ro /\ KOwn w' y (fun b => W.heap.size <= b /\ b < w'.heap.size) /\ Below W.heap.size W w') := fun W => by have h := Qef ro wi le ke W; rw [hB] at h; exact h
   have CO := hidP (ones_any n hn5.2)
   have CS : Hid (∀ W : World, Calls Tryz.prog 10 #[.agg (Qag ro wi le ke)] W fun e w' => e = .returned (.bool true) /\ Below W.heap.size W w') := fun W => hB ▸ Qbp ro wi le ke W
   have CI : Hid (∀ W : World, Calls Tryz.prog 11 (Qbt (n : Int) 1 5) W fun e w' => e = .returned (.bool true) /\ w' = W) := fun W => hI ▸ in_any _ _ _ W
   have HM : Hid (∀ W : World, (Instr.makeSlice 51 (.int .i64 (n : Int)) (.int .i64 (n : Int))).run Tryz.prog W = .ok (.slice (some ⟨W.heap.size, 0, none⟩) n n) (W.alloc (.cells (madeCells #[.bool false] (n * 1)) 4))) := Qby (P := Tryz.prog) Tryz.underlying51 infoBool (by decide) n (by omega)
   have HMI : Hid (∀ W : World, (Instr.makeSlice 28 (.int .i64 (n : Int)) (.int .i64 (n : Int))).run Tryz.prog W = .ok (.slice (some ⟨W.heap.size, 0, none⟩) n n) (W.alloc (.cells (madeCells #[.int .i64 0] (n * 1)) 3))) := Qby (P := Tryz.prog) Tryz.underlying28 Qdf (by decide) n (by omega)
   rw [Nat.mul_one] at HM HMI
   have I : Pn2 w ((w.alloc (.cells (Qag ro wi le ke) 24)).alloc (.cells Qaa 56)) (Qag ro wi le ke) Qaa := ⟨(Blk.new w _ _).alloc _, by have := Blk.new (w.alloc (.cells (Qag ro wi le ke) 24)) 56 Qaa; rwa [World.size_alloc] at this, Qab (Qab (Below.refl _ w) _) _⟩
   have MkS : Hid (∀ W : World, Blk W w.heap.size 24 (Qag ro wi le ke) -> (fun (W : World) => W.cell? ⟨w.heap.size, 0, none⟩ = some (.int .i64 ro) /\ W.cell? ⟨w.heap.size, 1, none⟩ = some (.int .i64 wi) /\ W.cell? ⟨w.heap.size, 2, none⟩ = some (.int .i64 le) /\ W.cell? ⟨w.heap.size, 3, none⟩ = some (.int .i64 ke)) W) := hidP (fun W h => h.row4)
   have CP : Hid (∀ (q : PC) (W : World), Nw q true ro id n -> PAt W q -> Calls Tryz.prog 34 #[.agg (Qag ro wi le ke), .agg (Qam q), .int .i64 (n : Int)] W fun e w' => e = .returned (.bool bb) /\ Below W.heap.size W w') := fun q W hq hW => by have h := specOkQ (wi := wi) (le := le) (ke := ke) hq (fun _ => (Qdm hB).2) hn5.2 W hW; rwa [hbb q hq] at h
   simp only [Bool.true_and, Int.toNat_natCast]
   clear hb hB hI hn hsz hbb
   go_enter Tryz.func12, Tryz.ntmps12
   go_upto_region 1 with fail
   have ZS : Hid ((Qaa : Array Value).size = 26) := hidP rfl
   generalize (w.alloc (.cells (Qag ro wi le ke) 24)).alloc (.cells Qaa 56) = v0 at I ⊢
   generalize (Qaa : Array Value) = zp at I ZS
   obtain ⟨c0, c1, c2, c3⟩ := I.b.row4
   have q0 := I.b.lt
   go_wp2_with fail
   refine (CS.out _).mono ?_
   rintro e w1 ⟨rfl, g1⟩
   have HI := hidP (I.below g1)
   clear I g1 c0 c1 c2 c3 q0
   go_wp2_with fail
   refine (CI.out _).mono ?_
   rintro e w1' ⟨rfl, rfl⟩
   go_upto_region 3 with fail
   go_cut [8] from 18 to 29 (fun s8 wx => ∃ (b : Nat) (q : PC), s8 = .pointer (some ⟨b, 0, none⟩) /\ Nw q true ro id n /\ Blk wx b 56 (Qam q) /\ w.heap.size + 1 < b /\ Pn2 w wx (Qag ro wi le ke) zp /\ POwn wx q (fun z => w.heap.size + 2 <= z /\ z < wx.heap.size /\ z ≠ b))
   case first =>
    refine wp_region_noPanic ?_
    refine wp_region_held_drew (S := (fun (W : World) => W.cell? ⟨w.heap.size, 0, none⟩ = some (.int .i64 ro) /\ W.cell? ⟨w.heap.size, 1, none⟩ = some (.int .i64 wi) /\ W.cell? ⟨w.heap.size, 2, none⟩ = some (.int .i64 le) /\ W.cell? ⟨w.heap.size, 3, none⟩ = some (.int .i64 ke))) (by kernel_rfl) ?_ (fun hH => ?_)
    . exact MkS.out _ HI.out.b
    have I := HI.out.below (Below.refl _ _).drew
    generalize w1'.drew = u0 at *
    have L0 : Lt (w.heap.size + 2) u0 (PtN ro n) (fun _ => false) (fun _ => undef) := Lt.start (by have := I.r.lt; omega) _
    refine ztk [0, 1, 3, 5, 7, 9] ?_; repeat (refine ztn (h := ?_); try simp only [zX,zY])
    refine zte ?_
    refine Ql5 (n1 := 1 + 7) (l1 := lstN (fun _ => false)) (T := StN w ro wi le ke id n zp (fun _ => false)) (fun a W hT hS => Qf5 [2, 4, 6, 8, 10, 11, 12] lstN preN (StN w ro wi le ke id n zp) ?hl ?step ?tail 7 (fun _ => false) a W (by kernel_rfl) hT hS) (by kernel_rfl) ⟨fun _ => undef, rfl, I, L0, fun e => by cases e⟩ hH
    case hl =>
     intro i hi m
     simp only [List.mem_cons, List.not_mem_nil, or_false] at hi
     rcases hi with rfl | rfl | rfl | rfl | rfl | rfl | rfl<;>rfl
    case step =>
     clear I L0 HI hH
     intro i hi m a W hp hT hS
     obtain ⟨v, rfl, I, L, hb⟩ := hT
     have F := PtN_fm ro n
     simp only [List.mem_cons, List.not_mem_nil, or_false] at hi
     rcases hi with rfl | rfl | rfl | rfl | rfl | rfl | rfl
     . have h11 : m 11 = false := by simpa [preN] using hp
       refine ⟨_, rfl, fun K hK => ?_⟩
       go_simp
       refine (CH.out _).mono ?_
       rintro e w2 ⟨x, rfl, hpx, hox, g⟩
       exact hK.out _ _ (MkS.out _ (I.below g).b) ⟨updv v 2 (.agg (Qaj 0 (-1) 0 0 none 0 0 x.rA x.rs.length x.rc x.mA x.ms.length x.mc x.gA x.gs.length x.gc x.time x.dA x.ds.length x.dc x.lA x.ls.length x.lc)), rfl, I.below g, L.fresh F g 2 _ (by unfold PtN; exact ⟨x, rfl, hpx, hox⟩), fun e => by simp [updm, h11] at e⟩
     . have h11 : m 11 = false := by simpa [preN] using hp
       have hmk := HM.out W
       have g := Qab (Below.refl _ W) (.cells (madeCells #[.bool false] n) 4)
       refine ⟨_, rfl, fun K hK => ?_⟩
       go_simp
       exact hK.out _ _ (MkS.out _ (I.below g).b) ⟨updv v 4 (.slice (some ⟨W.heap.size, 0, none⟩) n n), rfl, I.below g, L.fresh F g 4 _ (by unfold PtN; exact ⟨W.heap.size, rfl, Qd3 (Blk.new W _ _) (by rw [Qfk, Qea (v := .bool false) rfl]) ⟨Nat.le_refl _, (Blk.new W _ _).lt⟩⟩), fun e => by simp [updm, h11] at e⟩
     . have h11 : m 11 = false := by simpa [preN] using hp
       refine ⟨_, rfl, fun K hK => ?_⟩
       go_simp
       refine (CO.out _).mono ?_
       rintro e w2 ⟨a6, c6, rfl, hs, g⟩
       exact hK.out _ _ (MkS.out _ (I.below g).b) ⟨updv v 6 (.slice a6 n c6), rfl, I.below g, L.fresh F g 6 _ (by unfold PtN; exact ⟨a6, c6, rfl, hs⟩), fun e => by simp [updm, h11] at e⟩
     . have h11 : m 11 = false := by simpa [preN] using hp
       have hmk := HMI.out W
       have g := Qab (Below.refl _ W) (.cells (madeCells #[.int .i64 0] n) 3)
       refine ⟨_, rfl, fun K hK => ?_⟩
       go_simp
       exact hK.out _ _ (MkS.out _ (I.below g).b) ⟨updv v 8 (.slice (some ⟨W.heap.size, 0, none⟩) n n), rfl, I.below g, L.fresh F g 8 _ (by unfold PtN; exact ⟨W.heap.size, rfl, Qd3 (Blk.new W _ _) (by rw [Qfk, Qea (v := .int .i64 0) rfl]) ⟨Nat.le_refl _, (Blk.new W _ _).lt⟩⟩), fun e => by simp [updm, h11] at e⟩
     . have h11 : m 11 = false := by simpa [preN] using hp
       refine ⟨_, rfl, fun K hK => ?_⟩
       go_simp
       refine (CK.out _).mono ?_
       rintro e w2 ⟨y, rfl, hpy, hoy, g⟩
       exact hK.out _ _ (MkS.out _ (I.below g).b) ⟨updv v 10 (.agg y.cells), rfl, I.below g, L.fresh F g 10 _ (by unfold PtN; exact ⟨y, rfl, hpy, hoy⟩), fun e => by simp [updm, h11] at e⟩
     . obtain ⟨⟨⟨⟨h2, h4⟩, h6⟩, h8⟩, h10⟩ : (((m 2 = true /\ m 4 = true) /\ m 6 = true) /\ m 8 = true) /\ m 10 = true := by simpa [preN] using hp
       obtain ⟨_, col, co⟩ := L
       have p2 := co 2 h2
       have p4 := co 4 h4
       have p6 := co 6 h6
       have p8 := co 8 h8
       have p10 := co 10 h10
       unfold PtN at p2 p4 p6 p8 p10
       simp only [reduceIte, Nat.reduceEqDiff] at p2 p4 p6 p8 p10
       obtain ⟨x, e2, _⟩ := p2
       obtain ⟨b4, e4, _⟩ := p4
       obtain ⟨a6, c6, e6, _⟩ := p6
       obtain ⟨b8, e8, _⟩ := p8
       obtain ⟨y, e10, _⟩ := p10
       have HL := hidP (show Lt (w.heap.size + 2) W (PtN ro n) m v from ⟨by assumption, col, co⟩)
       have He2 := hidP e2
       have He10 := hidP e10
       simp only [KC.cells] at e10
       clear co hb
       refine ⟨_, rfl, fun K hK => ?_⟩
       simp only [sl, h2, h4, h6, h8, h10, if_true, e2, e4, e6, e8, e10]
       go_simp
       refine hK.out _ _ (MkS.out _ I.b) ⟨updv v 11 (bldP id (v 2) (v 4) (v 6) (v 8) (v 10)), ?_, I, HL.out.plain F 11 _ (by unfold PtN; simp), fun _ => rfl⟩
       simp [sl, updm, updv, h2, h4, h6, h8, h10, e2, e4, e6, e8, e10, bldP]
     . have g := Qab (Below.refl _ W) (.cells Qaa 56)
       refine ⟨_, rfl, fun K hK => ?_⟩
       go_simp
       exact hK.out _ _ (MkS.out _ (I.below g).b) ⟨updv v 12 (.pointer (some ⟨W.heap.size, 0, none⟩)), rfl, I.below g, L.fresh F g 12 _ (by unfold PtN; exact ⟨W.heap.size, rfl, Blk.new W _ _, Nat.le_refl _, (Blk.new W 56 Qaa).lt⟩), fun e => hb e⟩
    case tail =>
     clear I L0 HI hH
     intro m a W hm hT hS
     obtain ⟨v, rfl, I, L, hb⟩ := hT
     simp only [List.all_cons, List.all_nil, Bool.and_true, Bool.and_eq_true] at hm
     obtain ⟨h2, h4, h6, h8, h10, h11, h12⟩ := hm
     obtain ⟨hw, col, co⟩ := L
     have p2 := co 2 h2
     have p4 := co 4 h4
     have p6 := co 6 h6
     have p8 := co 8 h8
     have p10 := co 10 h10
     have p12 := co 12 h12
     unfold PtN at p2 p4 p6 p8 p10 p12
     simp only [reduceIte, Nat.reduceEqDiff] at p2 p4 p6 p8 p10 p12
     obtain ⟨x, e2, hpx, o2⟩ := p2
     obtain ⟨b4, e4, o4⟩ := p4
     obtain ⟨a6, c6, e6, o6⟩ := p6
     obtain ⟨b8, e8, o8⟩ := p8
     obtain ⟨y, e10, hpy, o10⟩ := p10
     obtain ⟨b, e12, O, hbt⟩ := p12
     obtain ⟨q, hq⟩ : ∃ q : PC, q = ⟨id, 0, -1, 0, 0, none, 0, [], x, 0, some ⟨b4, 0, none⟩, n, List.replicate n false, a6, c6, List.replicate n 1, some ⟨b8, 0, none⟩, n, List.replicate n 0, 0, y, none, 0, [], 0, none, 0, []⟩ := ⟨_, rfl⟩
     have e11 : v 11 = .agg (Qam q) := by
      rw [hb h11, e2, e4, e6, e8, e10, hq]
      simp [bldP, Qam, Qb7, Qdg, KC.cells]
     have Q : Nw q true ro id n := by subst hq; exact ⟨rfl, rfl, rfl, rfl, rfl, rfl, hpx, rfl, rfl, rfl, rfl, rfl, hpy, rfl, rfl, rfl⟩
     have hb1 : w.heap.size + 2 <= b := hbt.1.1
     have PO : POwn W q (fun z => w.heap.size + 2 <= z /\ z < W.heap.size /\ z ≠ b) := by
      subst hq
      have mm : ∀ j k : Nat, j ≠ 12 -> (if j = 2 then 2 else if j = 4 then 3 else if j = 6 then 4 else if j = 8 then 5 else if j = 10 then 6 else 0) = k -> ∀ z, TgN (w.heap.size + 2) W col j z -> (w.heap.size + 2 <= z /\ z < W.heap.size /\ z ≠ b) /\ (if col z = 2 then 2 else if col z = 4 then 3 else if col z = 6 then 4 else if col z = 8 then 5 else if col z = 10 then 6 else 0) = k := fun j k hj hk z hz => ⟨⟨hz.1.1, hz.1.2, fun e => hj (by subst e; rw [← hz.2, hbt.2])⟩, by rw [hz.2]; exact hk⟩
      exact ⟨fun z => if col z = 2 then 2 else if col z = 4 then 3 else if col z = 6 then 4 else if col z = 8 then 5 else if col z = 10 then 6 else 0, .inl rfl, o2.mono (mm 2 2 (by decide) rfl), o4.mono (mm 4 3 (by decide) rfl), o6.mono (mm 6 4 (by decide) rfl), o8.mono (mm 8 5 (by decide) rfl), o10.mono (mm 10 6 (by decide) rfl), .inl rfl, .inl rfl⟩
     simp only [lstN, sl, h2, h4, h6, h8, h10, h11, h12, if_true, e11, e12]
     have HQ := hidP Q
     have HPO := hidP PO
     clear hb e2 e4 e6 e8 e10 e11 e12 o2 o4 o6 o8 o10 hpx hpy h2 h4 h6 h8 h10 h11 h12 co hbt hq Q PO
     refine zR1 13 (fun K hK => ?_)
     simp only [zG]
     rw [if_pos (by rfl)]
     refine wp_store_row 56 _ _ rfl b (Qam q) rfl rfl 56 Qaa O (by kernel_rfl) rfl (Qc7 _) ?_
     have k := (Offp.refl (fun z => z = b) W).row (b := b) rfl (Qam q)
     have hk := k.size
     have I := I.offp (by omega) k
     refine hK.out _ _ (MkS.out _ I.b) (fun hH => ?_)
     clear hK K
     try simp only [zX,zY]
     refine zdn ?_
     go_wp2_with fail
     go_meet
     exact ⟨b, q, rfl, HQ.out, O.row _, by omega, I, (HPO.out.offp k (fun z hz e => hz.2.2 e)).mono (fun z hz => ⟨hz.1, by have := hz.2.1; omega, hz.2.2⟩)⟩
   case rest =>
    obtain ⟨b, q, rfl, Q, O, hb, I, PO⟩ := hcut
    have Z1 : Hid ((Qaa : Array Value).all (·.oneCell') = true) := hidP (by simp [Value.oneCell'])
    have Z2 : Hid ((Qaa : Array Value).size = zp.size) := hidP ZS.out.symm
    have HQ := hidP Q
    have HI := hidP I
    have HO := hidP O
    have HP := hidP PO
    have Hb := hidP hb
    clear Q I O PO hb
    go_upto_region 4 with fail
    refine wp_region_lit ?_
    refine Qar rfl 24 _ rfl (b := w.heap.size) rfl HI.out.b Tryz.underlying24 (by kernel_rfl) ?_
    refine Qar rfl 56 _ rfl (b := b) rfl HO.out Tryz.underlying56 (by kernel_rfl) ?_
    go_wp2_with fail
    refine (CP.out q _ HQ.out HP.out.at).mono ?_
    rintro e w5 ⟨rfl, g5⟩
    replace HI := hidP (HI.out.below g5)
    replace HO := hidP (HO.out.below g5 HO.out.lt)
    replace HP := hidP (HP.out.below g5)
    have Hs := hidP g5.size
    clear g5 CP CH CK CO CS CI HM HMI
    cases bb with
    | false =>
     have HR := hidP (HI.out.r.row Qaa)
     have HB := hidP (Qcf HI.out.bl (show w.heap.size <= w.heap.size + 1 by omega) Qaa)
     go_wp2_with (refine Qap rfl 56 _ _ rfl (g := w.heap.size + 1) (cells := Qaa) rfl rfl HI.out.r (by kernel_rfl) ZS.out Z1.out ?_)
     exact bodyPost_ret (v := .tuple #[.agg Qaa, .bool false]) (Qbl (fn := Tryz.f12) (p := 6) (q := 7) (by rfl) rfl rfl HR.out Tryz.underlying56 (by kernel_rfl)) rfl (Qee HB.out)
    | true =>
     have HR := hidP (HI.out.r.row (Qam q))
     have HB := hidP (Qcf HI.out.bl (show w.heap.size <= w.heap.size + 1 by omega) (Qam q))
     have k := (Offp.refl (fun z => z = w.heap.size + 1) w5).row (b := w.heap.size + 1) rfl (Qam q)
     have hk := k.size
     have HPO : Hid (POwn (w5.setRow (w.heap.size + 1) (Qam q)) q (fun z => w.heap.size <= z /\ z < (w5.setRow (w.heap.size + 1) (Qam q)).heap.size)) := hidP ((HP.out.offp k (fun z hz e => by have := hz.1; omega)).mono (fun z hz => ⟨by have := hz.1; omega, by have h1 := hz.2.1; have := Hs.out; omega⟩))
     clear k hk
     go_upto_region 6 with fail
     refine wp_region_lit ?_
     refine Qar rfl 56 _ rfl (b := b) rfl HO.out Tryz.underlying56 (by kernel_rfl) ?_
     go_wp2_with (refine Qap rfl 56 _ _ rfl (g := w.heap.size + 1) (cells := Qam q) rfl rfl HI.out.r (by kernel_rfl) ZS.out (Qc7 _) ?_)
     exact bodyPost_ret (v := .tuple #[.agg (Qam q), .bool true]) (Qbl (fn := Tryz.f12) (p := 6) (q := 7) (by rfl) rfl rfl HR.out Tryz.underlying56 (by kernel_rfl)) rfl ⟨q, rfl, HQ.out, HPO.out, HB.out⟩
end Go.Proofs.YtenhcjkkpnlbeaaGreatDoor.Gen
