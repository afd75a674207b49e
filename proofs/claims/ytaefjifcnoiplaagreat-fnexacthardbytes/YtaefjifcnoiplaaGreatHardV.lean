/-
  What a node must keep (Hard): what the laws' eq, mark and held functions of it do. No condition but the sizes of its lists.
-/
import Derived.Test.YtaefjifcnoiplaaGreatKeepV
import Derived.Test.YtaefjifcnoiplaaGreatAnsList
import Derived.Test.YtaefjifcnoiplaaGreatAns
import Derived.Test.YtaefjifcnoiplaaGreatTexts
import Derived.Deep.RegionHeld3
namespace Go.Proofs.YtaefjifcnoiplaaGreat.Gen
open Go.ChangeShapes Go.WideShapes Go.ChangeAt Go.RowKit Go.Joins Go.Deep Base
set_option linter.unusedVariables false
set_option linter.unusedSimpArgs false
theorem Blk.row11 {W : World} {B : Nat} {t : TypeId} {a b c d e f g h i j k : Value} (p : Blk W B t #[a, b, c, d, e, f, g, h, i, j, k]) :
    W.cell? ⟨B, 0, none⟩ = some a /\ W.cell? ⟨B, 1, none⟩ = some b /\ W.cell? ⟨B, 2, none⟩ = some c /\ W.cell? ⟨B, 2 + 1, none⟩ = some d /\ W.cell? ⟨B, 2 + 2, none⟩ = some e /\ W.cell? ⟨B, 5, none⟩ = some f /\ W.cell? ⟨B, 5 + 1, none⟩ = some g /\ W.cell? ⟨B, 5 + 2, none⟩ = some h /\ W.cell? ⟨B, 5 + 3, none⟩ = some i /\ W.cell? ⟨B, 5 + 4, none⟩ = some j /\ W.cell? ⟨B, 5 + 5, none⟩ = some k :=
  ⟨p.cell (by rfl), p.cell (by rfl), p.cell (by rfl), p.cell (by rfl), p.cell (by rfl), p.cell (by rfl), p.cell (by rfl), p.cell (by rfl), p.cell (by rfl), p.cell (by rfl), p.cell (by rfl)⟩
theorem eqKeep_is (x y : KC) (hf : KFit x) (hp : y.p = x.p) (w : World) (hx : KAt w x) (hy : KAt w y) :
    Calls Tryz.prog 24 #[.agg #[.slice x.rA x.rs.length x.rc, .slice x.mA x.ms.length x.mc, .slice x.gA x.gs.length x.gc, .int .i64 x.time, .slice x.dA x.ds.length x.dc, .slice x.lA x.ls.length x.lc], .agg #[.slice y.rA y.rs.length y.rc, .slice y.mA y.ms.length y.mc, .slice y.gA y.gs.length y.gc, .int .i64 y.time, .slice y.dA y.ds.length y.dc, .slice y.lA y.ls.length y.lc]] w fun e w' => e = .returned (.bool true) /\ Below w.heap.size w w' := by
  have h := eqKeep_same x y hf hp w hx hy
  obtain ⟨l1, l2, l3, l4, l5, l6⟩ := KC.p_len hp
  rw [← l1, ← l2, ← l3, ← l4] at h
  rw [l5, l6]
  rw [← l1, ← l2, ← l3, ← l4]
  exact h
set_option maxRecDepth 100000 in
set_option maxHeartbeats 1000000 in
theorem eqHard_same (te vo base bt : Int) (A A' : Option Addr) (cap cap' : Nat) (l : List En) (hl : l.length <= 9223372036854775807) (x y : KC) (hf : KFit x) (hp : y.p = x.p) (w : World) (hA : At w A l) (hA' : At w A' l) (hx : KAt w x) (hy : KAt w y) :
    Calls Tryz.prog 10 #[.agg #[.int .i64 te, .int .i64 vo, .int .i64 base, .int .i64 bt, .slice A l.length cap, .slice x.rA x.rs.length x.rc, .slice x.mA x.ms.length x.mc, .slice x.gA x.gs.length x.gc, .int .i64 x.time, .slice x.dA x.ds.length x.dc, .slice x.lA x.ls.length x.lc], .agg #[.int .i64 te, .int .i64 vo, .int .i64 base, .int .i64 bt, .slice A' l.length cap', .slice y.rA y.rs.length y.rc, .slice y.mA y.ms.length y.mc, .slice y.gA y.gs.length y.gc, .int .i64 y.time, .slice y.dA y.ds.length y.dc, .slice y.lA y.ls.length y.lc]] w fun e w' => e = .returned (.bool true) /\ Below w.heap.size w w' := by
  have E1 : Hid (∀ W : World, Below w.heap.size w W -> Calls Tryz.prog 23 #[.agg #[.int .i64 base, .int .i64 bt, .slice A l.length cap], .agg #[.int .i64 base, .int .i64 bt, .slice A' l.length cap']] W fun e w' => e = .returned (.bool true) /\ Below W.heap.size W w') := fun W g =>
    eqLog_same base bt A A' cap cap' l hl W (hA.below g) (hA'.below g)
  have E2 : Hid (∀ W : World, Below w.heap.size w W -> Calls Tryz.prog 24 #[.agg #[.slice x.rA x.rs.length x.rc, .slice x.mA x.ms.length x.mc, .slice x.gA x.gs.length x.gc, .int .i64 x.time, .slice x.dA x.ds.length x.dc, .slice x.lA x.ls.length x.lc], .agg #[.slice y.rA y.rs.length y.rc, .slice y.mA y.ms.length y.mc, .slice y.gA y.gs.length y.gc, .int .i64 y.time, .slice y.dA y.ds.length y.dc, .slice y.lA y.ls.length y.lc]] W fun e w' => e = .returned (.bool true) /\ Below W.heap.size W w') := fun W g =>
    eqKeep_is x y hf hp W (hx.below g) (hy.below g)
  clear hA hA' hx hy hf hp
  go_enter Tryz.func10, Tryz.ntmps10
  go_wp2_with fail
  have p0 : Blk ((w.alloc (.cells #[.int .i64 te, .int .i64 vo, .int .i64 base, .int .i64 bt, .slice A l.length cap, .slice x.rA x.rs.length x.rc, .slice x.mA x.ms.length x.mc, .slice x.gA x.gs.length x.gc, .int .i64 x.time, .slice x.dA x.ds.length x.dc, .slice x.lA x.ls.length x.lc] 51)).alloc (.cells #[.int .i64 te, .int .i64 vo, .int .i64 base, .int .i64 bt, .slice A' l.length cap', .slice y.rA y.rs.length y.rc, .slice y.mA y.ms.length y.mc, .slice y.gA y.gs.length y.gc, .int .i64 y.time, .slice y.dA y.ds.length y.dc, .slice y.lA y.ls.length y.lc] 51)) w.heap.size 51 #[.int .i64 te, .int .i64 vo, .int .i64 base, .int .i64 bt, .slice A l.length cap, .slice x.rA x.rs.length x.rc, .slice x.mA x.ms.length x.mc, .slice x.gA x.gs.length x.gc, .int .i64 x.time, .slice x.dA x.ds.length x.dc, .slice x.lA x.ls.length x.lc] := (Blk.new w _ _).alloc _
  have r0 : Blk ((w.alloc (.cells #[.int .i64 te, .int .i64 vo, .int .i64 base, .int .i64 bt, .slice A l.length cap, .slice x.rA x.rs.length x.rc, .slice x.mA x.ms.length x.mc, .slice x.gA x.gs.length x.gc, .int .i64 x.time, .slice x.dA x.ds.length x.dc, .slice x.lA x.ls.length x.lc] 51)).alloc (.cells #[.int .i64 te, .int .i64 vo, .int .i64 base, .int .i64 bt, .slice A' l.length cap', .slice y.rA y.rs.length y.rc, .slice y.mA y.ms.length y.mc, .slice y.gA y.gs.length y.gc, .int .i64 y.time, .slice y.dA y.ds.length y.dc, .slice y.lA y.ls.length y.lc] 51)) (w.heap.size + 1) 51 #[.int .i64 te, .int .i64 vo, .int .i64 base, .int .i64 bt, .slice A' l.length cap', .slice y.rA y.rs.length y.rc, .slice y.mA y.ms.length y.mc, .slice y.gA y.gs.length y.gc, .int .i64 y.time, .slice y.dA y.ds.length y.dc, .slice y.lA y.ls.length y.lc] := by have := Blk.new (w.alloc (.cells #[.int .i64 te, .int .i64 vo, .int .i64 base, .int .i64 bt, .slice A l.length cap, .slice x.rA x.rs.length x.rc, .slice x.mA x.ms.length x.mc, .slice x.gA x.gs.length x.gc, .int .i64 x.time, .slice x.dA x.ds.length x.dc, .slice x.lA x.ls.length x.lc] 51)) 51 #[.int .i64 te, .int .i64 vo, .int .i64 base, .int .i64 bt, .slice A' l.length cap', .slice y.rA y.rs.length y.rc, .slice y.mA y.ms.length y.mc, .slice y.gA y.gs.length y.gc, .int .i64 y.time, .slice y.dA y.ds.length y.dc, .slice y.lA y.ls.length y.lc]; simpa using this
  have B0 : Below w.heap.size w ((w.alloc (.cells #[.int .i64 te, .int .i64 vo, .int .i64 base, .int .i64 bt, .slice A l.length cap, .slice x.rA x.rs.length x.rc, .slice x.mA x.ms.length x.mc, .slice x.gA x.gs.length x.gc, .int .i64 x.time, .slice x.dA x.ds.length x.dc, .slice x.lA x.ls.length x.lc] 51)).alloc (.cells #[.int .i64 te, .int .i64 vo, .int .i64 base, .int .i64 bt, .slice A' l.length cap', .slice y.rA y.rs.length y.rc, .slice y.mA y.ms.length y.mc, .slice y.gA y.gs.length y.gc, .int .i64 y.time, .slice y.dA y.ds.length y.dc, .slice y.lA y.ls.length y.lc] 51)) := by repeat (first | exact Below.refl _ _ | assumption | refine via0 (by assumption) ?_ | refine Below.drew ?_ | refine alloc0 ?_ _)
  refine (E1.out _ B0).mono ?_
  rintro e w1 ⟨rfl, g1⟩
  have p1 := p0.below g1 p0.lt
  have r1 := r0.below g1 r0.lt
  have B1 : Below w.heap.size w w1 := via0 g1 B0
  obtain ⟨u0, u1, u2, u3, u4, u5, u6, u7, u8, u9, u10⟩ := p1.row11
  obtain ⟨v0, v1, v2, v3, v4, v5, v6, v7, v8, v9, v10⟩ := r1.row11
  have q1 := p1.lt
  have t1 := r1.lt
  clear p0 r0 B0 g1
  go_wp2_with fail
  refine (E2.out _ B1).mono ?_
  rintro e w2 ⟨rfl, g2⟩
  have B2 : Below w.heap.size w w2 := via0 g2 B1
  go_wp2
  go_ret
  exact ⟨rfl, B2⟩
set_option maxRecDepth 100000 in
set_option maxHeartbeats 1000000 in
theorem markHard_any (te vo base bt : Int) (A : Option Addr) (cap : Nat) (l : List En) (hl : l.length <= 1048576) (x : KC) (hf : KFit x) (F : List Nat) (S : Nat -> Prop) (hd : ∀ b ∈ F, ¬ S b) (k : Int) (hk : 1 <= k) (hk' : k <= 500000) (w : World) (hlt : ∀ b, S b -> b < w.heap.size) (hs : Sl w A l F) (h : KOwn w x S) :
    Calls Tryz.prog 11 #[.agg #[.int .i64 te, .int .i64 vo, .int .i64 base, .int .i64 bt, .slice A l.length cap, .slice x.rA x.rs.length x.rc, .slice x.mA x.ms.length x.mc, .slice x.gA x.gs.length x.gc, .int .i64 x.time, .slice x.dA x.ds.length x.dc, .slice x.lA x.ls.length x.lc], .int .i64 k] w fun e w' => e = .returned (.int .i64 (k + (l.length : Int) * 9 + (kct x : Int))) /\ Offp (fun b => b ∈ F ∨ S b) w w' /\ Sl w' A (marksEn l.length k) F /\ KOwn w' (mK x (k + (l.length : Int) * 9)) S := by
  have hFl := hs.lt
  obtain ⟨z, hz⟩ : ∃ z : Int, z = k + (l.length : Int) * 9 := ⟨_, rfl⟩
  have z1 : 1 <= z := by omega
  have z2 : z <= 10000000 := by omega
  have HL : Hid (∀ W : World, Sl W A l F -> Calls Tryz.prog 25 #[.agg #[.int .i64 base, .int .i64 bt, .slice A l.length cap], .int .i64 k] W fun e w' => e = .returned (.int .i64 z) /\ Off F W w' /\ Sl w' A (marksEn l.length k) F) := fun W hW => hz ▸ markLog_any base bt A cap l (by omega) k hk (by omega) F W hW
  have HK : Hid (∀ W : World, (∀ b, S b -> b < W.heap.size) -> KOwn W x S -> Calls Tryz.prog 26 #[.agg #[.slice x.rA x.rs.length x.rc, .slice x.mA x.ms.length x.mc, .slice x.gA x.gs.length x.gc, .int .i64 x.time, .slice x.dA x.ds.length x.dc, .slice x.lA x.ls.length x.lc], .int .i64 z] W fun e w' => e = .returned (.int .i64 (z + (kct x : Int))) /\ Offp S W w' /\ KOwn w' (mK x z) S) := fun W h1 h2 => markKeep_any x hf S z z1 z2 W h1 h2
  rw [← hz]
  have n0 : Below w.heap.size w (w.alloc (.cells #[.int .i64 te, .int .i64 vo, .int .i64 base, .int .i64 bt, .slice A l.length cap, .slice x.rA x.rs.length x.rc, .slice x.mA x.ms.length x.mc, .slice x.gA x.gs.length x.gc, .int .i64 x.time, .slice x.dA x.ds.length x.dc, .slice x.lA x.ls.length x.lc] 51)) := alloc0 (Below.refl _ _) _
  have Hs := hidP (hs.below n0)
  have Hh := hidP (h.below n0)
  have hw : ∀ b, b ∈ F ∨ S b -> b < w.heap.size := fun b hb => hb.elim (hFl b) (hlt b)
  have Hw := hidP hw
  have Hd := hidP hd
  obtain ⟨c, hc⟩ : ∃ c : Int, (kct x : Int) = c := ⟨_, rfl⟩
  rw [hc] at HK ⊢
  clear hs h hf hd hlt hw hFl hz hc n0
  go_enter Tryz.func11, Tryz.ntmps11
  go_wp2_with fail
  have p0 : Blk (w.alloc (.cells #[.int .i64 te, .int .i64 vo, .int .i64 base, .int .i64 bt, .slice A l.length cap, .slice x.rA x.rs.length x.rc, .slice x.mA x.ms.length x.mc, .slice x.gA x.gs.length x.gc, .int .i64 x.time, .slice x.dA x.ds.length x.dc, .slice x.lA x.ls.length x.lc] 51)) w.heap.size 51 #[.int .i64 te, .int .i64 vo, .int .i64 base, .int .i64 bt, .slice A l.length cap, .slice x.rA x.rs.length x.rc, .slice x.mA x.ms.length x.mc, .slice x.gA x.gs.length x.gc, .int .i64 x.time, .slice x.dA x.ds.length x.dc, .slice x.lA x.ls.length x.lc] := Blk.new w _ _
  have o0 : Offp (fun b => b ∈ F ∨ S b) w (w.alloc (.cells #[.int .i64 te, .int .i64 vo, .int .i64 base, .int .i64 bt, .slice A l.length cap, .slice x.rA x.rs.length x.rc, .slice x.mA x.ms.length x.mc, .slice x.gA x.gs.length x.gc, .int .i64 x.time, .slice x.dA x.ds.length x.dc, .slice x.lA x.ls.length x.lc] 51)) := Offp.of_below (alloc0 (Below.refl _ _) _)
  refine (HL.out _ Hs.out).mono ?_
  rintro e w1 ⟨rfl, k1, t1⟩
  have p1 := p0.offp (Offp.of_off k1) (fun e => by have := Hw.out _ (.inl e); omega)
  have o1 := o0.trans ((Offp.of_off k1).mono (fun b hb => .inl hb))
  have s1 := Hh.out.offp (Offp.of_off k1) (fun b hb e => Hd.out b e hb)
  have T1 := hidP t1
  have S1 := hidP s1
  have O1 := hidP o1
  clear p0 o0 k1 t1 s1 o1 Hs Hh HL
  obtain ⟨u0, u1, u2, u3, u4, u5, u6, u7, u8, u9, u10⟩ := p1.row11
  have q1 := p1.lt
  go_wp2_with fail
  refine (HK.out _ (fun b hb => by have := Hw.out b (.inr hb); omega) S1.out).mono ?_
  rintro e w2 ⟨rfl, k2, t2⟩
  have o2 := hidP (O1.out.trans (k2.mono (fun b hb => .inr hb)))
  have s2 := hidP ((show Sl w2 A (marksEn l.length k) F from by
    rcases T1.out with h | ⟨b, o, e1, e2, hb, hi, ht⟩
    . exact .inl h
    . have hn : ¬ S b := Hd.out b (by rw [e2]; simp)
      exact .inr ⟨b, o, e1, e2, Nat.lt_of_lt_of_le hb k2.size, hi.offp k2 hb hn, there_offp ht k2 hb hn⟩))
  have T2 := hidP t2
  clear u0 u1 u2 u3 u4 u5 u6 u7 u8 u9 u10 q1 k2 t2
  go_wp2
  go_ret
  exact ⟨rfl, o2.out, s2.out, T2.out⟩
end Go.Proofs.YtaefjifcnoiplaaGreat.Gen

/-
  An item as a value; the item of zeros.
-/
namespace Go.Proofs.YtaefjifcnoiplaaGreat.Items
open Go.ChangeShapes Go.WideShapes Go.ChangeAt Go.RowKit Base
set_option linter.unusedVariables false
def It.v (x : It) : Value := .agg #[.int .i64 x.off, .string x.key, .string x.text, .int .i64 x.who, .int .i64 x.time]
end Go.Proofs.YtaefjifcnoiplaaGreat.Items

/-
  spec.RowOk at this seat: which rows are right. No condition but the length that every text has.
-/
namespace Go.Proofs.YtaefjifcnoiplaaGreat.Items
open Go.ChangeShapes Go.WideShapes Go.ChangeAt Go.RowKit Base
set_option linter.unusedVariables false
def partB (k t : ByteArray) (who time : Int) : Bool := textB k && textB t && inB who 0 3 && inB time 0 100000
def itemB (x : It) : Bool := partB x.key x.text x.who x.time
theorem four (p q r s : Bool) : p = false ∨ (p = true /\ q = false) ∨ (p = true /\ q = true /\ r = false) ∨ (p = true /\ q = true /\ r = true /\ s = false) ∨ (p = true /\ q = true /\ r = true /\ s = true) := by
  cases p<;>cases q<;>cases r<;>cases s<;>simp
set_option maxHeartbeats 1000000 in
theorem specItem_any (off who time : Int) (k t : ByteArray) (hk : k.size <= 9223372036854775807) (ht : t.size <= 9223372036854775807) (w : World) :
    Calls Tryz.prog 137 #[.agg #[.int .i64 off, .string k, .string t, .int .i64 who, .int .i64 time]] w fun e w' => e = .returned (.bool (partB k t who time)) /\ Below w.heap.size w w' := by
  rcases four (textB k) (textB t) (inB who 0 3) (inB time 0 100000) with h1 | ⟨h1, h2⟩ | ⟨h1, h2, h3⟩ | ⟨h1, h2, h3, h4⟩ | ⟨h1, h2, h3, h4⟩
  all_goals
    go_enter Tryz.func137, Tryz.ntmps137
    have q1 : w.heap.size < w.heap.size + 1 := Nat.lt_succ_self _
    go_wp2_with (first
      | (go_at_call 34; refine (in_any _ _ _ _).mono ?_; rintro e w' ⟨rfl, rfl⟩)
      | (go_at_call_of 135 (Value.string k); refine (specText_any k hk _).mono ?_; rintro e w1 ⟨rfl, g1⟩; obtain ⟨c1, f1⟩ := bcell g1; have s1 := g1.size; try simp at s1; have q1 : w.heap.size < w1.heap.size := by omega)
      | (go_at_call_of 135 (Value.string t); refine (specText_any t ht _).mono ?_; rintro e w1 ⟨rfl, g1⟩; obtain ⟨c1, f1⟩ := bcell g1; have s1 := g1.size; try simp at s1; have q1 : w.heap.size < w1.heap.size := by omega))
    go_ret
    refine ⟨by simp [partB, *], ?_⟩
    repeat (first | exact Below.refl _ _ | refine via0 (by assumption) ?_ | refine Below.drew ?_ | refine alloc0 ?_ _)
def chain (start nb : Int) : Option Int -> List It -> Bool
  | _, [] => true
  | p, x :: l => itemB x && inB x.off start nb && (match p with | none => true | some o => decide (o < x.off)) && chain start nb (some x.off) l
def prevO (l : List It) (n : Nat) : Option Int := match n with
  | 0 => none
  | p + 1 => (l[p]?).map (·.off)
def chainFrom (start nb : Int) (l : List It) (n : Nat) : Bool := chain start nb (prevO l n) (l.drop n)
theorem chainFrom_end {start nb : Int} {l : List It} {n : Nat} (h : l.length <= n) : chainFrom start nb l n = true := by
  unfold chainFrom; rw [List.drop_eq_nil_of_le h]; rfl
def ordB (l : List It) (n : Nat) (x : Int) : Bool := match prevO l n with
  | none => true
  | some o => decide (o < x)
theorem chainFrom_step {start nb : Int} {l : List It} {n : Nat} (h : n < l.length) :
    chainFrom start nb l n = (itemB l[n] && inB l[n].off start nb && ordB l n l[n].off && chainFrom start nb l (n + 1)) := by
  have e2 : prevO l (n + 1) = some l[n].off := by simp [prevO, List.getElem?_eq_getElem h]
  unfold chainFrom ordB
  rw [e2, List.drop_eq_getElem_cons h]
  cases prevO l n<;>rfl
theorem ordB_zero (l : List It) (x : Int) : ordB l 0 x = true := rfl
theorem ordB_succ {l : List It} {p : Nat} (h : p < l.length) (x : Int) : ordB l (p + 1) x = decide (l[p].off < x) := by
  simp [ordB, prevO, List.getElem?_eq_getElem h]
def rowB (start next : Int) (l : List It) : Bool := chainFrom start (next - 1) l 0 && inB start 0 next && decide (next <= 100000) && decide (l.length <= 80)
theorem specItem_is (v : Bool) (off who time : Int) (k t : ByteArray) (hk : k.size <= 9223372036854775807) (ht : t.size <= 9223372036854775807) (h : Hid (partB k t who time = v)) (w : World) :
    Calls Tryz.prog 137 #[.agg #[.int .i64 off, .string k, .string t, .int .i64 who, .int .i64 time]] w fun e w' => e = .returned (.bool v) /\ Below w.heap.size w w' := by
  have := specItem_any off who time k t hk ht w
  rw [h.out] at this
  exact this
theorem in_is (v : Bool) (x lo hi : Int) (h : Hid (inB x lo hi = v)) (w : World) :
    Calls Tryz.prog 34 #[.int .i64 x, .int .i64 lo, .int .i64 hi] w fun e w' => e = .returned (.bool v) /\ w' = w := by
  have := in_any x lo hi w
  rw [h.out] at this
  exact this
end Go.Proofs.YtaefjifcnoiplaaGreat.Items
