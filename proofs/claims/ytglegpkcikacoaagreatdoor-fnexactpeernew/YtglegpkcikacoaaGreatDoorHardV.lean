/-
  What a node must keep (Hard): what the laws' eq, mark and held functions of it do. No condition but the sizes of its lists.
-/
import Derived.Test.YtglegpkcikacoaaGreatDoorKeepV
set_option linter.unusedVariables false
set_option linter.unusedSimpArgs false
set_option maxRecDepth 100000
set_option maxHeartbeats 8000000
namespace Go.Proofs.YtglegpkcikacoaaGreatDoor.Gen
open ChangeShapes WideShapes ChangeAt RowKit Joins Deep Base
theorem Blk.row11 {W : World} {B : Nat} {t : TypeId} {a b c d e f g h i j k : Value} (p : Blk W B t #[a, b, c, d, e, f, g, h, i, j, k]) :
 W.cell? ⟨B, 0, none⟩ = some a /\ W.cell? ⟨B, 1, none⟩ = some b /\ W.cell? ⟨B, 2, none⟩ = some c /\ W.cell? ⟨B, 2 + 1, none⟩ = some d /\ W.cell? ⟨B, 2 + 2, none⟩ = some e /\ W.cell? ⟨B, 5, none⟩ = some f /\ W.cell? ⟨B, 5 + 1, none⟩ = some g /\ W.cell? ⟨B, 5 + 2, none⟩ = some h /\ W.cell? ⟨B, 5 + 3, none⟩ = some i /\ W.cell? ⟨B, 5 + 4, none⟩ = some j /\ W.cell? ⟨B, 5 + 5, none⟩ = some k :=
 ⟨p.cell (by rfl), p.cell (by rfl), p.cell (by rfl), p.cell (by rfl), p.cell (by rfl), p.cell (by rfl), p.cell (by rfl), p.cell (by rfl), p.cell (by rfl), p.cell (by rfl), p.cell (by rfl)⟩
theorem Qjh (x y : KC) (hf : KFit x) (hp : y.p = x.p) (w : World) (hx : KAt w x) (hy : KAt w y) :
 Calls Tryz.prog 23 #[.agg #[.slice x.rA x.rs.length x.rc, .slice x.mA x.ms.length x.mc, .slice x.gA x.gs.length x.gc, .int .i64 x.time, .slice x.dA x.ds.length x.dc, .slice x.lA x.ls.length x.lc], .agg #[.slice y.rA y.rs.length y.rc, .slice y.mA y.ms.length y.mc, .slice y.gA y.gs.length y.gc, .int .i64 y.time, .slice y.dA y.ds.length y.dc, .slice y.lA y.ls.length y.lc]] w fun e w' => e = .returned (.bool true) /\ Below w.heap.size w w' := by
 have h := Qkq x y hf hp w hx hy
 obtain ⟨l1, l2, l3, l4, l5, l6⟩ := KC.p_len hp
 rw [← l1, ← l2, ← l3, ← l4] at h
 rw [l5, l6]
 rw [← l1, ← l2, ← l3, ← l4]
 exact h
theorem Qks (te vo base bt : Int) (A A' : Option Addr) (cap cap' : Nat) (l : List En) (hl : l.length <= 9223372036854775807) (x y : KC) (hf : KFit x) (hp : y.p = x.p) (w : World) (hA : At w A l) (hA' : At w A' l) (hx : KAt w x) (hy : KAt w y) :
 Calls Tryz.prog 20 #[.agg #[.int .i64 te, .int .i64 vo, .int .i64 base, .int .i64 bt, .slice A l.length cap, .slice x.rA x.rs.length x.rc, .slice x.mA x.ms.length x.mc, .slice x.gA x.gs.length x.gc, .int .i64 x.time, .slice x.dA x.ds.length x.dc, .slice x.lA x.ls.length x.lc], .agg #[.int .i64 te, .int .i64 vo, .int .i64 base, .int .i64 bt, .slice A' l.length cap', .slice y.rA y.rs.length y.rc, .slice y.mA y.ms.length y.mc, .slice y.gA y.gs.length y.gc, .int .i64 y.time, .slice y.dA y.ds.length y.dc, .slice y.lA y.ls.length y.lc]] w fun e w' => e = .returned (.bool true) /\ Below w.heap.size w w' := by
 have E1 : Hid (∀ W : World, Below w.heap.size w W -> Calls Tryz.prog 56 #[.agg #[.int .i64 base, .int .i64 bt, .slice A l.length cap], .agg #[.int .i64 base, .int .i64 bt, .slice A' l.length cap']] W fun e w' => e = .returned (.bool true) /\ Below W.heap.size W w') := fun W g =>
  eqLog_same base bt A A' cap cap' l hl W (hA.below g) (hA'.below g)
 have E2 : Hid (∀ W : World, Below w.heap.size w W -> Calls Tryz.prog 23 #[.agg #[.slice x.rA x.rs.length x.rc, .slice x.mA x.ms.length x.mc, .slice x.gA x.gs.length x.gc, .int .i64 x.time, .slice x.dA x.ds.length x.dc, .slice x.lA x.ls.length x.lc], .agg #[.slice y.rA y.rs.length y.rc, .slice y.mA y.ms.length y.mc, .slice y.gA y.gs.length y.gc, .int .i64 y.time, .slice y.dA y.ds.length y.dc, .slice y.lA y.ls.length y.lc]] W fun e w' => e = .returned (.bool true) /\ Below W.heap.size W w') := fun W g =>
  Qjh x y hf hp W (hx.below g) (hy.below g)
 clear hA hA' hx hy hf hp
 go_enter Tryz.func20, Tryz.ntmps20
 go_wp2_with fail
 have p0 : Blk ((w.alloc (.cells #[.int .i64 te, .int .i64 vo, .int .i64 base, .int .i64 bt, .slice A l.length cap, .slice x.rA x.rs.length x.rc, .slice x.mA x.ms.length x.mc, .slice x.gA x.gs.length x.gc, .int .i64 x.time, .slice x.dA x.ds.length x.dc, .slice x.lA x.ls.length x.lc] 35)).alloc (.cells #[.int .i64 te, .int .i64 vo, .int .i64 base, .int .i64 bt, .slice A' l.length cap', .slice y.rA y.rs.length y.rc, .slice y.mA y.ms.length y.mc, .slice y.gA y.gs.length y.gc, .int .i64 y.time, .slice y.dA y.ds.length y.dc, .slice y.lA y.ls.length y.lc] 35)) w.heap.size 35 #[.int .i64 te, .int .i64 vo, .int .i64 base, .int .i64 bt, .slice A l.length cap, .slice x.rA x.rs.length x.rc, .slice x.mA x.ms.length x.mc, .slice x.gA x.gs.length x.gc, .int .i64 x.time, .slice x.dA x.ds.length x.dc, .slice x.lA x.ls.length x.lc] := (Blk.new w _ _).alloc _
 have r0 : Blk ((w.alloc (.cells #[.int .i64 te, .int .i64 vo, .int .i64 base, .int .i64 bt, .slice A l.length cap, .slice x.rA x.rs.length x.rc, .slice x.mA x.ms.length x.mc, .slice x.gA x.gs.length x.gc, .int .i64 x.time, .slice x.dA x.ds.length x.dc, .slice x.lA x.ls.length x.lc] 35)).alloc (.cells #[.int .i64 te, .int .i64 vo, .int .i64 base, .int .i64 bt, .slice A' l.length cap', .slice y.rA y.rs.length y.rc, .slice y.mA y.ms.length y.mc, .slice y.gA y.gs.length y.gc, .int .i64 y.time, .slice y.dA y.ds.length y.dc, .slice y.lA y.ls.length y.lc] 35)) (w.heap.size + 1) 35 #[.int .i64 te, .int .i64 vo, .int .i64 base, .int .i64 bt, .slice A' l.length cap', .slice y.rA y.rs.length y.rc, .slice y.mA y.ms.length y.mc, .slice y.gA y.gs.length y.gc, .int .i64 y.time, .slice y.dA y.ds.length y.dc, .slice y.lA y.ls.length y.lc] := by have := Blk.new (w.alloc (.cells #[.int .i64 te, .int .i64 vo, .int .i64 base, .int .i64 bt, .slice A l.length cap, .slice x.rA x.rs.length x.rc, .slice x.mA x.ms.length x.mc, .slice x.gA x.gs.length x.gc, .int .i64 x.time, .slice x.dA x.ds.length x.dc, .slice x.lA x.ls.length x.lc] 35)) 35 #[.int .i64 te, .int .i64 vo, .int .i64 base, .int .i64 bt, .slice A' l.length cap', .slice y.rA y.rs.length y.rc, .slice y.mA y.ms.length y.mc, .slice y.gA y.gs.length y.gc, .int .i64 y.time, .slice y.dA y.ds.length y.dc, .slice y.lA y.ls.length y.lc]; simpa using this
 have B0 : Below w.heap.size w ((w.alloc (.cells #[.int .i64 te, .int .i64 vo, .int .i64 base, .int .i64 bt, .slice A l.length cap, .slice x.rA x.rs.length x.rc, .slice x.mA x.ms.length x.mc, .slice x.gA x.gs.length x.gc, .int .i64 x.time, .slice x.dA x.ds.length x.dc, .slice x.lA x.ls.length x.lc] 35)).alloc (.cells #[.int .i64 te, .int .i64 vo, .int .i64 base, .int .i64 bt, .slice A' l.length cap', .slice y.rA y.rs.length y.rc, .slice y.mA y.ms.length y.mc, .slice y.gA y.gs.length y.gc, .int .i64 y.time, .slice y.dA y.ds.length y.dc, .slice y.lA y.ls.length y.lc] 35)) := by repeat (first | exact Below.refl _ _ | assumption | refine via0 (by assumption) ?_ | refine Below.drew ?_ | refine Qaa ?_ _)
 refine (E1.out _ B0).mono ?_
 rintro e w1 ⟨rfl, g1⟩
 have p1 := p0.below g1 p0.lt
 have r1 := r0.below g1 r0.lt
 have B1 : Below w.heap.size w w1 := via0 g1 B0
 obtain ⟨u0, u1, u2, u3, u4, u5, u6, u7, u8, u9, u10⟩ := p1.row11
 obtain ⟨v0, v1, v2, v3, v4, v5, v6, v7, v8, v9, v10⟩ := r1.row11
 have q1 := p1.lt
 have t1 := r1.lt
 clear p0 r0 B0 g1
 go_wp2_with fail
 refine (E2.out _ B1).mono ?_
 rintro e w2 ⟨rfl, g2⟩
 have B2 : Below w.heap.size w w2 := via0 g2 B1
 go_wp2
 go_ret
 exact ⟨rfl, B2⟩
theorem Qiw (te vo base bt : Int) (A : Option Addr) (cap : Nat) (l : List En) (hl : l.length <= 1048576) (x : KC) (hf : KFit x) (F : List Nat) (S : Nat -> Prop) (hd : ∀ b ∈ F, ¬ S b) (k : Int) (hk : 1 <= k) (hk' : k <= 500000) (w : World) (hlt : ∀ b, S b -> b < w.heap.size) (hs : Sl w A l F) (h : KOwn w x S) :
 Calls Tryz.prog 26 #[.agg #[.int .i64 te, .int .i64 vo, .int .i64 base, .int .i64 bt, .slice A l.length cap, .slice x.rA x.rs.length x.rc, .slice x.mA x.ms.length x.mc, .slice x.gA x.gs.length x.gc, .int .i64 x.time, .slice x.dA x.ds.length x.dc, .slice x.lA x.ls.length x.lc], .int .i64 k] w fun e w' => e = .returned (.int .i64 (k + (l.length : Int) * 9 + (kct x : Int))) /\ Offp (fun b => b ∈ F ∨ S b) w w' /\ Sl w' A (Qal l.length k) F /\ KOwn w' (mK x (k + (l.length : Int) * 9)) S := by
 have hFl := hs.lt
 obtain ⟨z, hz⟩ : ∃ z : Int, z = k + (l.length : Int) * 9 := ⟨_, rfl⟩
 have z1 : 1 <= z := by omega
 have z2 : z <= 10000000 := by omega
 have HL : Hid (∀ W : World, Sl W A l F -> Calls Tryz.prog 63 #[.agg #[.int .i64 base, .int .i64 bt, .slice A l.length cap], .int .i64 k] W fun e w' => e = .returned (.int .i64 z) /\ Off F W w' /\ Sl w' A (Qal l.length k) F) := fun W hW => hz ▸ Qkb base bt A cap l (by omega) k hk (by omega) F W hW
 have HK : Hid (∀ W : World, (∀ b, S b -> b < W.heap.size) -> KOwn W x S -> Calls Tryz.prog 29 #[.agg #[.slice x.rA x.rs.length x.rc, .slice x.mA x.ms.length x.mc, .slice x.gA x.gs.length x.gc, .int .i64 x.time, .slice x.dA x.ds.length x.dc, .slice x.lA x.ls.length x.lc], .int .i64 z] W fun e w' => e = .returned (.int .i64 (z + (kct x : Int))) /\ Offp S W w' /\ KOwn w' (mK x z) S) := fun W h1 h2 => Qeh x hf S z z1 z2 W h1 h2
 rw [← hz]
 have n0 : Below w.heap.size w (w.alloc (.cells #[.int .i64 te, .int .i64 vo, .int .i64 base, .int .i64 bt, .slice A l.length cap, .slice x.rA x.rs.length x.rc, .slice x.mA x.ms.length x.mc, .slice x.gA x.gs.length x.gc, .int .i64 x.time, .slice x.dA x.ds.length x.dc, .slice x.lA x.ls.length x.lc] 35)) := Qaa (Below.refl _ _) _
 have Hs := hidP (hs.below n0)
 have Hh := hidP (h.below n0)
 have hw : ∀ b, b ∈ F ∨ S b -> b < w.heap.size := fun b hb => hb.elim (hFl b) (hlt b)
 have Hw := hidP hw
 have Hd := hidP hd
 obtain ⟨c, hc⟩ : ∃ c : Int, (kct x : Int) = c := ⟨_, rfl⟩
 rw [hc] at HK ⊢
 clear hs h hf hd hlt hw hFl hz hc n0
 go_enter Tryz.func26, Tryz.ntmps26
 go_wp2_with fail
 have p0 : Blk (w.alloc (.cells #[.int .i64 te, .int .i64 vo, .int .i64 base, .int .i64 bt, .slice A l.length cap, .slice x.rA x.rs.length x.rc, .slice x.mA x.ms.length x.mc, .slice x.gA x.gs.length x.gc, .int .i64 x.time, .slice x.dA x.ds.length x.dc, .slice x.lA x.ls.length x.lc] 35)) w.heap.size 35 #[.int .i64 te, .int .i64 vo, .int .i64 base, .int .i64 bt, .slice A l.length cap, .slice x.rA x.rs.length x.rc, .slice x.mA x.ms.length x.mc, .slice x.gA x.gs.length x.gc, .int .i64 x.time, .slice x.dA x.ds.length x.dc, .slice x.lA x.ls.length x.lc] := Blk.new w _ _
 have o0 : Offp (fun b => b ∈ F ∨ S b) w (w.alloc (.cells #[.int .i64 te, .int .i64 vo, .int .i64 base, .int .i64 bt, .slice A l.length cap, .slice x.rA x.rs.length x.rc, .slice x.mA x.ms.length x.mc, .slice x.gA x.gs.length x.gc, .int .i64 x.time, .slice x.dA x.ds.length x.dc, .slice x.lA x.ls.length x.lc] 35)) := Offp.of_below (Qaa (Below.refl _ _) _)
 refine (HL.out _ Hs.out).mono ?_
 rintro e w1 ⟨rfl, k1, t1⟩
 have p1 := p0.offp (Offp.of_off k1) (fun e => by have := Hw.out _ (.inl e); omega)
 have o1 := o0.trans ((Offp.of_off k1).mono (fun b hb => .inl hb))
 have s1 := Hh.out.offp (Offp.of_off k1) (fun b hb e => Hd.out b e hb)
 have T1 := hidP t1
 have S1 := hidP s1
 have O1 := hidP o1
 clear p0 o0 k1 t1 s1 o1 Hs Hh HL
 obtain ⟨u0, u1, u2, u3, u4, u5, u6, u7, u8, u9, u10⟩ := p1.row11
 have q1 := p1.lt
 go_wp2_with fail
 refine (HK.out _ (fun b hb => by have := Hw.out b (.inr hb); omega) S1.out).mono ?_
 rintro e w2 ⟨rfl, k2, t2⟩
 have o2 := hidP (O1.out.trans (k2.mono (fun b hb => .inr hb)))
 have s2 := hidP ((show Sl w2 A (Qal l.length k) F from by
  rcases T1.out with h | ⟨b, o, e1, e2, hb, hi, ht⟩
  . exact .inl h
  . have hn : ¬ S b := Hd.out b (by rw [e2]; simp)
    exact .inr ⟨b, o, e1, e2, Nat.lt_of_lt_of_le hb k2.size, hi.offp k2 hb hn, Qcq ht k2 hb hn⟩))
 have T2 := hidP t2
 clear u0 u1 u2 u3 u4 u5 u6 u7 u8 u9 u10 q1 k2 t2
 go_wp2
 go_ret
 exact ⟨rfl, o2.out, s2.out, T2.out⟩
theorem Qi8 (te vo base bt : Int) (A : Option Addr) (cap : Nat) (l : List En) (hl : l.length <= 1048576) (x : KC) (hf : KFit x) (F : List Nat) (k : Int) (hk : 1 <= k) (hk' : k <= 500000) (w : World) (hs : Sl w A (Qal l.length k) F) (h : KAt w (mK x (k + (l.length : Int) * 9))) :
 Calls Tryz.prog 32 #[.agg #[.int .i64 te, .int .i64 vo, .int .i64 base, .int .i64 bt, .slice A l.length cap, .slice x.rA x.rs.length x.rc, .slice x.mA x.ms.length x.mc, .slice x.gA x.gs.length x.gc, .int .i64 x.time, .slice x.dA x.ds.length x.dc, .slice x.lA x.ls.length x.lc], .int .i64 k] w fun e w' => e = .returned (.int .i64 (k + (l.length : Int) * 9 + (kct x : Int))) /\ Below w.heap.size w w' := by
 obtain ⟨z, hz⟩ : ∃ z : Int, z = k + (l.length : Int) * 9 := ⟨_, rfl⟩
 have z1 : 1 <= z := by omega
 have z2 : z <= 10000000 := by omega
 rw [← hz] at h ⊢
 have HL : Hid (∀ W : World, Below w.heap.size w W -> Calls Tryz.prog 71 #[.agg #[.int .i64 base, .int .i64 bt, .slice A l.length cap], .int .i64 k] W fun e w' => e = .returned (.int .i64 z) /\ Below W.heap.size W w') := fun W g => hz ▸ Qkk base bt A cap l.length (by omega) k hk (by omega) F W (hs.below g)
 have HK : Hid (∀ W : World, Below w.heap.size w W -> Calls Tryz.prog 35 #[.agg #[.slice x.rA x.rs.length x.rc, .slice x.mA x.ms.length x.mc, .slice x.gA x.gs.length x.gc, .int .i64 x.time, .slice x.dA x.ds.length x.dc, .slice x.lA x.ls.length x.lc], .int .i64 z] W fun e w' => e = .returned (.int .i64 (z + (kct x : Int))) /\ Below W.heap.size W w') := fun W g => Qel x hf z z1 z2 W (h.below g)
 obtain ⟨c, hc⟩ : ∃ c : Int, z + (kct x : Int) = c := ⟨_, rfl⟩
 have hc0 : ¬ c < 0 := by omega
 have hz0 : ¬ z < 0 := by omega
 rw [hc] at HK ⊢
 clear hs h hf hz hc
 go_enter Tryz.func32, Tryz.ntmps32
 go_wp2_with fail
 have p0 : Blk (w.alloc (.cells #[.int .i64 te, .int .i64 vo, .int .i64 base, .int .i64 bt, .slice A l.length cap, .slice x.rA x.rs.length x.rc, .slice x.mA x.ms.length x.mc, .slice x.gA x.gs.length x.gc, .int .i64 x.time, .slice x.dA x.ds.length x.dc, .slice x.lA x.ls.length x.lc] 35)) w.heap.size 35 #[.int .i64 te, .int .i64 vo, .int .i64 base, .int .i64 bt, .slice A l.length cap, .slice x.rA x.rs.length x.rc, .slice x.mA x.ms.length x.mc, .slice x.gA x.gs.length x.gc, .int .i64 x.time, .slice x.dA x.ds.length x.dc, .slice x.lA x.ls.length x.lc] := Blk.new w _ _
 have B0 : Below w.heap.size w (w.alloc (.cells #[.int .i64 te, .int .i64 vo, .int .i64 base, .int .i64 bt, .slice A l.length cap, .slice x.rA x.rs.length x.rc, .slice x.mA x.ms.length x.mc, .slice x.gA x.gs.length x.gc, .int .i64 x.time, .slice x.dA x.ds.length x.dc, .slice x.lA x.ls.length x.lc] 35)) := Qaa (Below.refl _ _) _
 refine (HL.out _ B0).mono ?_
 rintro e w1 ⟨rfl, g1⟩
 have p1 := p0.below g1 p0.lt
 have B1 : Below w.heap.size w w1 := via0 g1 B0
 clear p0 B0 g1 HL
 obtain ⟨u0, u1, u2, u3, u4, u5, u6, u7, u8, u9, u10⟩ := p1.row11
 have q1 := p1.lt
 go_wp2_with fail
 refine (HK.out _ B1).mono ?_
 rintro e w2 ⟨rfl, g2⟩
 have B2 : Below w.heap.size w w2 := via0 g2 B1
 go_wp2
 go_ret
 exact ⟨rfl, B2⟩
theorem Qjm {α : Type} (c s : α -> Nat) (p q : Nat) : ∀ (l : List α), (∀ y ∈ l, c y <= p + q * s y) -> Qac c l <= p * l.length + q * Qac s l
 | [], _ => by simp [Qac]
 | a :: l, h => by
  have h1 := Qjm c s p q l (fun y hy => h y (by simp [hy]))
  have h2 := h a (by simp)
  simp only [Qac, List.map_cons, List.sum_cons, List.length_cons, Nat.mul_add] at h1 ⊢
  omega
def NewK (w w' : World) (e : Ending) (c : PK) : Prop := ∃ y : KC, e = .returned (.agg y.cells) /\ y.p = c /\ KOwn w' y (fun b => w.heap.size <= b /\ b < w'.heap.size) /\ Below w.heap.size w w'
structure RpC where
  kind : Int
  frm : Int
  too : Int
  term : Int
  index : Int
  iterm : Int
  commit : Int
  A : Option Addr
  cap : Nat
  l : List En
  ok : Bool
  snap : ByteArray
structure RpP where
  kind : Int
  frm : Int
  too : Int
  term : Int
  index : Int
  iterm : Int
  commit : Int
  l : List En
  ok : Bool
  snap : ByteArray
instance : Inhabited RpC := ⟨⟨0, 0, 0, 0, 0, 0, 0, none, 0, [], false, ⟨#[]⟩⟩⟩
instance : Cel RpC where
  k := 10
  cs x := [Value.int .i64 x.kind, Value.int .i64 x.frm, Value.int .i64 x.too, Value.int .i64 x.term, Value.int .i64 x.index, Value.int .i64 x.iterm, Value.int .i64 x.commit, Value.slice x.A x.l.length x.cap, Value.bool x.ok, Value.string x.snap]
  len _ := rfl
  one x u hu := by simp at hu; rcases hu with rfl | rfl | rfl | rfl | rfl | rfl | rfl | rfl | rfl | rfl<;>rfl
def RpC.p (x : RpC) : RpP := ⟨x.kind, x.frm, x.too, x.term, x.index, x.iterm, x.commit, x.l, x.ok, x.snap⟩
def EachP (w : World) (l : List RpC) : Prop := ∀ x ∈ l, At w x.A x.l
theorem EachP.below {w w' : World} {l : List RpC} (h : EachP w l) (hw : Below w.heap.size w w') : EachP w' l := fun x hx => (h x hx).below hw
def rpcP (w : World) (x : RpC) (S : Nat -> Prop) : Prop := Sub w x.A x.l S
theorem Qaq : Firm rpcP := fun w w' x S T h k hd => Sub.offp h k hd
theorem rpcP_each {S : Nat -> Prop} {w : World} {a : Option Addr} {l : List RpC} (h : Own rpcP w a l S) : EachP w l := h.each (fun x S hx => Sub.at hx)
theorem In.getRpC {w : World} {b o : Nat} {l : List RpC} (h : In w b o l) (i : Nat) (hi : i < l.length) :
 w.cell? ⟨b, o + i * 10, none⟩ = some (Value.int .i64 l[i].kind) /\ w.cell? ⟨b, o + i * 10 + 1, none⟩ = some (Value.int .i64 l[i].frm) /\ w.cell? ⟨b, o + i * 10 + 2, none⟩ = some (Value.int .i64 l[i].too) /\ w.cell? ⟨b, o + i * 10 + 3, none⟩ = some (Value.int .i64 l[i].term) /\ w.cell? ⟨b, o + i * 10 + 4, none⟩ = some (Value.int .i64 l[i].index) /\ w.cell? ⟨b, o + i * 10 + 5, none⟩ = some (Value.int .i64 l[i].iterm) /\ w.cell? ⟨b, o + i * 10 + 6, none⟩ = some (Value.int .i64 l[i].commit) /\ w.cell? ⟨b, o + i * 10 + 7, none⟩ = some (Value.slice l[i].A l[i].l.length l[i].cap) /\ w.cell? ⟨b, o + i * 10 + 8, none⟩ = some (Value.bool l[i].ok) /\ w.cell? ⟨b, o + i * 10 + 9, none⟩ = some (Value.string l[i].snap) :=
 ⟨h.cell i hi (f := 0) rfl, h.cell i hi (f := 1) rfl, h.cell i hi (f := 2) rfl, h.cell i hi (f := 3) rfl, h.cell i hi (f := 4) rfl, h.cell i hi (f := 5) rfl, h.cell i hi (f := 6) rfl, h.cell i hi (f := 7) rfl, h.cell i hi (f := 8) rfl, h.cell i hi (f := 9) rfl⟩
theorem Blk.row10 {W : World} {B : Nat} {t : TypeId} {a b c d e f g h i j : Value} (p : Blk W B t #[a, b, c, d, e, f, g, h, i, j]) : W.cell? ⟨B, 0, none⟩ = some a /\ W.cell? ⟨B, 1, none⟩ = some b /\ W.cell? ⟨B, 2, none⟩ = some c /\ W.cell? ⟨B, 3, none⟩ = some d /\ W.cell? ⟨B, 4, none⟩ = some e /\ W.cell? ⟨B, 5, none⟩ = some f /\ W.cell? ⟨B, 6, none⟩ = some g /\ W.cell? ⟨B, 7, none⟩ = some h /\ W.cell? ⟨B, 8, none⟩ = some i /\ W.cell? ⟨B, 9, none⟩ = some j :=
 ⟨p.cell (by rfl), p.cell (by rfl), p.cell (by rfl), p.cell (by rfl), p.cell (by rfl), p.cell (by rfl), p.cell (by rfl), p.cell (by rfl), p.cell (by rfl), p.cell (by rfl)⟩
theorem eqRpc_same (kind frm too term index iterm commit : Int) (ok : Bool) (snap : ByteArray) (A A' : Option Addr) (cap cap' : Nat) (l : List En) (hl : l.length <= 9223372036854775807) (w : World) (hA : At w A l) (hA' : At w A' l) :
 Calls Tryz.prog 62 #[.agg #[.int .i64 kind, .int .i64 frm, .int .i64 too, .int .i64 term, .int .i64 index, .int .i64 iterm, .int .i64 commit, .slice A l.length cap, .bool ok, .string snap], .agg #[.int .i64 kind, .int .i64 frm, .int .i64 too, .int .i64 term, .int .i64 index, .int .i64 iterm, .int .i64 commit, .slice A' l.length cap', .bool ok, .string snap]] w fun e w' => e = .returned (.bool true) /\ Below w.heap.size w w' := by
 have HA : Hid (∀ W : World, Below w.heap.size w W -> At W A l) := fun W hW => hA.below hW
 have HA' : Hid (∀ W : World, Below w.heap.size w W -> At W A' l) := fun W hW => hA'.below hW
 clear hA hA'
 have p0 : Blk ((w.alloc (.cells #[.int .i64 kind, .int .i64 frm, .int .i64 too, .int .i64 term, .int .i64 index, .int .i64 iterm, .int .i64 commit, .slice A l.length cap, .bool ok, .string snap] 82)).alloc (.cells #[.int .i64 kind, .int .i64 frm, .int .i64 too, .int .i64 term, .int .i64 index, .int .i64 iterm, .int .i64 commit, .slice A' l.length cap', .bool ok, .string snap] 82)) w.heap.size 82 #[.int .i64 kind, .int .i64 frm, .int .i64 too, .int .i64 term, .int .i64 index, .int .i64 iterm, .int .i64 commit, .slice A l.length cap, .bool ok, .string snap] := (Blk.new w _ _).alloc _
 have r0 : Blk ((w.alloc (.cells #[.int .i64 kind, .int .i64 frm, .int .i64 too, .int .i64 term, .int .i64 index, .int .i64 iterm, .int .i64 commit, .slice A l.length cap, .bool ok, .string snap] 82)).alloc (.cells #[.int .i64 kind, .int .i64 frm, .int .i64 too, .int .i64 term, .int .i64 index, .int .i64 iterm, .int .i64 commit, .slice A' l.length cap', .bool ok, .string snap] 82)) (w.heap.size + 1) 82 #[.int .i64 kind, .int .i64 frm, .int .i64 too, .int .i64 term, .int .i64 index, .int .i64 iterm, .int .i64 commit, .slice A' l.length cap', .bool ok, .string snap] := by
  have := Blk.new (w.alloc (.cells #[.int .i64 kind, .int .i64 frm, .int .i64 too, .int .i64 term, .int .i64 index, .int .i64 iterm, .int .i64 commit, .slice A l.length cap, .bool ok, .string snap] 82)) 82 #[.int .i64 kind, .int .i64 frm, .int .i64 too, .int .i64 term, .int .i64 index, .int .i64 iterm, .int .i64 commit, .slice A' l.length cap', .bool ok, .string snap]
  rwa [World.size_alloc] at this
 cases ok
 all_goals
  go_enter Tryz.func62, Tryz.ntmps62
  go_wp2_with fail
  refine (Qd4 A A' cap cap' l hl _ (HA.out _ (by repeat (first | exact Below.refl _ _ | assumption | refine via0 (by assumption) ?_ | refine Below.drew ?_ | refine Qaa ?_ _))) (HA'.out _ (by repeat (first | exact Below.refl _ _ | assumption | refine via0 (by assumption) ?_ | refine Below.drew ?_ | refine Qaa ?_ _)))).mono ?_
  rintro e w1 ⟨rfl, g1⟩
  have B1 : Below w.heap.size w w1 := by repeat (first | exact Below.refl _ _ | assumption | refine via0 (by assumption) ?_ | refine Below.drew ?_ | refine Qaa ?_ _)
  have p1 := p0.below g1 p0.lt
  have r1 := r0.below g1 r0.lt
  obtain ⟨d0, d1, d2, d3, d4, d5, d6, d7, d8, d9⟩ := p1.row10
  obtain ⟨e0, e1, e2, e3, e4, e5, e6, e7, e8, e9⟩ := r1.row10
  have q1 := p1.lt
  have q2 := r1.lt
  clear g1
  go_wp2
  go_ret
  exact ⟨rfl, B1⟩
theorem Qkn (A A' : Option Addr) (cap cap' : Nat) (l l' : List RpC) (hl : l.length <= 9223372036854775807) (hr : ∀ x ∈ l, x.l.length <= 9223372036854775807) (hsame : l'.map RpC.p = l.map RpC.p) (w : World) (hA : At w A l) (hE : EachP w l) (hA' : At w A' l') (hE' : EachP w l') :
 Calls Tryz.prog 25 #[.slice A l.length cap, .slice A' l.length cap'] w fun e w' => e = .returned (.bool true) /\ Below w.heap.size w w' := by
 have HA := hidP hA
 have HE := hidP hE
 have HA' := hidP hA'
 have HE' := hidP hE'
 have Hr := hidP hr
 have HS := hidP hsame
 have HLL : Hid (l'.length = l.length) := by have := congrArg List.length hsame; show _ = _; simpa using this
 clear hA hE hA' hE' hr hsame
 go_enter Tryz.func25, Tryz.ntmps25
 go_wp2
 go_loopw [5] (fun i w' => ∃ (n : Nat), i = .int .i64 (n : Int) /\ n <= l.length /\ Below w.heap.size w w') (fun i _ => l.length - (intOf i).toNat)
 case atStart => exact ⟨0, rfl, by omega, Below.refl _ _⟩
 case round =>
  obtain ⟨n, rfl, hn, hbl⟩ := hrel
  by_cases hlt : n < l.length
  . have hll := HLL.out
    obtain ⟨b, o, rfl, hbs, hin⟩ : ∃ b o, A = some ⟨b, o, none⟩ /\ b < w.heap.size /\ In w b o l := by
     rcases HA.out with h | h
     . subst h; simp at hlt
     . exact h
    obtain ⟨b', o', rfl, hbs', hin'⟩ : ∃ b o, A' = some ⟨b, o, none⟩ /\ b < w.heap.size /\ In w b o l' := by
     rcases HA'.out with h | h
     . subst h; simp at hll; omega
     . exact h
    have hp : (l'[n]'(by omega)).p = l[n].p := by
     have h1 : (l'.map RpC.p)[n]'(by simp; omega) = (l.map RpC.p)[n]'(by simpa using hlt) := by simp only [HS.out]
     simpa using h1
    obtain ⟨c0, c1, c2, c3, c4, c5, c6, c7, c8, c9⟩ := (hin.below hbs hbl).getRpC n hlt
    obtain ⟨d0, d1, d2, d3, d4, d5, d6, d7, d8, d9⟩ := (hin'.below hbs' hbl).getRpC n (by omega)
    have hat := HE.out _ (List.getElem_mem hlt)
    have hat' := HE'.out _ (List.getElem_mem (show n < l'.length by omega))
    have hms := Hr.out _ (List.getElem_mem hlt)
    generalize l'[n]'(by omega) = y at hp d0 d1 d2 d3 d4 d5 d6 d7 d8 d9 hat'
    generalize l[n] = x at hp c0 c1 c2 c3 c4 c5 c6 c7 c8 c9 hat hms
    obtain ⟨y0, y1, y2, y3, y4, y5, y6, yA, yc, yi, yo, ys⟩ := y
    obtain ⟨x0, x1, x2, x3, x4, x5, x6, xA, xc, xi, xo, xs⟩ := x
    simp only [RpC.p, RpP.mk.injEq] at hp
    obtain ⟨rfl, rfl, rfl, rfl, rfl, rfl, rfl, rfl, rfl, rfl⟩ := hp
    simp only at c0 c1 c2 c3 c4 c5 c6 c7 c8 c9 d0 d1 d2 d3 d4 d5 d6 d7 d8 d9 hat hat' hms
    have Hat := hidP (hat.below hbl)
    have Hat' := hidP (hat'.below hbl)
    clear hat hat' hll
    have hb1 : b < wr.heap.size := Nat.lt_of_lt_of_le hbs hbl.size
    have hb2 : b' < wr.heap.size := Nat.lt_of_lt_of_le hbs' hbl.size
    have hi0 : (0 : Int) <= (n : Int) := by omega
    have hi1 : (n : Int) < (l.length : Int) := by omega
    go_wp2
    go_region_held3 (fun w' => w'.cell? ⟨b, o + n * 10, none⟩ = some (.int .i64 y0) /\ w'.cell? ⟨b, o + n * 10 + 1, none⟩ = some (.int .i64 y1) /\ w'.cell? ⟨b, o + n * 10 + 2, none⟩ = some (.int .i64 y2) /\ w'.cell? ⟨b, o + n * 10 + 3, none⟩ = some (.int .i64 y3) /\ w'.cell? ⟨b, o + n * 10 + 4, none⟩ = some (.int .i64 y4) /\ w'.cell? ⟨b, o + n * 10 + 5, none⟩ = some (.int .i64 y5) /\ w'.cell? ⟨b, o + n * 10 + 6, none⟩ = some (.int .i64 y6) /\ w'.cell? ⟨b, o + n * 10 + 7, none⟩ = some (.slice xA yi.length xc) /\ w'.cell? ⟨b, o + n * 10 + 8, none⟩ = some (.bool yo) /\ w'.cell? ⟨b, o + n * 10 + 9, none⟩ = some (.string ys) /\ w'.cell? ⟨b', o' + n * 10, none⟩ = some (.int .i64 y0) /\ w'.cell? ⟨b', o' + n * 10 + 1, none⟩ = some (.int .i64 y1) /\ w'.cell? ⟨b', o' + n * 10 + 2, none⟩ = some (.int .i64 y2) /\ w'.cell? ⟨b', o' + n * 10 + 3, none⟩ = some (.int .i64 y3) /\ w'.cell? ⟨b', o' + n * 10 + 4, none⟩ = some (.int .i64 y4) /\ w'.cell? ⟨b', o' + n * 10 + 5, none⟩ = some (.int .i64 y5) /\ w'.cell? ⟨b', o' + n * 10 + 6, none⟩ = some (.int .i64 y6) /\ w'.cell? ⟨b', o' + n * 10 + 7, none⟩ = some (.slice yA yi.length yc) /\ w'.cell? ⟨b', o' + n * 10 + 8, none⟩ = some (.bool yo) /\ w'.cell? ⟨b', o' + n * 10 + 9, none⟩ = some (.string ys) /\ wr.heap.size <= w'.heap.size)
     (first | (go_split_ands; refine ⟨?_, ?_, ?_, ?_, ?_, ?_, ?_, ?_, ?_, ?_, ?_, ?_, ?_, ?_, ?_, ?_, ?_, ?_, ?_, ?_, ?_⟩<;>first | assumption | exact (k1 _ _ hb1).trans (by assumption) | exact (k1 _ _ hb2).trans (by assumption) | exact s1 | (simp; done)) | go_keep)
     (first
      | (go_at_call 62; refine (eqRpc_same y0 y1 y2 y3 y4 y5 y6 yo ys _ _ _ _ yi hms _ (Hat.out.below (Below.drew (Below.refl _ _))) (Hat'.out.below (Below.drew (Below.refl _ _)))).mono ?_; rintro e w1 ⟨rfl, g1⟩; obtain ⟨k1, m1⟩ := Qaj g1; have s1 := g1.size))
    all_goals
     go_wp2
     exact ⟨⟨n + 1, by go_num, by omega, via0 g1 hbl.drew⟩, by simp [intOf]; omega⟩
  . go_wp2
    go_ret
    exact ⟨rfl, hbl⟩
end Go.Proofs.YtglegpkcikacoaaGreatDoor.Gen
