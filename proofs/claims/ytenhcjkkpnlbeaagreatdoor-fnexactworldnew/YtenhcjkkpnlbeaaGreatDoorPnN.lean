/-
  Of no bytes there are no notes: Notes, HardOf, wholeNotes. No condition.
-/
import Derived.Test.YtenhcjkkpnlbeaaGreatDoorNAt
import Derived.Test.YtenhcjkkpnlbeaaGreatDoorErrAs
import Derived.Test.YtenhcjkkpnlbeaaGreatDoorImplKNew
set_option linter.unusedVariables false
set_option linter.unusedSimpArgs false
set_option maxRecDepth 100000
set_option maxHeartbeats 8000000
namespace Go.Proofs.YtenhcjkkpnlbeaaGreatDoor.Gen
open ChangeShapes WideShapes ChangeAt RowKit Joins Deep Base
theorem ofN_nil : ofN [] 0 = none := by
 have h : Qf3 [] 0 = none := by
  unfold Qf3 getT
  rw [Qlm (by simp)]
 simp [ofN, h]
def Glo (w : World) : Prop := w.cell? ⟨0, 0, none⟩ = some (.iface 275 (.agg #[.pointer (some ⟨1, 195, none⟩)]))
theorem Glo.lt {w : World} (h : Glo w) : 0 < w.heap.size := by
 rcases Nat.eq_zero_or_pos w.heap.size with h0 | h1
 . unfold Glo at h; simp [World.cell?, h0] at h
 . exact h1
theorem Glo.below {w W : World} (h : Glo w) (g : Below w.heap.size w W) : Glo W := (World.cell?_of_block (a := ⟨0, 0, none⟩) (g.block 0 h.lt)).trans h
theorem Qf9 (w : World) (hgl : Glo w) :
 Calls Tryz.prog 114 #[.slice none 0 0] w fun e w' => e = .returned (.tuple #[.slice none 0 0, .int .i64 0]) /\ Below w.heap.size w w' := by
 have h0 := hgl.lt
 have HB0 : Hid (Below w.heap.size w (w.alloc (.cells #[.int .i64 0] 193))) := hidP (Qab (Below.refl _ w) _)
 have HP0 := hidP (Blk.new w 193 #[.int .i64 0])
 have HG := hidP hgl
 clear hgl h0
 go_enter Tryz.func114, Tryz.ntmps114
 go_wp2
 generalize w.alloc (.cells #[.int .i64 0] 193) = W0 at *
 go_loopw [4, 6] (fun v i W => i = .int .i64 0 /\ v = .slice none 0 0 /\ W = W0) (fun _ _ _ => 0)
 case atStart => exact ⟨rfl, rfl, rfl⟩
 case round =>
  obtain ⟨rfl, rfl, rfl⟩ := hrel
  go_wp2_with fail
  refine (noteAt_any none 0 [] (by simp) (by simp) (by omega) 0 ⟨by omega, by omega⟩ _ (.inl rfl)).mono ?_
  rintro e w1 ⟨g1, h1⟩
  rcases h1 with ⟨x, d, aa, cc, hg, hown, rfl⟩ | ⟨hg, rfl⟩
  . rw [ofN_nil] at hg; cases hg
  . have K1 := Qab g1 (.cells Qal 154)
    have pb := HP0.out.below K1 HP0.out.lt
    have hc0 := pb.row1
    have hf0 := pb.thaw 0
    have KW := via0 K1 HB0.out
    have hgc : Glo _ := HG.out.below KW
    have HK1 := hidP KW
    have Hpb := hidP pb
    clear g1 K1 pb hg KW
    have HAs := hidP (as_hit 0 w.heap.size (.int .i64 0) _ hgc hc0 hf0)
    clear hc0 hf0 hgc
    go_wp2_with fail
    refine HAs.out.mono ?_
    rintro e w3 ⟨rfl, rfl⟩
    clear HAs
    generalize w1.alloc (.cells Qal 154) = V at *
    have gs := Qab (Qab (Qab (Qab (Below.refl _ V) (.cells #[.pointer (some ⟨w.heap.size, 0, none⟩)] 199)) (.cells #[.pointer (some ⟨1, 199, none⟩), .pointer (some ⟨V.heap.size, 0, none⟩), .int .u64 150] 235)) (.cells #[.pointer (some ⟨1, 199, none⟩), .pointer (some ⟨V.heap.size, 0, none⟩), .int .u64 150] 235)) (.cells #[.int .i64 0] 193)
    have p4 := (Hpb.out.below gs Hpb.out.lt)
    have k4 := via0 gs HK1.out
    clear HK1 Hpb gs
    generalize (((V.alloc (.cells #[.pointer (some ⟨w.heap.size, 0, none⟩)] 199)).alloc (.cells #[.pointer (some ⟨1, 199, none⟩), .pointer (some ⟨V.heap.size, 0, none⟩), .int .u64 150] 235)).alloc (.cells #[.pointer (some ⟨1, 199, none⟩), .pointer (some ⟨V.heap.size, 0, none⟩), .int .u64 150] 235)).alloc (.cells #[.int .i64 0] 193) = W4 at *
    have d0 : (W4.setCell ⟨w.heap.size, 0, none⟩ (.int .i64 0)).cell? ⟨w.heap.size, 0, none⟩ = some (.int .i64 0) := (p4.setAt 0 (.int .i64 0)).cell (i := 0) rfl
    have q0 := (p4.setAt 0 (.int .i64 0)).lt
    have HBz := hidP (Qa7 k4 (Nat.le_refl _) (i := 0) (.int .i64 0))
    clear p4 k4
    generalize W4.setCell ⟨w.heap.size, 0, none⟩ (.int .i64 0) = W5 at *
    go_wp2_with fail
    go_quiet (fail)
    go_wp2
    refine bodyPost_ret (v := .tuple #[.slice none 0 0, .int .i64 0]) (by simp [results, Tryz.results114, go_sem]) rfl ?_
    exact ⟨rfl, below_drewN HBz.out _⟩
theorem Qjh (ro wi le ke : Int) (w : World) (hgl : Glo w) :
 Calls Tryz.prog 77 #[.agg (Qag ro wi le ke), .slice none 0 0] w fun e w' => Qnj w w' e (setB ro wi le ke) ro := by
 obtain ⟨B, hB⟩ : ∃ B, setB ro wi le ke = B := ⟨_, rfl⟩
 obtain ⟨vo, hvo⟩ : ∃ vo, Qd7 B = vo := ⟨_, rfl⟩
 have HN : Hid (∀ W : World, Calls Tryz.prog 113 #[.agg (Qag ro wi le ke)] W fun e w' => ∃ y : KC, e = .returned (.agg (Qaj 0 vo 0 0 none 0 0 y.rA y.rs.length y.rc y.mA y.ms.length y.mc y.gA y.gs.length y.gc y.time y.dA y.ds.length y.dc y.lA y.ls.length y.lc)) /\ y.p = newK B ro /\ KOwn w' y (fun b => W.heap.size <= b /\ b < w'.heap.size) /\ Below W.heap.size W w') := fun W => by have h := Qhd ro wi le ke W; rw [hB] at h; simp only [Qnj, hvo] at h; exact h
 have HNO : Hid (∀ W : World, Glo W -> Calls Tryz.prog 114 #[.slice none 0 0] W fun e w' => e = .returned (.tuple #[.slice none 0 0, .int .i64 0]) /\ Below W.heap.size W w') := fun W h => Qf9 W h
 rw [hB]
 simp only [Qnj, hvo]
 have HG := hidP hgl
 clear hB hvo hgl
 have pr := Blk.new (w.alloc (.cells (Qag ro wi le ke) 24)) 50 Qbi
 rw [World.size_alloc] at pr
 have b0 := Qab (Qab (Below.refl _ w) (.cells (Qag ro wi le ke) 24)) (.cells Qbi 50)
 go_enter Tryz.func77, Tryz.ntmps77
 go_wp2_with fail
 refine (HN.out _).mono ?_
 rintro e w1 ⟨y, rfl, hpy, hoy, g1⟩
 replace hoy := hoy.mono (T := fun b => w.heap.size + 2 <= b /\ b < w1.heap.size) (fun b hb => ⟨by have := hb.1; simp at this; omega, hb.2⟩)
 have n1 := Qab (Below.refl w1.heap.size w1) (.cells (Qaj 0 vo 0 0 none 0 0 y.rA y.rs.length y.rc y.mA y.ms.length y.mc y.gA y.gs.length y.gc y.time y.dA y.ds.length y.dc y.lA y.ls.length y.lc) 50)
 have pr1 := (pr.below g1 pr.lt).below n1 (pr.below g1 pr.lt).lt
 have b1 := via0 n1 (via0 g1 b0)
 have ho := hoy.below n1
 have p5 := Blk.new w1 50 (Qaj 0 vo 0 0 none 0 0 y.rA y.rs.length y.rc y.mA y.ms.length y.mc y.gA y.gs.length y.gc y.time y.dA y.ds.length y.dc y.lA y.ls.length y.lc)
 have HGw := hidP (HG.out.below b1)
 have Ho := hidP ho
 have Hpr := hidP pr1
 have Hb1 := hidP b1
 have Hp5 := hidP p5
 have Hs := hidP g1.size
 clear pr b0 g1 n1 pr1 b1 ho hoy p5
 go_wp2_with fail
 generalize w1.alloc (.cells (Qaj 0 vo 0 0 none 0 0 y.rA y.rs.length y.rc y.mA y.ms.length y.mc y.gA y.gs.length y.gc y.time y.dA y.ds.length y.dc y.lA y.ls.length y.lc) 50) = W2 at *
 refine (HNO.out _ HGw.out).mono ?_
 rintro e w2 ⟨rfl, g2⟩
 have Hpr := hidP (Hpr.out.below g2 Hpr.out.lt)
 have Hb1 := hidP (via0 g2 Hb1.out)
 have Ho := hidP (Ho.out.below g2)
 have p5 := Hp5.out.below g2 Hp5.out.lt
 have Hne := hidP (show w.heap.size + 1 + 1 <= w1.heap.size by have := Hs.out; simp at this; omega)
 clear Hs HGw HG HN HNO
 have Hp5 := hidP p5
 have Hg2 := hidP g2.size
 clear g2 p5
 go_wp2_with fail
 go_loopw [19] (fun v W => v = .int .i64 0 /\ W = w2) (fun _ _ => 0)
 case atStart => exact ⟨rfl, rfl⟩
 case round =>
  obtain ⟨rfl, rfl⟩ := hrel
  obtain ⟨r0, r1, r2, r3, r4, r5, r6, r7, r8, r9, r10⟩ := Hp5.out.row11
  have l5 := Hp5.out.lt
  have f0 := Hpr.out.thaw 0; have f1 := Hpr.out.thaw 1; have f2 := Hpr.out.thaw 2; have f3 := Hpr.out.thaw 3; have f4 := Hpr.out.thaw 4; have f5 := Hpr.out.thaw 5
  have f6 := Hpr.out.thaw 6; have f7 := Hpr.out.thaw 7; have f8 := Hpr.out.thaw 8; have f9 := Hpr.out.thaw 9; have f10 := Hpr.out.thaw 10
  obtain ⟨s0, s1, s2, s3, s4, s5, s6, s7, s8, s9, s10⟩ := Hpr.out.row11
  have lr := Hpr.out.lt
  go_wp2
  refine bodyPost_ret (v := .agg (Qaj 0 vo 0 0 none 0 0 y.rA y.rs.length y.rc y.mA y.ms.length y.mc y.gA y.gs.length y.gc y.time y.dA y.ds.length y.dc y.lA y.ls.length y.lc)) (by simp [results, Tryz.results77, go_sem, s0, s1, s2, s3, s4, s5, s6, s7, s8, s9, s10]) rfl ?_
  have OO : ∀ W, Offp (fun b => b = w.heap.size + 1) wr W -> W.heap.size = wr.heap.size -> KOwn W y (fun b => w.heap.size <= b /\ b < W.heap.size) := fun W o hW => (KOwn.offp Ho.out o (fun b hb e => by have := hb.1; omega)).mono (fun b hb => ⟨by have := hb.1; omega, by rw [hW]; have := hb.2; omega⟩)
  refine ⟨y, rfl, hpy, OO _ ?_ (by simp), ?_⟩
  . exact Offp.put (Offp.put (Offp.put (Offp.put (Offp.put (Offp.put (Offp.put (Offp.put (Offp.put (Offp.put (Offp.put (Offp.refl _ wr) 0 _) 1 _) 2 _) 3 _) 4 _) 5 _) 6 _) 7 _) 8 _) 9 _) 10 _
  have hb2 := Hb1.out
  repeat (first | with_reducible exact hb2 | refine Qa7 ?_ (Nat.le_succ _) _)
theorem Qjz (w : World) (hgl : Glo w) :
 Calls Tryz.prog 80 #[.slice none 0 0] w fun e w' => ∃ (a : Option Addr) (c : Nat), e = .returned (.agg #[.slice a 0 c, .int .i64 0]) /\ Below w.heap.size w w' := by
 have HNO : Hid (∀ W : World, Glo W -> Calls Tryz.prog 114 #[.slice none 0 0] W fun e w' => e = .returned (.tuple #[.slice none 0 0, .int .i64 0]) /\ Below W.heap.size W w') := fun W h => Qf9 W h
 have HSY : Hid (∀ W : World, Calls Tryz.prog 121 #[.agg #[.slice none 0 0, .int .i64 0]] W fun e w' => ∃ (a : Option Addr) (c : Nat), e = .returned (.agg #[.slice a 0 c, .int .i64 0]) /\ Below W.heap.size W w') := fun W => (Qlj 0 none 0 [] (by simp) W (.inl rfl)).mono fun e w' ⟨v, he, hn, g⟩ => by
  obtain ⟨a, c, F, rfl, _⟩ := hn
  exact ⟨a, c, by simpa [syncS, Qfu] using he, g⟩
 have HG := hidP (hgl.below (Qab (Below.refl _ w) (.cells #[.slice none 0 0, .int .i64 0] 54)))
 have pr := Blk.new w 54 #[.slice none 0 0, .int .i64 0]
 have b0 := Qab (Below.refl _ w) (.cells #[.slice none 0 0, .int .i64 0] 54)
 clear hgl
 go_enter Tryz.func80, Tryz.ntmps80
 go_wp2_with fail
 refine (HNO.out _ HG.out).mono ?_
 rintro e w1 ⟨rfl, g1⟩
 have pr1 := hidP (pr.below g1 pr.lt)
 have b1 := hidP (via0 g1 b0)
 clear pr b0 g1 HG
 go_wp2_with fail
 refine (HSY.out _).mono ?_
 rintro e w2 ⟨a, c, rfl, g2⟩
 have p2 := pr1.out.below g2 pr1.out.lt
 have b2 := hidP (via0 g2 b1.out)
 have s0 := p2.cell (i := 0) rfl
 have s1 := p2.cell (i := 1) rfl
 have f0 := p2.thaw 0
 have f1 := p2.thaw 1
 have lt := p2.lt
 clear g2 pr1 b1 p2
 go_wp2
 refine bodyPost_ret (v := .agg #[.slice a 0 c, .int .i64 0]) (by simp [results, Tryz.results80, go_sem, s0, s1]) rfl ?_
 refine ⟨a, c, rfl, ?_⟩
 have hb2 := b2.out
 repeat (first | with_reducible exact hb2 | refine Qa7 ?_ (Nat.le_refl _) _)
end Go.Proofs.YtenhcjkkpnlbeaaGreatDoor.Gen
namespace Go.Proofs.YtenhcjkkpnlbeaaGreatDoor.Gen
open ChangeShapes WideShapes ChangeAt RowKit Joins Deep Base
theorem fmSub {α : Type} [Cel α] (a : Option Addr) (l : List α) : Fm (fun W S => Sub W a l S) := ⟨fun _ _ _ _ h k d => h.offp k d, fun _ _ _ h s => h.mono s⟩
theorem fmK (x : KC) : Fm (fun W S => KOwn W x S) := ⟨fun _ _ _ _ h k d => h.offp k d, fun _ _ _ h s => h.mono s⟩
def Tg (w W : World) (col : Nat -> Nat) (k z : Nat) : Prop := (w.heap.size + 2 <= z /\ z < W.heap.size) /\ col z = k
def updP (P : Nat -> World -> (Nat -> Prop) -> Prop) (k : Nat) (Q : World -> (Nat -> Prop) -> Prop) : Nat -> World -> (Nat -> Prop) -> Prop := fun j => if j = k then Q else P j
structure Cx (w W : World) (P : Nat -> World -> (Nat -> Prop) -> Prop) : Prop where
  fm : ∀ j, Fm (P j)
  hw : w.heap.size + 2 <= W.heap.size
  co : ∃ col, ∀ j, P j W (Tg w W col j)
section
variable {w W W' : World} {P : Nat -> World -> (Nat -> Prop) -> Prop}
theorem Cx.start (hw : w.heap.size + 2 <= W.heap.size) : Cx w W (fun _ _ _ => True) := ⟨fun _ => ⟨fun _ _ _ _ _ _ _ => trivial, fun _ _ _ _ _ => trivial⟩, hw, fun _ => 0, fun _ => trivial⟩
theorem Cx.fresh2 (C : Cx w W P) (g : Below W.heap.size W W') (cc : Nat -> Bool) (k k' : Nat) (hkk : k ≠ k') {Q Q' : World -> (Nat -> Prop) -> Prop} (hQ : Fm Q) (hQ' : Fm Q') (q : Q W' (fun z => (W.heap.size <= z /\ z < W'.heap.size) /\ cc z = true)) (q' : Q' W' (fun z => (W.heap.size <= z /\ z < W'.heap.size) /\ cc z = false)) : Cx w W' (updP (updP P k Q) k' Q') := by
 obtain ⟨fm, hw, col, co⟩ := C
 have hs := g.size
 refine ⟨fun j => ?_, by omega, fun z => if z < W.heap.size then col z else if cc z then k else k', fun j => ?_⟩
 . unfold updP; (repeat' split)<;>first | assumption | exact fm _
 . unfold updP
   split
   . rename_i e; subst e
     exact hQ'.mono _ _ _ q' (fun z hz => ⟨⟨by omega, hz.1.2⟩, by dsimp only; rw [if_neg (by omega), hz.2]; rfl⟩)
   . split
     . rename_i e; subst e
       exact hQ.mono _ _ _ q (fun z hz => ⟨⟨by omega, hz.1.2⟩, by dsimp only; rw [if_neg (by omega), hz.2]; rfl⟩)
     . exact (fm j).mono _ _ _ ((fm j).off _ _ _ (fun _ => False) (co j) (Offp.of_below g) (fun _ _ e => e)) (fun z hz => ⟨⟨hz.1.1, by have := hz.1.2; omega⟩, by dsimp only; rw [if_pos hz.1.2]; exact hz.2⟩)
theorem Cx.fresh (C : Cx w W P) (g : Below W.heap.size W W') (k : Nat) {Q : World -> (Nat -> Prop) -> Prop} (hQ : Fm Q) (q : Q W' (fun z => W.heap.size <= z /\ z < W'.heap.size)) : Cx w W' (updP P k Q) := by
 obtain ⟨fm, hw, col, co⟩ := C
 have hs := g.size
 refine ⟨fun j => ?_, by omega, fun z => if z < W.heap.size then col z else k, fun j => ?_⟩
 . unfold updP; split<;>first | assumption | exact fm _
 . unfold updP
   split
   . rename_i e; subst e
     exact hQ.mono _ _ _ q (fun z hz => ⟨⟨by omega, hz.2⟩, by dsimp only; rw [if_neg (by omega)]⟩)
   . exact (fm j).mono _ _ _ ((fm j).off _ _ _ (fun _ => False) (co j) (Offp.of_below g) (fun _ _ e => e)) (fun z hz => ⟨⟨hz.1.1, by have := hz.1.2; omega⟩, by dsimp only; rw [if_pos hz.1.2]; exact hz.2⟩)
theorem Cx.below (C : Cx w W P) (g : Below W.heap.size W W') : Cx w W' P := by
 obtain ⟨fm, hw, col, co⟩ := C
 have hs := g.size
 exact ⟨fm, by omega, col, fun j => (fm j).mono _ _ _ ((fm j).off _ _ _ (fun _ => False) (co j) (Offp.of_below g) (fun _ _ e => e)) (fun z hz => ⟨⟨hz.1.1, by have := hz.1.2; omega⟩, hz.2⟩)⟩
end
end Go.Proofs.YtenhcjkkpnlbeaaGreatDoor.Gen
