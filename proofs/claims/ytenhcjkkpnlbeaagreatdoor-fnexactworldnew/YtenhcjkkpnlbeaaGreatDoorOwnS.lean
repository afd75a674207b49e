/-
  A list of one's own lies in blocks of its own. No condition.
-/
import Derived.Test.YtenhcjkkpnlbeaaGreatDoorPeV
set_option linter.unusedVariables false
set_option linter.unusedSimpArgs false
set_option maxRecDepth 100000
set_option maxHeartbeats 8000000
namespace Go.Proofs.YtenhcjkkpnlbeaaGreatDoor.Gen
open ChangeShapes WideShapes ChangeAt RowKit Joins Deep Base
theorem Qfg {α : Type} [Cel α] {B : Nat} {W : World} {t : TypeId} {a : Option Addr} {c : Nat} {xs : List α} (h : W.ownsRow B t (Cel.k α) (.slice a xs.length c) xs.length (flat xs)) : Sub W a xs (fun b => B <= b /\ b < W.heap.size) := by
 obtain ⟨a', c', e, _, hs⟩ := Qet h
 cases e
 exact hs.imp id fun ⟨b, o, e, hB, hb, hi, ht⟩ => ⟨b, o, e, ⟨hB, hb⟩, hb, hi, ht⟩
end Go.Proofs.YtenhcjkkpnlbeaaGreatDoor.Gen
namespace Go.Proofs.YtenhcjkkpnlbeaaGreatDoor.Gen
open ChangeShapes WideShapes ChangeAt RowKit Joins Deep Base
structure GU {α : Type} [Cel α] (P : World -> α -> (Nat -> Prop) -> Prop) (t : TypeId) (b B : Nat) (W : World) (a : Option Addr) (cp : Nat) (xs : List α) : Prop where
  own : W.ownsRow B t (Cel.k α) (.slice a xs.length cp) xs.length (flat xs)
  fps : ∃ fp : Nat -> Nat -> Prop, (∀ (i : Nat) (h : i < xs.length), P W xs[i] (fp i)) /\ (∀ i j, i ≠ j -> ∀ x, fp i x -> ¬ fp j x) /\ ∀ i x, fp i x -> i < xs.length /\ B <= x /\ x < W.heap.size /\ (Value.slice a xs.length cp).ownBlock ≠ some x
  hb : b <= B
  hB : B <= W.heap.size
section
variable {α : Type} [Cel α] {P : World -> α -> (Nat -> Prop) -> Prop} {t : TypeId} {b B : Nat} {W W1 : World} {a : Option Addr} {cp : Nat} {xs : List α}
theorem GU.start (hb : b <= B) (hB : B <= W.heap.size) : GU (α := α) P t b B W none 0 [] :=
 ⟨World.ownsRow_nil _ _ _ _, ⟨fun _ _ => False, fun i h => by simp at h, fun _ _ _ _ h => h.elim, fun _ _ h => h.elim⟩, hb, hB⟩
theorem GU.offp (hP : Firm P) (h : GU P t b B W a cp xs) {T : Nat -> Prop} (k : Offp T W W1) (hT : ∀ x, T x -> x < b) : GU P t b B W1 a cp xs := by
 obtain ⟨own, ⟨fp, f1, f2, f3⟩, hb, hB⟩ := h
 exact ⟨Qdy own k (fun y hy e => by have := (own.lt y hy).1; have := hT y e; omega), ⟨fp, fun i hi => hP _ _ _ _ _ (f1 i hi) k (fun y hy e => by have := (f3 i y hy).2.1; have := hT y e; omega), f2, fun i x hx => ⟨(f3 i x hx).1, (f3 i x hx).2.1, Nat.lt_of_lt_of_le (f3 i x hx).2.2.1 k.size, (f3 i x hx).2.2.2⟩⟩, hb, Nat.le_trans hB k.size⟩
theorem GU.app (hP : Firm P) {pg : Program} {ts : TypeId} {z : Value} {bytes : Nat} (hu : pg.underlying ts = some (.slice t)) (hinfo : (pg.info? t).map (fun i => (i.zero, i.size, i.bytes)) = some (some z, Cel.k α, bytes)) (hz : z.cells.size = Cel.k α) (hk : 0 < Cel.k α) (hby : bytes <= 1000)
 (h : GU P t b B W a cp xs) {T : Nat -> Prop} (k : Offp T W W1) (hT : ∀ x, T x -> x < b) (x : α) {S : Nat -> Prop} (hy : P W1 x S) (hS : ∀ y, S y -> W.heap.size <= y /\ y < W1.heap.size) (cs : Array Value) (hcs : cs.toList = Cel.cs x) (hx : xs.length <= 2000000) :
 ∃ a2 c2 W2, (Builtin.append_ #[ts, ts] ts #[.slice a xs.length cp, .slice (some ⟨W1.heap.size, 0, none⟩) 1 1]).run pg (W1.alloc (.cells cs t)) = .ok (.slice a2 (xs.length + 1) c2) W2 /\ GU P t b B W2 a2 c2 (xs ++ [x]) /\ Offp (fun y => B <= y) (W1.alloc (.cells cs t)) W2 := by
 have h0 := h.offp hP k hT
 have hws := k.size
 have hown0 := h.own
 have hBW := h.hB
 have hfp0 := h.fps
 obtain ⟨own0, ⟨fp, f1, f2, f3'⟩, hb, hB⟩ := h0
 have f3 : ∀ i x, fp i x -> i < xs.length /\ B <= x /\ x < W1.heap.size /\ (Value.slice a xs.length cp).ownBlock ≠ some x := f3'
 have own1 := Qdi own0 (.cells cs t)
 have hX : At (W1.alloc (.cells cs t)) (some ⟨W1.heap.size, 0, none⟩) [x] := by
  refine .inr ⟨_, 0, rfl, by simp, fun j u hu => ?_⟩
  rw [Qce, ← hcs] at hu
  rw [Nat.zero_add]
  exact (Blk.new W1 t cs).cell (by simpa using hu)
 obtain ⟨v', W2, hr, hown, hgrow, hob⟩ := Qco (P := pg) hu hinfo hz hk hby B (.slice a xs.length cp) xs [x] (some ⟨W1.heap.size, 0, none⟩) 1 _ (by simp; omega) own1 hX (by simp; omega)
 simp only [List.length_cons, List.length_nil, Nat.zero_add] at hown hr
 obtain ⟨a2, c2, rfl, _⟩ := Qb2 hown
 have ko := Qdk hgrow
 have hs2 : W1.heap.size + 1 <= W2.heap.size := by have := ko.size; simpa using this
 have hS' : ∀ y, (Value.slice a xs.length cp).ownBlock = some y -> B <= y /\ y < W.heap.size := fun y hy => hown0.lt y hy
 have kb : Offp (fun _ => False) W1 (W1.alloc (.cells cs t)) := Offp.of_below (Qab (Below.refl _ _) _)
 obtain ⟨fq, q1, q2, q3⟩ := hfp0
 refine ⟨a2, c2, W2, hr, ⟨by rw [List.length_append]; exact hown, ⟨fun i => if i = xs.length then S else fq i, ?_, ?_, ?_⟩, hb, by omega⟩, ko.mono (fun y e => (hS' y e).1)⟩
 . intro i hi
   by_cases e : i = xs.length
   . subst e
     simp only [if_true]
     rw [List.getElem_append_right (Nat.le_refl _)]
     simp only [Nat.sub_self, List.getElem_cons_zero]
     exact hP _ _ _ _ _ (hP _ _ _ _ _ hy kb (fun _ _ e => e)) ko (fun y hy e => by have := (hS y hy).1; have := (hS' y e).2; omega)
   . have hi' : i < xs.length := by simp at hi; omega
     simp only [if_neg e]
     rw [List.getElem_append_left hi']
     exact hP _ _ _ _ _ (hP _ _ _ _ _ (hP _ _ _ _ _ (q1 i hi') k (fun y hy e => by have := (q3 i y hy).2.1; have := hT y e; omega)) kb (fun _ _ e => e)) ko (fun y hy e => (q3 i y hy).2.2.2 e)
 . intro i j hij y hy' hy2
   by_cases e1 : i = xs.length
   . by_cases e2 : j = xs.length
     . omega
     . simp only [if_pos e1] at hy'
       simp only [if_neg e2] at hy2
       have := (hS y hy').1
       have := (q3 j y hy2).2.2.1
       omega
   . by_cases e2 : j = xs.length
     . simp only [if_neg e1] at hy'
       simp only [if_pos e2] at hy2
       have := (hS y hy2).1
       have := (q3 i y hy').2.2.1
       omega
     . simp only [if_neg e1] at hy'
       simp only [if_neg e2] at hy2
       exact q2 i j hij y hy' hy2
 . intro i y hy'
   have hob' : ∀ y, (Value.slice a xs.length cp).ownBlock ≠ some y -> y < W1.heap.size -> (Value.slice a2 (xs ++ [x]).length c2).ownBlock ≠ some y := by
    intro y hn hlt e
    rw [List.length_append] at e
    have e2 : (Value.slice a2 (xs.length + 1) c2).ownBlock = some y := e
    rcases hob with h' | h'
    . exact hn (h' ▸ e2)
    . rw [h'] at e2
      simp only [World.size_alloc, Option.some.injEq] at e2
      omega
   by_cases e1 : i = xs.length
   . simp only [if_pos e1] at hy'
     have hh := hS y hy'
     exact ⟨by simp; omega, by have := hown0; omega, by omega, hob' y (fun e => by have := (hS' y e).2; omega) hh.2⟩
   . simp only [if_neg e1] at hy'
     have hh := q3 i y hy'
     exact ⟨by simp; omega, hh.2.1, by omega, hob' y hh.2.2.2 (by omega)⟩
theorem GU.toOwn (h : GU P t b B W a cp xs) : Own P W a xs (fun b => B <= b /\ b < W.heap.size) := by
 obtain ⟨own, ⟨fp, f1, f2, f3⟩, hb, hB⟩ := h
 rcases Qfg own with e | ⟨b, o, e, hb, hlt, hi, ht⟩
 . exact .inl e
 . refine .inr ⟨b, o, fp, e, hb, fun i x hx => ⟨(f3 i x hx).2.1, (f3 i x hx).2.2.1⟩, ⟨hlt, hi, ht, f1, f2, fun i hx => (f3 i b hx).2.2.2 ?_⟩⟩
   rw [e]
   rfl
end
end Go.Proofs.YtenhcjkkpnlbeaaGreatDoor.Gen
namespace Go.Proofs.YtenhcjkkpnlbeaaGreatDoor.Gen
open ChangeShapes WideShapes ChangeAt RowKit Joins Deep Base
theorem cpInts (A : Option Addr) (cap : Nat) (l : List Int) (hl : l.length <= 1048576) (w : World) (hA : At w A l) :
 Calls Tryz.prog 117 #[.slice A l.length cap] w fun e w' => ∃ (a : Option Addr) (c : Nat), e = .returned (.slice a l.length c) /\ Below w.heap.size w w' /\ Sub w' a l (fun z => w.heap.size <= z /\ z < w'.heap.size) := by
 obtain ⟨v, w1, hr, hown, hgrow, hat⟩ := Qco (P := Tryz.prog) Tryz.underlying28 Qdf rfl (by decide) (by decide) w.heap.size (.slice none 0 0) ([] : List Int) l A cap w (Nat.le_refl _) (World.ownsRow_nil _ _ _ _) hA (by simp; omega)
 simp only [List.length_nil, Nat.zero_add, List.nil_append] at hown
 obtain ⟨a, c, rfl, _⟩ := Qb2 hown
 have HS := hidP (Qfg hown)
 have HG := hidP ((Below.refl w.heap.size w).grown hgrow (Nat.le_refl _) (fun k e => by cases e))
 clear hown hgrow hat hA
 go_enter Tryz.func117, Tryz.ntmps117
 go_wp2_with (at_builtin; refine Qa8 rfl _ _ _ rfl _ _ _ rfl rfl hr ?_)
 go_ret
 exact ⟨a, c, rfl, HG.out, HS.out⟩
end Go.Proofs.YtenhcjkkpnlbeaaGreatDoor.Gen
namespace Go.Proofs.YtenhcjkkpnlbeaaGreatDoor.Gen
open ChangeShapes WideShapes ChangeAt RowKit Joins Deep Base
structure Bx2 (w W : World) (t : TypeId) (zs vs : Array Value) : Prop where
  bl : Below w.heap.size w W
  p1 : Blk W w.heap.size t vs
  p2 : Blk W (w.heap.size + 1) t zs
theorem Bx2.below {w W W' : World} {t : TypeId} {zs vs : Array Value} (m : Bx2 w W t zs vs) (g : Below W.heap.size W W') : Bx2 w W' t zs vs := ⟨via0 g m.bl, m.p1.below g m.p1.lt, m.p2.below g m.p2.lt⟩
theorem Bx2.new (w : World) (t : TypeId) (zs vs : Array Value) : Bx2 w ((w.alloc (.cells vs t)).alloc (.cells zs t)).drew t zs vs := ⟨by repeat (first | exact Below.refl _ _ | assumption | refine via0 (by assumption) ?_ | refine Below.drew ?_ | refine Qab ?_ _), ((Blk.new w _ _).alloc _).drew, by have := (Blk.new (w.alloc (.cells vs t)) t zs).drew; rwa [World.size_alloc] at this⟩
theorem Qji (gen : Int) (A B C : Option Addr) (ca cb cc : Nat) (m b o : List Int) (hm : m.length <= 1048576) (hb : b.length <= 1048576) (ho : o.length <= 1048576) (w : World) (hA : At w A m) (hB : At w B b) (hC : At w C o) :
 Calls Tryz.prog 120 #[.agg (Qa3 gen A m.length ca B b.length cb C o.length cc)] w fun e w' => ∃ (a1 : Option Addr) (c1 : Nat) (a2 : Option Addr) (c2 : Nat) (a3 : Option Addr) (c3 : Nat), e = .returned (.agg (Qa3 gen a1 m.length c1 a2 b.length c2 a3 o.length c3)) /\ Below w.heap.size w w' /\ grpP w' (⟨gen, a1, c1, m, a2, c2, b, a3, c3, o⟩ : GC) (fun z => w.heap.size <= z /\ z < w'.heap.size) := by
 have HA := hidP hA
 have HB := hidP hB
 have HC := hidP hC
 clear hA hB hC
 have I := Bx2.new w 110 Qg8 (Qa3 gen A m.length ca B b.length cb C o.length cc)
 have z0 : w.heap.size + 2 <= ((w.alloc (.cells (Qa3 gen A m.length ca B b.length cb C o.length cc) 110)).alloc (.cells Qg8 110)).drew.heap.size := by simp
 go_enter Tryz.func120, Tryz.ntmps120
 go_wp2_with fail
 refine wp_region_noPanic ?_
 have hH : (fun (W : World) => W.cell? ⟨w.heap.size, 0, none⟩ = some (.int .i64 gen) /\ W.cell? ⟨w.heap.size, 1, none⟩ = some (.slice A m.length ca) /\ W.cell? ⟨w.heap.size, 2, none⟩ = some (.slice B b.length cb) /\ W.cell? ⟨w.heap.size, 3, none⟩ = some (.slice C o.length cc)) _ := I.p1.row4
 refine Qd4 12 (fun (W : World) => W.cell? ⟨w.heap.size, 0, none⟩ = some (.int .i64 gen) /\ W.cell? ⟨w.heap.size, 1, none⟩ = some (.slice A m.length ca) /\ W.cell? ⟨w.heap.size, 2, none⟩ = some (.slice B b.length cb) /\ W.cell? ⟨w.heap.size, 3, none⟩ = some (.slice C o.length cc)) (by kernel_rfl) ?_
 refine zpk [0,1,2,3,5,6,8,9] ?_; repeat (refine zpn (h := ?_); try simp only [zX,zY])
 refine zpe ?_
 refine Qbo (i := 4) (by kernel_rfl) rfl (fun K hK => ?_)
 simp only [zG]
 go_simp
 refine (cpInts A ca m hm _ (HA.out.below I.bl)).mono ?_
 rintro e w1 ⟨a1, c1, rfl, g1, F1⟩
 have G1 := hidP F1
 have z1 := g1.size
 replace I := I.below g1
 have T1 := I.p1.row4
 clear g1 F1
 refine hK.out _ _ (Or.inr T1) ?_
 clear hK K
 try simp only [zX,zY]
 refine Qbo (i := 7) (by kernel_rfl) rfl (fun K hK => ?_)
 simp only [zG]
 go_simp
 refine (cpInts B cb b hb _ (HB.out.below I.bl)).mono ?_
 rintro e w2 ⟨a2, c2, rfl, g2, F2⟩
 replace G1 := hidP (G1.out.below g2)
 have G2 := hidP F2
 have z2 := g2.size
 replace I := I.below g2
 have T2 := I.p1.row4
 clear g2 F2
 refine hK.out _ _ (Or.inr T2) ?_
 clear hK K
 try simp only [zX,zY]
 refine Qbo (i := 10) (by kernel_rfl) rfl (fun K hK => ?_)
 simp only [zG]
 go_simp
 refine (cpInts C cc o ho _ (HC.out.below I.bl)).mono ?_
 rintro e w3 ⟨a3, c3, rfl, g3, F3⟩
 replace G1 := hidP (G1.out.below g3)
 replace G2 := hidP (G2.out.below g3)
 have G3 := hidP F3
 have z3 := g3.size
 replace I := I.below g3
 have T3 := I.p1.row4
 clear g3 F3
 refine hK.out _ _ (Or.inr T3) ?_
 clear hK K
 try simp only [zX,zY]
 refine zp1 11 ?_; refine zpn (h := ?_); try simp only [zX,zY]
 refine zpe ?_
 refine Qbo (i := 12) (by kernel_rfl) rfl (fun K hK => ?_)
 simp only [zG]
 obtain ⟨y0, y1, y2, y3⟩ := I.p2.row4
 have f0 := I.p2.thaw 0; have f1 := I.p2.thaw 1; have f2 := I.p2.thaw 2; have f3 := I.p2.thaw 3
 go_simp
 refine hK.out _ _ (Or.inl rfl) ?_
 clear hK K
 try simp only [zX,zY]
 refine Qfe (by kernel_rfl) ?_ _
 refine NoPanic.normal ?_
 have Q9 := ((((I.p2.setAt 0 (.int .i64 gen)).setAt 1 (.slice a1 m.length c1)).setAt 2 (.slice a2 b.length c2)).setAt 3 (.slice a3 o.length c3))
 obtain ⟨e0, e1, e2, e3⟩ := (show Blk _ _ _ (Qa3 gen a1 m.length c1 a2 b.length c2 a3 o.length c3) from Q9).row4
 go_wp2
 refine bodyPost_ret (v := .agg (Qa3 gen a1 m.length c1 a2 b.length c2 a3 o.length c3)) (by simp [results, Tryz.results120, go_sem, e0, e1, e2, e3]) rfl ?_
 have k := Offp.of_only ((((((Only.refl (w.heap.size + 1) w3).set 0 (.int .i64 gen)).set 1 (.slice a1 m.length c1)).set 2 (.slice a2 b.length c2)).set 3 (.slice a3 o.length c3)))
 have hs := k.size
 refine ⟨a1, c1, a2, c2, a3, c3, rfl, I.bl.trans (k.toBelow (fun x hx => by omega) I.bl.size), ?_⟩
 refine ⟨fun z => w.heap.size + 2 <= z /\ z < w1.heap.size, fun z => w1.heap.size <= z /\ z < w2.heap.size, fun z => w2.heap.size <= z /\ z < w3.heap.size, fun y hy => ?_, fun y hy => ?_, fun y hy => ?_, fun y h1 h2 => ?_, fun y h1 h2 => ?_, fun y h1 h2 => ?_, (G1.out.mono (fun y hy => ⟨by omega, hy.2⟩)).offp k (fun y hy e => ?_), G2.out.offp k (fun y hy e => ?_), G3.out.offp k (fun y hy e => ?_)⟩<;>omega
end Go.Proofs.YtenhcjkkpnlbeaaGreatDoor.Gen
namespace Go.Proofs.YtenhcjkkpnlbeaaGreatDoor.Gen
open ChangeShapes WideShapes ChangeAt RowKit Joins Deep Base
structure Mb where
  who : Int
  beat : Int
  has : Bool
instance : Inhabited Mb := ⟨⟨0, 0, false⟩⟩
instance : Cel Mb where
  k := 3
  cs x := [.int .i64 x.who, .int .i64 x.beat, .bool x.has]
  len _ := rfl
  one x u hu := by simp at hu; rcases hu with rfl | rfl | rfl<;>rfl
end Go.Proofs.YtenhcjkkpnlbeaaGreatDoor.Gen
namespace Go.Proofs.YtenhcjkkpnlbeaaGreatDoor.Gen
open ChangeShapes WideShapes ChangeAt RowKit Joins Deep Base
section
variable {α : Type} [Cel α]
end
def mbs (m b : List Int) : List Mb := (List.range m.length).map fun i => ⟨m.getD i 0, b.getD i 0, decide (i < b.length)⟩
def zeroMb : Mb := ⟨0, 0, false⟩
def laid (m b : List Int) (n : Nat) : List Mb := (mbs m b).take n ++ List.replicate (m.length - n) zeroMb
end Go.Proofs.YtenhcjkkpnlbeaaGreatDoor.Gen
namespace Go.Proofs.YtenhcjkkpnlbeaaGreatDoor.Gen
section
variable {P : Program} {ops : Array Oper} {Q : Exit -> Act -> World -> Prop} {md : Region.Mode} {S : World -> Prop} {z : Nat}
def Qgm (md : Region.Mode) (ops : Array Oper) (z i : Nat) : Bool :=
  match ops[z]? with
  | none => false
  | some o => o.after.any fun e => Region.binds md e && e.on == i
theorem not_before {i : Nat} {L : Array Bool} (hz : Qgm md ops z i = true) (hi : i ∈ Region.ready md ops L) : z ∉ Region.ready md ops L := fun h => by
 obtain ⟨hu, oi, hoi, _⟩ := mem_ready.1 hi
 obtain ⟨_, oz, hoz, hall⟩ := mem_ready.1 h
 simp only [Qgm, hoz] at hz
 obtain ⟨e, he, hb⟩ := Array.any_eq_true'.1 hz
 simp only [Bool.and_eq_true, beq_iff_eq] at hb
 have h2 := hall e he hb.1
 rw [hb.2] at h2
 rcases Nat.lt_or_ge i L.size with h' | h'
 . simp [h'] at hu h2
   rw [hu] at h2; cases h2
 . simp [Array.getElem?_eq_none h'] at h2
theorem Qln (L : Array Bool) (z : Nat) : (L.setIfInBounds z true).getD z true = true := by
 by_cases h : z < L.size
 . simp [h]
 . simp [h]
def Qcb (P : Program) (md : Region.Mode) (ops : Array Oper) (Q : Exit -> Act -> World -> Prop) (S : World -> Prop) (z : Nat) : Nat -> Array Bool -> Act -> World -> Prop
  | 0, L, a, w => Region.ready md ops L = [] /\ Q .normal a w
  | n + 1, L, a, w => (Region.ready md ops L = [] -> Q .normal a w) /\
    ∀ i ∈ Region.ready md ops L, wpOp P ops Q i (fun a' w' => ((L.setIfInBounds i true).getD z true = true ∨ S w') /\ Qcb P md ops Q S z n (L.setIfInBounds i true) a' w') a w
theorem Qni (n : Nat) : ∀ (L : Array Bool) (a : Act) (w : World), Qcb P md ops Q S z n L a w -> wpAny P md ops Q n L a w := by
 induction n with
 | zero => exact fun _ _ _ h => h
 | succ n ih => exact fun L a w h => ⟨h.1, fun i hi => wpOp_mono (fun a' w' g => ih _ a' w' g.2) (h.2 i hi)⟩
theorem till_take {i : Nat} {oi : Oper} {v : Value} (hz : Qgm md ops z i = true) (hi : ops[i]? = some oi) (hs : Region.noSelect ops = true) (hQ : ∀ c a w, Q (.panic c) (a.put oi.dst v) w -> Q (.panic c) a w) (hiz : i ≠ z) (n : Nat) :
 ∀ (L : Array Bool) (a : Act) (w : World), L.getD z true = false -> Region.free md ops L i = true -> i ∈ Region.ready md ops L -> YieldsIf P ops S oi v a -> S w ->
  Qcb P md ops Q S z n (L.setIfInBounds i true) (a.put oi.dst v) w -> Qcb P md ops Q S z (n + 1) L a w := by
 have sel : ∀ (j : Nat) (o : Oper) cs b, ops[j]? = some o -> o.op ≠ .select cs b := Region.noSelect_spec hs
 suffices key : ∀ (L : Array Bool) (a : Act) (w : World), L.getD z true = false -> (∀ j oj, ops[j]? = some oj -> j ≠ i -> L.getD j true = false -> (∀ e ∈ oj.after, Region.binds md e = true -> e.on ≠ i) -> oi.apart ops oj = true) ->
  i ∈ Region.ready md ops L -> YieldsIf P ops S oi v a -> S w -> Qcb P md ops Q S z n (L.setIfInBounds i true) (a.put oi.dst v) w -> Qcb P md ops Q S z (n + 1) L a w from
  fun L a w h0 hf hr hy hS H => key L a w h0 (Region.free_spec hi hf) hr hy hS H
 induction n with
 | zero =>
  intro L a w _ _ hr hy hS H
  constructor
  . intro h; rw [h] at hr; exact absurd hr (List.not_mem_nil)
  . intro j hj
    rcases Decidable.em (j = i) with e | e
    . subst e; exact hy.wpOp hi hS ⟨.inr hS, H⟩
    . have g := ready_mono hj e
      rw [H.1] at g
      exact absurd g (List.not_mem_nil)
 | succ n ih =>
  intro L a w hL hfr hr hy hS H
  constructor
  . intro h; rw [h] at hr; exact absurd hr (List.not_mem_nil)
  . intro j hj
    rcases Decidable.em (j = i) with e | e
    . subst e; exact hy.wpOp hi hS ⟨.inr hS, H⟩
    . obtain ⟨hun, oj, hoj, hwait⟩ := mem_ready.1 hj
      have hjz : j ≠ z := fun h => by subst h; exact not_before hz hr hj
      have iun := (mem_ready.1 hr).1
      have hno : ∀ d ∈ oj.after, Region.binds md d = true -> d.on ≠ i := fun d hd hb q => by
       have g := hwait d hd hb
       rw [q] at g
       rcases Nat.lt_or_ge i L.size with k | k
       . simp [k] at iun g
         rw [iun] at g; cases g
       . simp [Array.getElem?_eq_none k] at g
      have step := wpOp_putIf hoj (hfr j oj hoj e hun hno) (fun cs b => sel i oi cs b hi) (fun cs b => sel j oj cs b hoj) hQ hy (H.2 j (ready_mono hj e))
      refine wpOp_mono (fun a' w' g => ?_) step
      have hL2 : (L.setIfInBounds j true).getD z true = false := by rw [getD_set_ne true hjz]; exact hL
      have hS' : S w' := g.2.1.resolve_left (by rw [getD_set_ne true hjz, getD_set_ne true hiz, hL]; decide)
      refine ⟨.inr hS', ih _ a' w' hL2 (fun k ok hk hki hu hn => ?_) (ready_mono hr (Ne.symm e)) g.1 hS' ?_⟩
      . refine hfr k ok hk hki ?_ hn
        rcases Decidable.em (j = k) with q | q
        . subst q; exact hun
        . rwa [getD_set_ne true q] at hu
      . have := g.2.2
        rwa [Array.setIfInBounds_comm _ _ (Ne.symm e)] at this
theorem till_free {i : Nat} {oi : Oper} {v : Value} (hi : ops[i]? = some oi) (hs : Region.noSelect ops = true) (hQ : ∀ c a w, Q (.panic c) (a.put oi.dst v) w -> Q (.panic c) a w) (hiz : i ≠ z) (n : Nat) :
 ∀ (L : Array Bool) (a : Act) (w : World), Region.free md ops L i = true -> i ∈ Region.ready md ops L -> YieldsIf P ops (fun _ => True) oi v a -> (L.getD z true = true ∨ S w) ->
  Qcb P md ops Q S z n (L.setIfInBounds i true) (a.put oi.dst v) w -> Qcb P md ops Q S z (n + 1) L a w := by
 have sel : ∀ (j : Nat) (o : Oper) cs b, ops[j]? = some o -> o.op ≠ .select cs b := Region.noSelect_spec hs
 suffices key : ∀ (L : Array Bool) (a : Act) (w : World), (∀ j oj, ops[j]? = some oj -> j ≠ i -> L.getD j true = false -> (∀ e ∈ oj.after, Region.binds md e = true -> e.on ≠ i) -> oi.apart ops oj = true) ->
  i ∈ Region.ready md ops L -> YieldsIf P ops (fun _ => True) oi v a -> (L.getD z true = true ∨ S w) -> Qcb P md ops Q S z n (L.setIfInBounds i true) (a.put oi.dst v) w -> Qcb P md ops Q S z (n + 1) L a w from
  fun L a w hf hr hy hS H => key L a w (Region.free_spec hi hf) hr hy hS H
 induction n with
 | zero =>
  intro L a w _ hr hy hS H
  constructor
  . intro h; rw [h] at hr; exact absurd hr (List.not_mem_nil)
  . intro j hj
    rcases Decidable.em (j = i) with e | e
    . subst e; exact hy.wpOp hi trivial ⟨by rw [getD_set_ne true hiz]; exact hS, H⟩
    . have g := ready_mono hj e
      rw [H.1] at g
      exact absurd g (List.not_mem_nil)
 | succ n ih =>
  intro L a w hfr hr hy hS H
  constructor
  . intro h; rw [h] at hr; exact absurd hr (List.not_mem_nil)
  . intro j hj
    rcases Decidable.em (j = i) with e | e
    . subst e; exact hy.wpOp hi trivial ⟨by rw [getD_set_ne true hiz]; exact hS, H⟩
    . obtain ⟨hun, oj, hoj, hwait⟩ := mem_ready.1 hj
      have iun := (mem_ready.1 hr).1
      have hno : ∀ d ∈ oj.after, Region.binds md d = true -> d.on ≠ i := fun d hd hb q => by
       have g := hwait d hd hb
       rw [q] at g
       rcases Nat.lt_or_ge i L.size with k | k
       . simp [k] at iun g
         rw [iun] at g; cases g
       . simp [Array.getElem?_eq_none k] at g
      have step := wpOp_putIf hoj (hfr j oj hoj e hun hno) (fun cs b => sel i oi cs b hi) (fun cs b => sel j oj cs b hoj) hQ hy (H.2 j (ready_mono hj e))
      refine wpOp_mono (fun a' w' g => ?_) step
      have hc : (L.setIfInBounds j true).getD z true = true ∨ S w' := by
       rcases Decidable.em (j = z) with q | q
       . subst q; exact .inl (Qln _ _)
       . have := g.2.1
         rw [getD_set_ne true q, getD_set_ne true hiz] at this
         rw [getD_set_ne true q]
         exact this
      refine ⟨hc, ih _ a' w' (fun k ok hk hki hu hn => ?_) (ready_mono hr (Ne.symm e)) g.1 hc ?_⟩
      . refine hfr k ok hk hki ?_ hn
        rcases Decidable.em (j = k) with q | q
        . subst q; exact hun
        . rwa [getD_set_ne true q] at hu
      . have := g.2.2
        rwa [Array.setIfInBounds_comm _ _ (Ne.symm e)] at this
theorem Qct {i : Nat} {oi : Oper} {v : Value} {n : Nat} {L : Array Bool} {a : Act} {w : World} (hz : Qgm md ops z i = true) (hi : ops[i]? = some oi) (hs : Region.noSelect ops = true) (hiz : i ≠ z) (h0 : L.getD z true = false)
 (hf : Region.free md ops L i = true) (hr : (Region.ready md ops L).contains i = true) (hQ : ∀ c a w, Q (.panic c) (a.put oi.dst v) w -> Q (.panic c) a w) (hy : YieldsIf P ops S oi v a) (hS : S w)
 (h : Qcb P md ops Q S z n (L.setIfInBounds i true) (a.put oi.dst v) w) : Qcb P md ops Q S z (n + 1) L a w :=
 till_take hz hi hs hQ hiz n L a w h0 hf (by simpa using hr) hy hS h
theorem Qin {i : Nat} {oi : Oper} {v : Value} {n : Nat} {L : Array Bool} {a : Act} {w : World} (hi : ops[i]? = some oi) (hs : Region.noSelect ops = true) (hiz : i ≠ z)
 (hf : Region.free md ops L i = true) (hr : (Region.ready md ops L).contains i = true) (hQ : ∀ c a w, Q (.panic c) (a.put oi.dst v) w -> Q (.panic c) a w) (hy : YieldsIf P ops (fun _ => True) oi v a) (hS : S w)
 (h : Qcb P md ops Q S z n (L.setIfInBounds i true) (a.put oi.dst v) w) : Qcb P md ops Q S z (n + 1) L a w :=
 till_free hi hs hQ hiz n L a w hf (by simpa using hr) hy (.inr hS) h
theorem Qdb {i : Nat} {o : Oper} {n : Nat} {L : Array Bool} {a : Act} {w : World} (hr : Region.ready md ops L = [i]) (ho : ops[i]? = some o)
 (h : ∀ K' : Act -> World -> Prop, Shut (∀ a w, (i = z ∨ S w) -> Qcb P md ops Q S z n (L.setIfInBounds i true) a w -> K' a w) -> if Region.wanted o (yielded ops a.tmps) = true then Oper.wp P o a w K' Q else K' (a.put o.dst undef) w) :
 Qcb P md ops Q S z (n + 1) L a w := by
 refine ⟨fun h0 => (by rw [hr] at h0; cases h0), fun j hj => ?_⟩
 rw [hr] at hj
 obtain rfl : j = i := by simpa using hj
 exact wpOp_step ho (fun K' hK => h K' (fun a w h1 h2 => hK a w ⟨h1.imp (fun e => by subst e; exact Qln _ _) id, h2⟩))
theorem Qj4 {L : Array Bool} {a : Act} {w : World} (hr : Region.ready md ops L = []) (h : Q .normal a w) : ∀ n, Qcb P md ops Q S z n L a w
 | 0 => ⟨hr, h⟩
 | n + 1 => ⟨fun _ => h, fun i hi => by rw [hr] at hi; exact absurd hi List.not_mem_nil⟩
theorem Qgx {id : Nat} {a : Act} {w : World} (z : Nat) (S : World -> Prop) (hm : P.follows .mixedOrders = true) (h : Qcb P .any ops Q S z ops.size (Array.replicate ops.size false) a w.drew) : (Code.region id ops true).wp P Q a w :=
 wp_region_any hm (Qni _ _ _ _ h)
end
end Go.Proofs.YtenhcjkkpnlbeaaGreatDoor.Gen
namespace Go.Proofs.YtenhcjkkpnlbeaaGreatDoor.Gen
open ChangeShapes WideShapes ChangeAt RowKit Joins Deep Base
theorem Qhm {P : Program} {w w' : World} {ops : Array Oper} {rest : List Oper} {o : Oper} {a : Act} {Q : Exit -> Act -> World -> Prop} (hgd : o.guard = none) (s x : Operand) (t : TypeId)
 (ho : o.op = .call { callee := .builtin .copy, args := #[s, x], argTypes := #[t, t] }) (v xv r : Value) (hs : a.eval s = v) (hx : a.eval x = xv)
 (hr : (Builtin.copy_ #[t, t] o.type #[v, xv]).run P w = .ok r w') (h : wpList P ops Q rest (a.put o.dst r) w') : wpList P ops Q (o :: rest) a w := by
 refine wpList_plain hgd fun _ hK => ?_
 unfold Oper.wp execOp
 simp only [ho, resolve, invoke, builtin, Sem.run_bind, Sem.run_pure, Result.andThen_ok, List.map_toArray, List.map_cons, List.map_nil, hs, hx, hr]
 exact hK _ _ h
end Go.Proofs.YtenhcjkkpnlbeaaGreatDoor.Gen
namespace Go.Proofs.YtenhcjkkpnlbeaaGreatDoor.Gen
open ChangeShapes WideShapes ChangeAt RowKit Joins Deep Base
def Gp (w : World) (a1 a2 a3 : Option Addr) (m b o : List Int) (F : List Nat) : Prop :=
  ∃ F1 F2 F3, F = F1 ++ (F2 ++ F3) /\ Sl w a1 m F1 /\ Sl w a2 b F2 /\ Sl w a3 o F3 /\ F.Nodup
theorem Gp.lt {F : List Nat} {w : World} {a1 a2 a3 : Option Addr} {m b o : List Int} (h : Gp w a1 a2 a3 m b o F) : ∀ x ∈ F, x < w.heap.size := by
 obtain ⟨F1, F2, F3, rfl, s1, s2, s3, hn⟩ := h
 intro x hx
 simp only [List.mem_append] at hx
 rcases hx with h | h | h
 . exact s1.lt x h
 . exact s2.lt x h
 . exact s3.lt x h
end Go.Proofs.YtenhcjkkpnlbeaaGreatDoor.Gen
namespace Go.Proofs.YtenhcjkkpnlbeaaGreatDoor.Gen
open ChangeShapes WideShapes ChangeAt RowKit Joins Deep Base
theorem Qfa {B : Nat} {W : World} {v : Value} {t t' : TypeId} {k n p : Nat} {xs : List Value} {vs : Array Value} (h : W.ownsRow B t k v n xs) (hp : Blk W p t' vs) (ht : t ≠ t') : ∀ x, v.ownBlock = some x -> x ≠ p := by
 intro x hx e
 subst e
 rcases h.2 with ⟨rfl, rfl⟩ | ⟨g, c, cur, rfl, hB, hg, _⟩
 . cases hx
 . have : g = x := by simpa [Value.ownBlock] using hx
   subst this
   have h2 : W.heap[g]? = _ := hp
   rw [h2] at hg
   cases hg
   exact ht rfl
end Go.Proofs.YtenhcjkkpnlbeaaGreatDoor.Gen
namespace Go.Proofs.YtenhcjkkpnlbeaaGreatDoor.Gen
open ChangeShapes WideShapes ChangeAt RowKit Joins Deep Base
section
variable {q : Nat} {W : World} {v1 v2 v3 : Value} {l1 l2 l3 : List Int}
theorem owns_grown {B : Nat} {W W' : World} {v : Value} {t : TypeId} {k n : Nat} {xs : List Value} {row : Option Nat} (h : W.ownsRow B t k v n xs) (hg : W.grownBy W' row) (hne : ∀ x, v.ownBlock = some x -> some x ≠ row) : W'.ownsRow B t k v n xs := by
 refine ⟨h.1, ?_⟩
 rcases h.2 with ⟨rfl, rfl⟩ | ⟨g, c, cur, rfl, hB, hb, hc, hm, hsz, ht⟩
 . exact .inl ⟨rfl, rfl⟩
 . exact .inr ⟨g, c, cur, rfl, hB, Blk.kept (show Blk W g t cur from hb) hg (hne g rfl), hc, hm, hsz, ht⟩
end
end Go.Proofs.YtenhcjkkpnlbeaaGreatDoor.Gen
