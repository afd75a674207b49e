/-
  A list of one's own lies in blocks of its own. No condition.
-/
import Derived.Test.YtlcjaabnfdnfmaaGreatDoorPeV
import Derived.Test.YtlcjaabnfdnfmaaGreatDoorGrpOk
import Derived.Deep.CutRange
set_option linter.unusedVariables false
set_option linter.unusedSimpArgs false
set_option maxRecDepth 100000
set_option maxHeartbeats 8000000
namespace Go.Proofs.YtlcjaabnfdnfmaaGreatDoor.Gen
open ChangeShapes WideShapes ChangeAt RowKit Joins Deep Base
theorem Qdw {α : Type} [Cel α] {B : Nat} {W : World} {t : TypeId} {a : Option Addr} {c : Nat} {xs : List α} (h : W.ownsRow B t (Cel.k α) (.slice a xs.length c) xs.length (flat xs)) : Sub W a xs (fun b => B <= b /\ b < W.heap.size) := by
 obtain ⟨a', c', e, _, hs⟩ := Qdh h
 cases e
 exact hs.imp id fun ⟨b, o, e, hB, hb, hi, ht⟩ => ⟨b, o, e, ⟨hB, hb⟩, hb, hi, ht⟩
end Go.Proofs.YtlcjaabnfdnfmaaGreatDoor.Gen
namespace Go.Proofs.YtlcjaabnfdnfmaaGreatDoor.Gen
open ChangeShapes WideShapes ChangeAt RowKit Joins Deep Base
structure GU {α : Type} [Cel α] (P : World -> α -> (Nat -> Prop) -> Prop) (t : TypeId) (b B : Nat) (W : World) (a : Option Addr) (cp : Nat) (xs : List α) : Prop where
  own : W.ownsRow B t (Cel.k α) (.slice a xs.length cp) xs.length (flat xs)
  fps : ∃ fp : Nat -> Nat -> Prop, (∀ (i : Nat) (h : i < xs.length), P W xs[i] (fp i)) /\ (∀ i j, i ≠ j -> ∀ x, fp i x -> ¬ fp j x) /\ ∀ i x, fp i x -> i < xs.length /\ B <= x /\ x < W.heap.size /\ (Value.slice a xs.length cp).ownBlock ≠ some x
  hb : b <= B
  hB : B <= W.heap.size
section
variable {α : Type} [Cel α] {P : World -> α -> (Nat -> Prop) -> Prop} {t : TypeId} {b B : Nat} {W W1 : World} {a : Option Addr} {cp : Nat} {xs : List α}
theorem GU.start (hb : b <= B) (hB : B <= W.heap.size) : GU (α := α) P t b B W none 0 [] :=
 ⟨World.ownsRow_nil _ _ _ _, ⟨fun _ _ => False, fun i h => by simp at h, fun _ _ _ _ h => h.elim, fun _ _ h => h.elim⟩, hb, hB⟩
theorem GU.offp (hP : Firm P) (h : GU P t b B W a cp xs) {T : Nat -> Prop} (k : Offp T W W1) (hT : ∀ x, T x -> x < b) : GU P t b B W1 a cp xs := by
 obtain ⟨own, ⟨fp, f1, f2, f3⟩, hb, hB⟩ := h
 exact ⟨Qct own k (fun y hy e => by have := (own.lt y hy).1; have := hT y e; omega), ⟨fp, fun i hi => hP _ _ _ _ _ (f1 i hi) k (fun y hy e => by have := (f3 i y hy).2.1; have := hT y e; omega), f2, fun i x hx => ⟨(f3 i x hx).1, (f3 i x hx).2.1, Nat.lt_of_lt_of_le (f3 i x hx).2.2.1 k.size, (f3 i x hx).2.2.2⟩⟩, hb, Nat.le_trans hB k.size⟩
theorem GU.app (hP : Firm P) {pg : Program} {ts : TypeId} {z : Value} {bytes : Nat} (hu : pg.underlying ts = some (.slice t)) (hinfo : (pg.info? t).map (fun i => (i.zero, i.size, i.bytes)) = some (some z, Cel.k α, bytes)) (hz : z.cells.size = Cel.k α) (hk : 0 < Cel.k α) (hby : bytes <= 1000)
 (h : GU P t b B W a cp xs) {T : Nat -> Prop} (k : Offp T W W1) (hT : ∀ x, T x -> x < b) (x : α) {S : Nat -> Prop} (hy : P W1 x S) (hS : ∀ y, S y -> W.heap.size <= y /\ y < W1.heap.size) (cs : Array Value) (hcs : cs.toList = Cel.cs x) (hx : xs.length <= 2000000) :
 ∃ a2 c2 W2, (Builtin.append_ #[ts, ts] ts #[.slice a xs.length cp, .slice (some ⟨W1.heap.size, 0, none⟩) 1 1]).run pg (W1.alloc (.cells cs t)) = .ok (.slice a2 (xs.length + 1) c2) W2 /\ GU P t b B W2 a2 c2 (xs ++ [x]) /\ Offp (fun y => B <= y) (W1.alloc (.cells cs t)) W2 := by
 have h0 := h.offp hP k hT
 have hws := k.size
 have hown0 := h.own
 have hBW := h.hB
 have hfp0 := h.fps
 obtain ⟨own0, ⟨fp, f1, f2, f3'⟩, hb, hB⟩ := h0
 have f3 : ∀ i x, fp i x -> i < xs.length /\ B <= x /\ x < W1.heap.size /\ (Value.slice a xs.length cp).ownBlock ≠ some x := f3'
 have own1 := Qca own0 (.cells cs t)
 have hX : At (W1.alloc (.cells cs t)) (some ⟨W1.heap.size, 0, none⟩) [x] := by
  refine .inr ⟨_, 0, rfl, by simp, fun j u hu => ?_⟩
  rw [Qbp, ← hcs] at hu
  rw [Nat.zero_add]
  exact (Blk.new W1 t cs).cell (by simpa using hu)
 obtain ⟨v', W2, hr, hown, hgrow, hob⟩ := Qbm (P := pg) hu hinfo hz hk hby B (.slice a xs.length cp) xs [x] (some ⟨W1.heap.size, 0, none⟩) 1 _ (by simp; omega) own1 hX (by simp; omega)
 simp only [List.length_cons, List.length_nil, Nat.zero_add] at hown hr
 obtain ⟨a2, c2, rfl, _⟩ := Qa5 hown
 have ko := Qcc hgrow
 have hs2 : W1.heap.size + 1 <= W2.heap.size := by have := ko.size; simpa using this
 have hS' : ∀ y, (Value.slice a xs.length cp).ownBlock = some y -> B <= y /\ y < W.heap.size := fun y hy => hown0.lt y hy
 have kb : Offp (fun _ => False) W1 (W1.alloc (.cells cs t)) := Offp.of_below (Qaa (Below.refl _ _) _)
 obtain ⟨fq, q1, q2, q3⟩ := hfp0
 refine ⟨a2, c2, W2, hr, ⟨by rw [List.length_append]; exact hown, ⟨fun i => if i = xs.length then S else fq i, ?_, ?_, ?_⟩, hb, by omega⟩, ko.mono (fun y e => (hS' y e).1)⟩
 . intro i hi
   by_cases e : i = xs.length
   . subst e
     simp only [if_true]
     rw [List.getElem_append_right (Nat.le_refl _)]
     simp only [Nat.sub_self, List.getElem_cons_zero]
     exact hP _ _ _ _ _ (hP _ _ _ _ _ hy kb (fun _ _ e => e)) ko (fun y hy e => by have := (hS y hy).1; have := (hS' y e).2; omega)
   . have hi' : i < xs.length := by simp at hi; omega
     simp only [if_neg e]
     rw [List.getElem_append_left hi']
     exact hP _ _ _ _ _ (hP _ _ _ _ _ (hP _ _ _ _ _ (q1 i hi') k (fun y hy e => by have := (q3 i y hy).2.1; have := hT y e; omega)) kb (fun _ _ e => e)) ko (fun y hy e => (q3 i y hy).2.2.2 e)
 . intro i j hij y hy' hy2
   by_cases e1 : i = xs.length
   . by_cases e2 : j = xs.length
     . omega
     . simp only [if_pos e1] at hy'
       simp only [if_neg e2] at hy2
       have := (hS y hy').1
       have := (q3 j y hy2).2.2.1
       omega
   . by_cases e2 : j = xs.length
     . simp only [if_neg e1] at hy'
       simp only [if_pos e2] at hy2
       have := (hS y hy2).1
       have := (q3 i y hy').2.2.1
       omega
     . simp only [if_neg e1] at hy'
       simp only [if_neg e2] at hy2
       exact q2 i j hij y hy' hy2
 . intro i y hy'
   have hob' : ∀ y, (Value.slice a xs.length cp).ownBlock ≠ some y -> y < W1.heap.size -> (Value.slice a2 (xs ++ [x]).length c2).ownBlock ≠ some y := by
    intro y hn hlt e
    rw [List.length_append] at e
    have e2 : (Value.slice a2 (xs.length + 1) c2).ownBlock = some y := e
    rcases hob with h' | h'
    . exact hn (h' ▸ e2)
    . rw [h'] at e2
      simp only [World.size_alloc, Option.some.injEq] at e2
      omega
   by_cases e1 : i = xs.length
   . simp only [if_pos e1] at hy'
     have hh := hS y hy'
     exact ⟨by simp; omega, by have := hown0; omega, by omega, hob' y (fun e => by have := (hS' y e).2; omega) hh.2⟩
   . simp only [if_neg e1] at hy'
     have hh := q3 i y hy'
     exact ⟨by simp; omega, hh.2.1, by omega, hob' y hh.2.2.2 (by omega)⟩
theorem GU.toOwn (h : GU P t b B W a cp xs) : Own P W a xs (fun b => B <= b /\ b < W.heap.size) := by
 obtain ⟨own, ⟨fp, f1, f2, f3⟩, hb, hB⟩ := h
 rcases Qdw own with e | ⟨b, o, e, hb, hlt, hi, ht⟩
 . exact .inl e
 . refine .inr ⟨b, o, fp, e, hb, fun i x hx => ⟨(f3 i x hx).2.1, (f3 i x hx).2.2.1⟩, ⟨hlt, hi, ht, f1, f2, fun i hx => (f3 i b hx).2.2.2 ?_⟩⟩
   rw [e]
   rfl
end
end Go.Proofs.YtlcjaabnfdnfmaaGreatDoor.Gen
namespace Go.Proofs.YtlcjaabnfdnfmaaGreatDoor.Gen
open ChangeShapes WideShapes ChangeAt RowKit Joins Deep Base
theorem cpInts (A : Option Addr) (cap : Nat) (l : List Int) (hl : l.length <= 1048576) (w : World) (hA : At w A l) :
 Calls Tryz.prog 88 #[.slice A l.length cap] w fun e w' => ∃ (a : Option Addr) (c : Nat), e = .returned (.slice a l.length c) /\ Below w.heap.size w w' /\ Sub w' a l (fun z => w.heap.size <= z /\ z < w'.heap.size) := by
 obtain ⟨v, w1, hr, hown, hgrow, hat⟩ := Qbm (P := Tryz.prog) Tryz.underlying30 Qcp rfl (by decide) (by decide) w.heap.size (.slice none 0 0) ([] : List Int) l A cap w (Nat.le_refl _) (World.ownsRow_nil _ _ _ _) hA (by simp; omega)
 simp only [List.length_nil, Nat.zero_add, List.nil_append] at hown
 obtain ⟨a, c, rfl, _⟩ := Qa5 hown
 have HS := hidP (Qdw hown)
 have HG := hidP ((Below.refl w.heap.size w).grown hgrow (Nat.le_refl _) (fun k e => by cases e))
 clear hown hgrow hat hA
 go_enter Tryz.func88, Tryz.ntmps88
 go_wp2_with (at_builtin; refine Qat rfl _ _ _ rfl _ _ _ rfl rfl hr ?_)
 go_ret
 exact ⟨a, c, rfl, HG.out, HS.out⟩
end Go.Proofs.YtlcjaabnfdnfmaaGreatDoor.Gen
namespace Go.Proofs.YtlcjaabnfdnfmaaGreatDoor.Gen
open ChangeShapes WideShapes ChangeAt RowKit Joins Deep Base
structure Bx2 (w W : World) (t : TypeId) (zs vs : Array Value) : Prop where
  bl : Below w.heap.size w W
  p1 : Blk W w.heap.size t vs
  p2 : Blk W (w.heap.size + 1) t zs
theorem Bx2.below {w W W' : World} {t : TypeId} {zs vs : Array Value} (m : Bx2 w W t zs vs) (g : Below W.heap.size W W') : Bx2 w W' t zs vs := ⟨via0 g m.bl, m.p1.below g m.p1.lt, m.p2.below g m.p2.lt⟩
theorem Bx2.new (w : World) (t : TypeId) (zs vs : Array Value) : Bx2 w ((w.alloc (.cells vs t)).alloc (.cells zs t)).drew t zs vs := ⟨by repeat (first | exact Below.refl _ _ | assumption | refine via0 (by assumption) ?_ | refine Below.drew ?_ | refine Qaa ?_ _), ((Blk.new w _ _).alloc _).drew, by have := (Blk.new (w.alloc (.cells vs t)) t zs).drew; rwa [World.size_alloc] at this⟩
theorem Qhc (gen : Int) (A B C : Option Addr) (ca cb cc : Nat) (m b o : List Int) (hm : m.length <= 1048576) (hb : b.length <= 1048576) (ho : o.length <= 1048576) (w : World) (hA : At w A m) (hB : At w B b) (hC : At w C o) :
 Calls Tryz.prog 91 #[.agg #[.int .i64 gen, .slice A m.length ca, .slice B b.length cb, .slice C o.length cc]] w fun e w' => ∃ (a1 : Option Addr) (c1 : Nat) (a2 : Option Addr) (c2 : Nat) (a3 : Option Addr) (c3 : Nat), e = .returned (.agg #[.int .i64 gen, .slice a1 m.length c1, .slice a2 b.length c2, .slice a3 o.length c3]) /\ Below w.heap.size w w' /\ grpP w' (⟨gen, a1, c1, m, a2, c2, b, a3, c3, o⟩ : GC) (fun z => w.heap.size <= z /\ z < w'.heap.size) := by
 have HA := hidP hA
 have HB := hidP hB
 have HC := hidP hC
 clear hA hB hC
 have I := Bx2.new w 75 #[.int .i64 0, .slice none 0 0, .slice none 0 0, .slice none 0 0] #[.int .i64 gen, .slice A m.length ca, .slice B b.length cb, .slice C o.length cc]
 have z0 : w.heap.size + 2 <= ((w.alloc (.cells #[.int .i64 gen, .slice A m.length ca, .slice B b.length cb, .slice C o.length cc] 75)).alloc (.cells #[.int .i64 0, .slice none 0 0, .slice none 0 0, .slice none 0 0] 75)).drew.heap.size := by simp
 go_enter Tryz.func91, Tryz.ntmps91
 go_wp2_with fail
 refine wp_region_noPanic ?_
 have hH : (fun (W : World) => W.cell? ⟨w.heap.size, 0, none⟩ = some (.int .i64 gen) /\ W.cell? ⟨w.heap.size, 1, none⟩ = some (.slice A m.length ca) /\ W.cell? ⟨w.heap.size, 2, none⟩ = some (.slice B b.length cb) /\ W.cell? ⟨w.heap.size, 3, none⟩ = some (.slice C o.length cc)) _ := I.p1.row4
 refine Qcy 12 (fun (W : World) => W.cell? ⟨w.heap.size, 0, none⟩ = some (.int .i64 gen) /\ W.cell? ⟨w.heap.size, 1, none⟩ = some (.slice A m.length ca) /\ W.cell? ⟨w.heap.size, 2, none⟩ = some (.slice B b.length cb) /\ W.cell? ⟨w.heap.size, 3, none⟩ = some (.slice C o.length cc)) (by kernel_rfl) ?_
 refine zpk [0,1,2,3,5,6,8,9] ?_; repeat (refine zpn (h := ?_); try simp only [zX,zY])
 refine zpe ?_
 refine Qaw (i := 4) (by kernel_rfl) rfl (fun K hK => ?_)
 simp only [zG]
 go_simp
 refine (cpInts A ca m hm _ (HA.out.below I.bl)).mono ?_
 rintro e w1 ⟨a1, c1, rfl, g1, F1⟩
 have G1 := hidP F1
 have z1 := g1.size
 replace I := I.below g1
 have T1 := I.p1.row4
 clear g1 F1
 refine hK.out _ _ (Or.inr T1) ?_
 clear hK K
 try simp only [zX,zY]
 refine Qaw (i := 7) (by kernel_rfl) rfl (fun K hK => ?_)
 simp only [zG]
 go_simp
 refine (cpInts B cb b hb _ (HB.out.below I.bl)).mono ?_
 rintro e w2 ⟨a2, c2, rfl, g2, F2⟩
 replace G1 := hidP (G1.out.below g2)
 have G2 := hidP F2
 have z2 := g2.size
 replace I := I.below g2
 have T2 := I.p1.row4
 clear g2 F2
 refine hK.out _ _ (Or.inr T2) ?_
 clear hK K
 try simp only [zX,zY]
 refine Qaw (i := 10) (by kernel_rfl) rfl (fun K hK => ?_)
 simp only [zG]
 go_simp
 refine (cpInts C cc o ho _ (HC.out.below I.bl)).mono ?_
 rintro e w3 ⟨a3, c3, rfl, g3, F3⟩
 replace G1 := hidP (G1.out.below g3)
 replace G2 := hidP (G2.out.below g3)
 have G3 := hidP F3
 have z3 := g3.size
 replace I := I.below g3
 have T3 := I.p1.row4
 clear g3 F3
 refine hK.out _ _ (Or.inr T3) ?_
 clear hK K
 try simp only [zX,zY]
 refine zp1 11 ?_; refine zpn (h := ?_); try simp only [zX,zY]
 refine zpe ?_
 refine Qaw (i := 12) (by kernel_rfl) rfl (fun K hK => ?_)
 simp only [zG]
 obtain ⟨y0, y1, y2, y3⟩ := I.p2.row4
 have f0 := I.p2.thaw 0; have f1 := I.p2.thaw 1; have f2 := I.p2.thaw 2; have f3 := I.p2.thaw 3
 go_simp
 refine hK.out _ _ (Or.inl rfl) ?_
 clear hK K
 try simp only [zX,zY]
 refine Qdu (by kernel_rfl) ?_ _
 refine NoPanic.normal ?_
 have Q9 := ((((I.p2.setAt 0 (.int .i64 gen)).setAt 1 (.slice a1 m.length c1)).setAt 2 (.slice a2 b.length c2)).setAt 3 (.slice a3 o.length c3))
 obtain ⟨e0, e1, e2, e3⟩ := (show Blk _ _ _ #[.int .i64 gen, .slice a1 m.length c1, .slice a2 b.length c2, .slice a3 o.length c3] from Q9).row4
 go_wp2
 refine bodyPost_ret (v := .agg #[.int .i64 gen, .slice a1 m.length c1, .slice a2 b.length c2, .slice a3 o.length c3]) (by simp [results, Tryz.results91, go_sem, e0, e1, e2, e3]) rfl ?_
 have k := Offp.of_only ((((((Only.refl (w.heap.size + 1) w3).set 0 (.int .i64 gen)).set 1 (.slice a1 m.length c1)).set 2 (.slice a2 b.length c2)).set 3 (.slice a3 o.length c3)))
 have hs := k.size
 refine ⟨a1, c1, a2, c2, a3, c3, rfl, I.bl.trans (k.toBelow (fun x hx => by omega) I.bl.size), ?_⟩
 refine ⟨fun z => w.heap.size + 2 <= z /\ z < w1.heap.size, fun z => w1.heap.size <= z /\ z < w2.heap.size, fun z => w2.heap.size <= z /\ z < w3.heap.size, fun y hy => ?_, fun y hy => ?_, fun y hy => ?_, fun y h1 h2 => ?_, fun y h1 h2 => ?_, fun y h1 h2 => ?_, (G1.out.mono (fun y hy => ⟨by omega, hy.2⟩)).offp k (fun y hy e => ?_), G2.out.offp k (fun y hy e => ?_), G3.out.offp k (fun y hy e => ?_)⟩<;>omega
end Go.Proofs.YtlcjaabnfdnfmaaGreatDoor.Gen
namespace Go.Proofs.YtlcjaabnfdnfmaaGreatDoor.Gen
open ChangeShapes WideShapes ChangeAt RowKit Joins Deep Base
structure Mb where
  who : Int
  beat : Int
  has : Bool
instance : Inhabited Mb := ⟨⟨0, 0, false⟩⟩
instance : Cel Mb where
  k := 3
  cs x := [.int .i64 x.who, .int .i64 x.beat, .bool x.has]
  len _ := rfl
  one x u hu := by simp at hu; rcases hu with rfl | rfl | rfl<;>rfl
end Go.Proofs.YtlcjaabnfdnfmaaGreatDoor.Gen
namespace Go.Proofs.YtlcjaabnfdnfmaaGreatDoor.Gen
open ChangeShapes WideShapes ChangeAt RowKit Joins Deep Base
section
variable {α : Type} [Cel α]
end
def mbs (m b : List Int) : List Mb := (List.range m.length).map fun i => ⟨m.getD i 0, b.getD i 0, decide (i < b.length)⟩
def zeroMb : Mb := ⟨0, 0, false⟩
def laid (m b : List Int) (n : Nat) : List Mb := (mbs m b).take n ++ List.replicate (m.length - n) zeroMb
end Go.Proofs.YtlcjaabnfdnfmaaGreatDoor.Gen
namespace Go.Proofs.YtlcjaabnfdnfmaaGreatDoor.Gen
section
variable {P : Program} {ops : Array Oper} {Q : Exit -> Act -> World -> Prop} {md : Region.Mode} {S : World -> Prop} {z : Nat}
def Qen (md : Region.Mode) (ops : Array Oper) (z i : Nat) : Bool :=
  match ops[z]? with
  | none => false
  | some o => o.after.any fun e => Region.binds md e && e.on == i
theorem not_before {i : Nat} {L : Array Bool} (hz : Qen md ops z i = true) (hi : i ∈ Region.ready md ops L) : z ∉ Region.ready md ops L := fun h => by
 obtain ⟨hu, oi, hoi, _⟩ := mem_ready.1 hi
 obtain ⟨_, oz, hoz, hall⟩ := mem_ready.1 h
 simp only [Qen, hoz] at hz
 obtain ⟨e, he, hb⟩ := Array.any_eq_true'.1 hz
 simp only [Bool.and_eq_true, beq_iff_eq] at hb
 have h2 := hall e he hb.1
 rw [hb.2] at h2
 rcases Nat.lt_or_ge i L.size with h' | h'
 . simp [h'] at hu h2
   rw [hu] at h2; cases h2
 . simp [Array.getElem?_eq_none h'] at h2
theorem Qjb (L : Array Bool) (z : Nat) : (L.setIfInBounds z true).getD z true = true := by
 by_cases h : z < L.size
 . simp [h]
 . simp [h]
def Qbe (P : Program) (md : Region.Mode) (ops : Array Oper) (Q : Exit -> Act -> World -> Prop) (S : World -> Prop) (z : Nat) : Nat -> Array Bool -> Act -> World -> Prop
  | 0, L, a, w => Region.ready md ops L = [] /\ Q .normal a w
  | n + 1, L, a, w => (Region.ready md ops L = [] -> Q .normal a w) /\
    ∀ i ∈ Region.ready md ops L, wpOp P ops Q i (fun a' w' => ((L.setIfInBounds i true).getD z true = true ∨ S w') /\ Qbe P md ops Q S z n (L.setIfInBounds i true) a' w') a w
theorem Qk1 (n : Nat) : ∀ (L : Array Bool) (a : Act) (w : World), Qbe P md ops Q S z n L a w -> wpAny P md ops Q n L a w := by
 induction n with
 | zero => exact fun _ _ _ h => h
 | succ n ih => exact fun L a w h => ⟨h.1, fun i hi => wpOp_mono (fun a' w' g => ih _ a' w' g.2) (h.2 i hi)⟩
theorem till_take {i : Nat} {oi : Oper} {v : Value} (hz : Qen md ops z i = true) (hi : ops[i]? = some oi) (hs : Region.noSelect ops = true) (hQ : ∀ c a w, Q (.panic c) (a.put oi.dst v) w -> Q (.panic c) a w) (hiz : i ≠ z) (n : Nat) :
 ∀ (L : Array Bool) (a : Act) (w : World), L.getD z true = false -> Region.free md ops L i = true -> i ∈ Region.ready md ops L -> YieldsIf P ops S oi v a -> S w ->
  Qbe P md ops Q S z n (L.setIfInBounds i true) (a.put oi.dst v) w -> Qbe P md ops Q S z (n + 1) L a w := by
 have sel : ∀ (j : Nat) (o : Oper) cs b, ops[j]? = some o -> o.op ≠ .select cs b := Region.noSelect_spec hs
 suffices key : ∀ (L : Array Bool) (a : Act) (w : World), L.getD z true = false -> (∀ j oj, ops[j]? = some oj -> j ≠ i -> L.getD j true = false -> (∀ e ∈ oj.after, Region.binds md e = true -> e.on ≠ i) -> oi.apart ops oj = true) ->
  i ∈ Region.ready md ops L -> YieldsIf P ops S oi v a -> S w -> Qbe P md ops Q S z n (L.setIfInBounds i true) (a.put oi.dst v) w -> Qbe P md ops Q S z (n + 1) L a w from
  fun L a w h0 hf hr hy hS H => key L a w h0 (Region.free_spec hi hf) hr hy hS H
 induction n with
 | zero =>
  intro L a w _ _ hr hy hS H
  constructor
  . intro h; rw [h] at hr; exact absurd hr (List.not_mem_nil)
  . intro j hj
    rcases Decidable.em (j = i) with e | e
    . subst e; exact hy.wpOp hi hS ⟨.inr hS, H⟩
    . have g := ready_mono hj e
      rw [H.1] at g
      exact absurd g (List.not_mem_nil)
 | succ n ih =>
  intro L a w hL hfr hr hy hS H
  constructor
  . intro h; rw [h] at hr; exact absurd hr (List.not_mem_nil)
  . intro j hj
    rcases Decidable.em (j = i) with e | e
    . subst e; exact hy.wpOp hi hS ⟨.inr hS, H⟩
    . obtain ⟨hun, oj, hoj, hwait⟩ := mem_ready.1 hj
      have hjz : j ≠ z := fun h => by subst h; exact not_before hz hr hj
      have iun := (mem_ready.1 hr).1
      have hno : ∀ d ∈ oj.after, Region.binds md d = true -> d.on ≠ i := fun d hd hb q => by
       have g := hwait d hd hb
       rw [q] at g
       rcases Nat.lt_or_ge i L.size with k | k
       . simp [k] at iun g
         rw [iun] at g; cases g
       . simp [Array.getElem?_eq_none k] at g
      have step := wpOp_putIf hoj (hfr j oj hoj e hun hno) (fun cs b => sel i oi cs b hi) (fun cs b => sel j oj cs b hoj) hQ hy (H.2 j (ready_mono hj e))
      refine wpOp_mono (fun a' w' g => ?_) step
      have hL2 : (L.setIfInBounds j true).getD z true = false := by rw [getD_set_ne true hjz]; exact hL
      have hS' : S w' := g.2.1.resolve_left (by rw [getD_set_ne true hjz, getD_set_ne true hiz, hL]; decide)
      refine ⟨.inr hS', ih _ a' w' hL2 (fun k ok hk hki hu hn => ?_) (ready_mono hr (Ne.symm e)) g.1 hS' ?_⟩
      . refine hfr k ok hk hki ?_ hn
        rcases Decidable.em (j = k) with q | q
        . subst q; exact hun
        . rwa [getD_set_ne true q] at hu
      . have := g.2.2
        rwa [Array.setIfInBounds_comm _ _ (Ne.symm e)] at this
theorem till_free {i : Nat} {oi : Oper} {v : Value} (hi : ops[i]? = some oi) (hs : Region.noSelect ops = true) (hQ : ∀ c a w, Q (.panic c) (a.put oi.dst v) w -> Q (.panic c) a w) (hiz : i ≠ z) (n : Nat) :
 ∀ (L : Array Bool) (a : Act) (w : World), Region.free md ops L i = true -> i ∈ Region.ready md ops L -> YieldsIf P ops (fun _ => True) oi v a -> (L.getD z true = true ∨ S w) ->
  Qbe P md ops Q S z n (L.setIfInBounds i true) (a.put oi.dst v) w -> Qbe P md ops Q S z (n + 1) L a w := by
 have sel : ∀ (j : Nat) (o : Oper) cs b, ops[j]? = some o -> o.op ≠ .select cs b := Region.noSelect_spec hs
 suffices key : ∀ (L : Array Bool) (a : Act) (w : World), (∀ j oj, ops[j]? = some oj -> j ≠ i -> L.getD j true = false -> (∀ e ∈ oj.after, Region.binds md e = true -> e.on ≠ i) -> oi.apart ops oj = true) ->
  i ∈ Region.ready md ops L -> YieldsIf P ops (fun _ => True) oi v a -> (L.getD z true = true ∨ S w) -> Qbe P md ops Q S z n (L.setIfInBounds i true) (a.put oi.dst v) w -> Qbe P md ops Q S z (n + 1) L a w from
  fun L a w hf hr hy hS H => key L a w (Region.free_spec hi hf) hr hy hS H
 induction n with
 | zero =>
  intro L a w _ hr hy hS H
  constructor
  . intro h; rw [h] at hr; exact absurd hr (List.not_mem_nil)
  . intro j hj
    rcases Decidable.em (j = i) with e | e
    . subst e; exact hy.wpOp hi trivial ⟨by rw [getD_set_ne true hiz]; exact hS, H⟩
    . have g := ready_mono hj e
      rw [H.1] at g
      exact absurd g (List.not_mem_nil)
 | succ n ih =>
  intro L a w hfr hr hy hS H
  constructor
  . intro h; rw [h] at hr; exact absurd hr (List.not_mem_nil)
  . intro j hj
    rcases Decidable.em (j = i) with e | e
    . subst e; exact hy.wpOp hi trivial ⟨by rw [getD_set_ne true hiz]; exact hS, H⟩
    . obtain ⟨hun, oj, hoj, hwait⟩ := mem_ready.1 hj
      have iun := (mem_ready.1 hr).1
      have hno : ∀ d ∈ oj.after, Region.binds md d = true -> d.on ≠ i := fun d hd hb q => by
       have g := hwait d hd hb
       rw [q] at g
       rcases Nat.lt_or_ge i L.size with k | k
       . simp [k] at iun g
         rw [iun] at g; cases g
       . simp [Array.getElem?_eq_none k] at g
      have step := wpOp_putIf hoj (hfr j oj hoj e hun hno) (fun cs b => sel i oi cs b hi) (fun cs b => sel j oj cs b hoj) hQ hy (H.2 j (ready_mono hj e))
      refine wpOp_mono (fun a' w' g => ?_) step
      have hc : (L.setIfInBounds j true).getD z true = true ∨ S w' := by
       rcases Decidable.em (j = z) with q | q
       . subst q; exact .inl (Qjb _ _)
       . have := g.2.1
         rw [getD_set_ne true q, getD_set_ne true hiz] at this
         rw [getD_set_ne true q]
         exact this
      refine ⟨hc, ih _ a' w' (fun k ok hk hki hu hn => ?_) (ready_mono hr (Ne.symm e)) g.1 hc ?_⟩
      . refine hfr k ok hk hki ?_ hn
        rcases Decidable.em (j = k) with q | q
        . subst q; exact hun
        . rwa [getD_set_ne true q] at hu
      . have := g.2.2
        rwa [Array.setIfInBounds_comm _ _ (Ne.symm e)] at this
theorem Qbq {i : Nat} {oi : Oper} {v : Value} {n : Nat} {L : Array Bool} {a : Act} {w : World} (hz : Qen md ops z i = true) (hi : ops[i]? = some oi) (hs : Region.noSelect ops = true) (hiz : i ≠ z) (h0 : L.getD z true = false)
 (hf : Region.free md ops L i = true) (hr : (Region.ready md ops L).contains i = true) (hQ : ∀ c a w, Q (.panic c) (a.put oi.dst v) w -> Q (.panic c) a w) (hy : YieldsIf P ops S oi v a) (hS : S w)
 (h : Qbe P md ops Q S z n (L.setIfInBounds i true) (a.put oi.dst v) w) : Qbe P md ops Q S z (n + 1) L a w :=
 till_take hz hi hs hQ hiz n L a w h0 hf (by simpa using hr) hy hS h
theorem Qgl {i : Nat} {oi : Oper} {v : Value} {n : Nat} {L : Array Bool} {a : Act} {w : World} (hi : ops[i]? = some oi) (hs : Region.noSelect ops = true) (hiz : i ≠ z)
 (hf : Region.free md ops L i = true) (hr : (Region.ready md ops L).contains i = true) (hQ : ∀ c a w, Q (.panic c) (a.put oi.dst v) w -> Q (.panic c) a w) (hy : YieldsIf P ops (fun _ => True) oi v a) (hS : S w)
 (h : Qbe P md ops Q S z n (L.setIfInBounds i true) (a.put oi.dst v) w) : Qbe P md ops Q S z (n + 1) L a w :=
 till_free hi hs hQ hiz n L a w hf (by simpa using hr) hy (.inr hS) h
theorem Qb5 {i : Nat} {o : Oper} {n : Nat} {L : Array Bool} {a : Act} {w : World} (hr : Region.ready md ops L = [i]) (ho : ops[i]? = some o)
 (h : ∀ K' : Act -> World -> Prop, Shut (∀ a w, (i = z ∨ S w) -> Qbe P md ops Q S z n (L.setIfInBounds i true) a w -> K' a w) -> if Region.wanted o (yielded ops a.tmps) = true then Oper.wp P o a w K' Q else K' (a.put o.dst undef) w) :
 Qbe P md ops Q S z (n + 1) L a w := by
 refine ⟨fun h0 => (by rw [hr] at h0; cases h0), fun j hj => ?_⟩
 rw [hr] at hj
 obtain rfl : j = i := by simpa using hj
 exact wpOp_step ho (fun K' hK => h K' (fun a w h1 h2 => hK a w ⟨h1.imp (fun e => by subst e; exact Qjb _ _) id, h2⟩))
theorem Qhx {L : Array Bool} {a : Act} {w : World} (hr : Region.ready md ops L = []) (h : Q .normal a w) : ∀ n, Qbe P md ops Q S z n L a w
 | 0 => ⟨hr, h⟩
 | n + 1 => ⟨fun _ => h, fun i hi => by rw [hr] at hi; exact absurd hi List.not_mem_nil⟩
theorem Qe5 {id : Nat} {a : Act} {w : World} (z : Nat) (S : World -> Prop) (hm : P.follows .mixedOrders = true) (h : Qbe P .any ops Q S z ops.size (Array.replicate ops.size false) a w.drew) : (Code.region id ops true).wp P Q a w :=
 wp_region_any hm (Qk1 _ _ _ _ h)
end
end Go.Proofs.YtlcjaabnfdnfmaaGreatDoor.Gen
namespace Go.Proofs.YtlcjaabnfdnfmaaGreatDoor.Gen
open ChangeShapes WideShapes ChangeAt RowKit Joins Deep Base
theorem Qfn {P : Program} {w w' : World} {ops : Array Oper} {rest : List Oper} {o : Oper} {a : Act} {Q : Exit -> Act -> World -> Prop} (hgd : o.guard = none) (s x : Operand) (t : TypeId)
 (ho : o.op = .call { callee := .builtin .copy, args := #[s, x], argTypes := #[t, t] }) (v xv r : Value) (hs : a.eval s = v) (hx : a.eval x = xv)
 (hr : (Builtin.copy_ #[t, t] o.type #[v, xv]).run P w = .ok r w') (h : wpList P ops Q rest (a.put o.dst r) w') : wpList P ops Q (o :: rest) a w := by
 refine wpList_plain hgd fun _ hK => ?_
 unfold Oper.wp execOp
 simp only [ho, resolve, invoke, builtin, Sem.run_bind, Sem.run_pure, Result.andThen_ok, List.map_toArray, List.map_cons, List.map_nil, hs, hx, hr]
 exact hK _ _ h
end Go.Proofs.YtlcjaabnfdnfmaaGreatDoor.Gen
namespace Go.Proofs.YtlcjaabnfdnfmaaGreatDoor.Gen
open ChangeShapes WideShapes ChangeAt RowKit Joins Deep Base
def Gp (w : World) (a1 a2 a3 : Option Addr) (m b o : List Int) (F : List Nat) : Prop :=
  ∃ F1 F2 F3, F = F1 ++ (F2 ++ F3) /\ Sl w a1 m F1 /\ Sl w a2 b F2 /\ Sl w a3 o F3 /\ F.Nodup
theorem Gp.lt {F : List Nat} {w : World} {a1 a2 a3 : Option Addr} {m b o : List Int} (h : Gp w a1 a2 a3 m b o F) : ∀ x ∈ F, x < w.heap.size := by
 obtain ⟨F1, F2, F3, rfl, s1, s2, s3, hn⟩ := h
 intro x hx
 simp only [List.mem_append] at hx
 rcases hx with h | h | h
 . exact s1.lt x h
 . exact s2.lt x h
 . exact s3.lt x h
end Go.Proofs.YtlcjaabnfdnfmaaGreatDoor.Gen
namespace Go.Proofs.YtlcjaabnfdnfmaaGreatDoor.Gen
open ChangeShapes WideShapes ChangeAt RowKit Joins Deep Base
theorem Qds {B : Nat} {W : World} {v : Value} {t t' : TypeId} {k n p : Nat} {xs : List Value} {vs : Array Value} (h : W.ownsRow B t k v n xs) (hp : Blk W p t' vs) (ht : t ≠ t') : ∀ x, v.ownBlock = some x -> x ≠ p := by
 intro x hx e
 subst e
 rcases h.2 with ⟨rfl, rfl⟩ | ⟨g, c, cur, rfl, hB, hg, _⟩
 . cases hx
 . have : g = x := by simpa [Value.ownBlock] using hx
   subst this
   have h2 : W.heap[g]? = _ := hp
   rw [h2] at hg
   cases hg
   exact ht rfl
end Go.Proofs.YtlcjaabnfdnfmaaGreatDoor.Gen
namespace Go.Proofs.YtlcjaabnfdnfmaaGreatDoor.Gen
open ChangeShapes WideShapes ChangeAt RowKit Joins Deep Base
section
variable {q : Nat} {W : World} {v1 v2 v3 : Value} {l1 l2 l3 : List Int}
theorem owns_grown {B : Nat} {W W' : World} {v : Value} {t : TypeId} {k n : Nat} {xs : List Value} {row : Option Nat} (h : W.ownsRow B t k v n xs) (hg : W.grownBy W' row) (hne : ∀ x, v.ownBlock = some x -> some x ≠ row) : W'.ownsRow B t k v n xs := by
 refine ⟨h.1, ?_⟩
 rcases h.2 with ⟨rfl, rfl⟩ | ⟨g, c, cur, rfl, hB, hb, hc, hm, hsz, ht⟩
 . exact .inl ⟨rfl, rfl⟩
 . exact .inr ⟨g, c, cur, rfl, hB, Blk.kept (show Blk W g t cur from hb) hg (hne g rfl), hc, hm, hsz, ht⟩
end
end Go.Proofs.YtlcjaabnfdnfmaaGreatDoor.Gen
namespace Go.Proofs.YtlcjaabnfdnfmaaGreatDoor.Gen
open ChangeShapes WideShapes ChangeAt RowKit Joins Deep Base
def newO (rows : Int) : List Int := if inB rows 1 4 then List.replicate rows.toNat 0 else []
theorem newO_le (rows : Int) : (newO rows).length <= 4 := by
 unfold newO
 cases h : inB rows 1 4
 . simp
 . have : 1 <= rows /\ rows <= 4 := by simpa [inB] using h
   simp; omega
theorem made_in (w : World) (n : Nat) (t : TypeId) : In (w.alloc (.cells (madeCells #[Value.int .i64 0] n) t)) w.heap.size 0 (List.replicate n (0 : Int)) := by
 intro j v hv
 have hj : j < n := by
  have := (List.getElem?_eq_some_iff.1 hv).1
  rw [Qap, List.length_replicate] at this
  have e : n * Cel.k Int = n := Nat.mul_one n
  omega
 have hv' : v = .int .i64 0 := by
  have h2 := Qd3 (List.replicate n (0 : Int)) j (by simpa using hj) 0 (by show 0 < 1; omega)
  have e : j * Cel.k Int + 0 = j := by show j * 1 + 0 = j; omega
  rw [e, hv] at h2
  simpa [Cel.cs] using h2
 subst hv'
 rw [Nat.zero_add]
 have : j < (madeCells #[Value.int .i64 0] n).size := by rw [size_madeCells]; exact hj
 simp [this, madeCells]
 exact ⟨j, by simp [hj], by simp [Nat.mod_one]⟩
theorem Qjt (rows : Int) (w : World) : Calls Tryz.prog 38 #[.int .i64 rows] w fun e w' => ∃ (a : Option Addr) (c : Nat) (F : List Nat), e = .returned (.agg #[.int .i64 0, .slice none 0 0, .slice none 0 0, .slice a (newO rows).length c]) /\ Below w.heap.size w w' /\ Gp w' none none a [] [] (newO rows) F /\ ∀ x ∈ F, w.heap.size <= x := by
 cases hx : inB rows 1 4
 . have hF : Hid (newO rows = []) := by show _ = _; simp [newO, hx]
   go_enter Tryz.func38, Tryz.ntmps38
   go_wp2_with (go_at_call 11; refine (in_any _ _ _ _).mono ?_; rw [hx]; rintro e w1 ⟨rfl, rfl⟩)
   refine bodyPost_ret (v := .agg #[.int .i64 0, .slice none 0 0, .slice none 0 0, .slice none 0 0]) (by simp [results, Tryz.results38, go_sem]) rfl ?_
   rw [hF.out]
   exact ⟨none, 0, [], rfl, by repeat (first | exact Below.refl _ _ | assumption | refine via0 (by assumption) ?_ | refine Below.drew ?_ | refine Qaa ?_ _), ⟨[], [], [], rfl, Sl.nil _ _, Sl.nil _ _, Sl.nil _ _, by simp⟩, by simp⟩
 . obtain ⟨h1, h4⟩ : 1 <= rows /\ rows <= 4 := by simpa [inB] using hx
   obtain ⟨n, rfl⟩ : ∃ n : Nat, rows = n := ⟨rows.toNat, by omega⟩
   have hF : Hid (newO (n : Int) = List.replicate n 0) := by show _ = _; simp [newO, hx]
   have hmk := Qbk (P := Tryz.prog) Tryz.underlying30 Qcp (by omega) n (by omega)
   go_enter Tryz.func38, Tryz.ntmps38
   go_wp2_with (go_at_call 11; refine (in_any _ _ _ _).mono ?_; rw [hx]; rintro e w1 ⟨rfl, rfl⟩)
   refine bodyPost_ret (v := .agg #[.int .i64 0, .slice none 0 0, .slice none 0 0, .slice (some ⟨w.heap.size + 1, 0, none⟩) n n]) (by simp [results, Tryz.results38, go_sem]) rfl ?_
   rw [hF.out]
   refine ⟨some ⟨w.heap.size + 1, 0, none⟩, n, [w.heap.size + 1], by simp, by repeat (first | exact Below.refl _ _ | assumption | refine via0 (by assumption) ?_ | refine Below.drew ?_ | refine Qaa ?_ _), ⟨[], [], [w.heap.size + 1], rfl, Sl.nil _ _, Sl.nil _ _, .inr ⟨w.heap.size + 1, 0, rfl, rfl, by simp, ?_, ?_⟩, by simp⟩, by simp⟩
   . have := made_in (w.alloc (.cells #[.int .i64 0, .slice none 0 0, .slice none 0 0, .slice (some ⟨w.heap.size + 1, 0, none⟩) n n] 75)) n 3
     rwa [World.size_alloc] at this
   . have := Qdg (w.alloc (.cells #[.int .i64 0, .slice none 0 0, .slice none 0 0, .slice (some ⟨w.heap.size + 1, 0, none⟩) n n] 75)) #[Value.int .i64 0] n 1 3
     rw [World.size_alloc, Nat.mul_one] at this
     rw [List.length_replicate]
     show World.there _ _ _ (n * 1)
     rw [Nat.mul_one]
     exact this
theorem Qkh (rows : Int) (w : World) : Calls Tryz.prog 156 #[.int .i64 rows] w fun e w' => ∃ (a : Option Addr) (c : Nat) (F : List Nat), e = .returned (.agg #[.int .i64 0, .slice none 0 0, .slice none 0 0, .slice a (newO rows).length c]) /\ Below w.heap.size w w' /\ Gp w' none none a [] [] (newO rows) F /\ ∀ x ∈ F, w.heap.size <= x := by
 cases hx : inB rows 1 4
 . have hF : Hid (newO rows = []) := by show _ = _; simp [newO, hx]
   go_enter Tryz.func156, Tryz.ntmps156
   go_wp2_with (go_at_call 44; refine (within_any _ _ _ _).mono ?_; rw [hx]; rintro e w1 ⟨rfl, rfl⟩)
   refine bodyPost_ret (v := .agg #[.int .i64 0, .slice none 0 0, .slice none 0 0, .slice none 0 0]) (by simp [results, Tryz.results156, go_sem]) rfl ?_
   rw [hF.out]
   exact ⟨none, 0, [], rfl, by repeat (first | exact Below.refl _ _ | assumption | refine via0 (by assumption) ?_ | refine Below.drew ?_ | refine Qaa ?_ _), ⟨[], [], [], rfl, Sl.nil _ _, Sl.nil _ _, Sl.nil _ _, by simp⟩, by simp⟩
 . obtain ⟨h1, h4⟩ : 1 <= rows /\ rows <= 4 := by simpa [inB] using hx
   obtain ⟨n, rfl⟩ : ∃ n : Nat, rows = n := ⟨rows.toNat, by omega⟩
   have hF : Hid (newO (n : Int) = List.replicate n 0) := by show _ = _; simp [newO, hx]
   have hmk := Qbk (P := Tryz.prog) Tryz.underlying30 Qcp (by omega) n (by omega)
   go_enter Tryz.func156, Tryz.ntmps156
   go_wp2_with (go_at_call 44; refine (within_any _ _ _ _).mono ?_; rw [hx]; rintro e w1 ⟨rfl, rfl⟩)
   refine bodyPost_ret (v := .agg #[.int .i64 0, .slice none 0 0, .slice none 0 0, .slice (some ⟨w.heap.size + 1, 0, none⟩) n n]) (by simp [results, Tryz.results156, go_sem]) rfl ?_
   rw [hF.out]
   refine ⟨some ⟨w.heap.size + 1, 0, none⟩, n, [w.heap.size + 1], by simp, by repeat (first | exact Below.refl _ _ | assumption | refine via0 (by assumption) ?_ | refine Below.drew ?_ | refine Qaa ?_ _), ⟨[], [], [w.heap.size + 1], rfl, Sl.nil _ _, Sl.nil _ _, .inr ⟨w.heap.size + 1, 0, rfl, rfl, by simp, ?_, ?_⟩, by simp⟩, by simp⟩
   . have := made_in (w.alloc (.cells #[.int .i64 0, .slice none 0 0, .slice none 0 0, .slice (some ⟨w.heap.size + 1, 0, none⟩) n n] 75)) n 3
     rwa [World.size_alloc] at this
   . have := Qdg (w.alloc (.cells #[.int .i64 0, .slice none 0 0, .slice none 0 0, .slice (some ⟨w.heap.size + 1, 0, none⟩) n n] 75)) #[Value.int .i64 0] n 1 3
     rw [World.size_alloc, Nat.mul_one] at this
     rw [List.length_replicate]
     show World.there _ _ _ (n * 1)
     rw [Nat.mul_one]
     exact this
end Go.Proofs.YtlcjaabnfdnfmaaGreatDoor.Gen
namespace Go.Proofs.YtlcjaabnfdnfmaaGreatDoor.Gen
open ChangeShapes WideShapes ChangeAt RowKit Joins Deep Base
section
variable {α : Type} [Cel α]
structure Md (W : World) (b : Nat) (l : List α) : Prop where
  lt : b < W.heap.size
  lst : In W b 0 l
  th : W.there b 0 (l.length * Cel.k α)
theorem Md.offp {S : Nat -> Prop} {W W' : World} {b : Nat} {l : List α} (h : Md W b l) (k : Offp S W W') (hb : ¬ S b) : Md W' b l := ⟨Nat.lt_of_lt_of_le h.lt k.size, h.lst.offp k h.lt hb, Qcq h.th k h.lt hb⟩
theorem Md.below {W W' : World} {b : Nat} {l : List α} (h : Md W b l) (g : Below W.heap.size W W') : Md W' b l := h.offp (Offp.of_below (S := fun _ => False) g) (fun e => e)
theorem Qfb (hk : 0 < Cel.k α) (W : World) (z : α) (cs : Array Value) (hcs : cs.toList = Cel.cs z) (n : Nat) (t : TypeId) : Md (W.alloc (.cells (madeCells cs (n * Cel.k α)) t)) W.heap.size (List.replicate n z) := by
 have hsz : cs.size = Cel.k α := by rw [← Array.length_toList, hcs, Cel.len]
 refine ⟨by simp, ?_, ?_⟩
 . intro j v hv
   have hj : j < n * Cel.k α := by have := (List.getElem?_eq_some_iff.1 hv).1; rwa [Qap, List.length_replicate] at this
   have hd : j / Cel.k α * Cel.k α + j % Cel.k α = j := by rw [Nat.mul_comm]; exact Nat.div_add_mod j _
   have hq : j / Cel.k α < n := (Nat.div_lt_iff_lt_mul hk).2 hj
   have hr : j % Cel.k α < Cel.k α := Nat.mod_lt _ hk
   have h2 := Qd3 (List.replicate n z) (j / Cel.k α) (by simpa using hq) (j % Cel.k α) hr
   rw [hd, hv] at h2
   simp only [List.getElem_replicate] at h2
   rw [← hcs, Array.getElem?_toList] at h2
   rw [Nat.zero_add]
   refine (Blk.new W t (madeCells cs (n * Cel.k α))).cell ?_
   simp only [madeCells, Array.getElem?_map, Array.getElem?_range, hj, if_true, Option.map_some, hsz]
   rw [getElem!_def, ← h2]
 . rw [List.length_replicate]; exact Qdg W cs n _ t
end
def zRC : RC := ⟨0, 0, none, 0, []⟩
def zAn : An := ⟨0, 0, ⟨#[]⟩, ⟨#[]⟩⟩
def upd (o : Nat -> Option Nat) (i b : Nat) : Nat -> Option Nat := fun j => if j = i then some b else o j
structure KR (w W : World) (ro wi le ke : Int) (n : Nat) (V : Array Value) (o : Nat -> Option Nat) : Prop where
  bl : Below w.heap.size w W
  b1 : Blk W w.heap.size 45 #[.int .i64 ro, .int .i64 wi, .int .i64 le, .int .i64 ke]
  b2 : Blk W (w.heap.size + 1) 33 #[.slice none 0 0, .slice none 0 0, .slice none 0 0, .int .i64 0, .slice none 0 0, .slice none 0 0]
  at' : ∀ i b, o i = some b -> w.heap.size + 2 <= b /\ b < W.heap.size
  ne : ∀ i j b, o i = some b -> o j = some b -> i = j
  r : ∀ b, o 0 = some b -> Md W b (List.replicate n zRC)
  d : ∀ b, o 1 = some b -> Md W b (List.replicate 4 (0 : Int))
  l : ∀ b, o 2 = some b -> Md W b (List.replicate 4 zAn)
  g : ∀ b, o 3 = some b -> Blk W b 33 V
section
variable {w W : World} {ro wi le ke : Int} {n : Nat} {V : Array Value} {o : Nat -> Option Nat}
theorem KR.new (h : KR w W ro wi le ke n V o) (i : Nat) (ob : Obj)
 (hr : i = 0 -> Md (W.alloc ob) W.heap.size (List.replicate n zRC)) (hd : i = 1 -> Md (W.alloc ob) W.heap.size (List.replicate 4 (0 : Int))) (hl : i = 2 -> Md (W.alloc ob) W.heap.size (List.replicate 4 zAn)) (hg : i = 3 -> Blk (W.alloc ob) W.heap.size 33 V) :
 KR w (W.alloc ob) ro wi le ke n V (upd o i W.heap.size) := by
 have g : Below W.heap.size W (W.alloc ob) := Qaa (Below.refl _ _) ob
 have hs : w.heap.size + 2 <= W.heap.size := h.b2.lt
 have hcase : ∀ j b, upd o i W.heap.size j = some b -> (j = i /\ b = W.heap.size) ∨ (j ≠ i /\ o j = some b) := fun j b e => by
  unfold upd at e
  split at e
  . next h1 => cases e; exact .inl ⟨h1, rfl⟩
  . next h1 => exact .inr ⟨h1, e⟩
 refine ⟨Qaa h.bl _, h.b1.alloc _, h.b2.alloc _, ?_, ?_, ?_, ?_, ?_, ?_⟩
 . intro j b e
   rcases hcase j b e with ⟨_, rfl⟩ | ⟨_, e⟩
   . exact ⟨hs, by simp⟩
   . have := h.at' j b e; exact ⟨this.1, by simp; omega⟩
 . intro j k b e1 e2
   rcases hcase j b e1 with ⟨h1, h2⟩ | ⟨h1, e1⟩<;>rcases hcase k b e2 with ⟨h3, h4⟩ | ⟨h3, e2⟩
   . omega
   . have := (h.at' k b e2).2; omega
   . have := (h.at' j b e1).2; omega
   . exact h.ne j k b e1 e2
 . intro b e
   rcases hcase 0 b e with ⟨h1, rfl⟩ | ⟨_, e⟩
   . exact hr h1.symm
   . exact (h.r b e).below g
 . intro b e
   rcases hcase 1 b e with ⟨h1, rfl⟩ | ⟨_, e⟩
   . exact hd h1.symm
   . exact (h.d b e).below g
 . intro b e
   rcases hcase 2 b e with ⟨h1, rfl⟩ | ⟨_, e⟩
   . exact hl h1.symm
   . exact (h.l b e).below g
 . intro b e
   rcases hcase 3 b e with ⟨h1, rfl⟩ | ⟨_, e⟩
   . exact hg h1.symm
   . exact (h.g b e).alloc _
theorem KR.new0 (h : KR w W ro wi le ke n V o) (b : Nat) (hb : W.heap.size = b) : KR w (W.alloc (.cells (madeCells #[.int .i64 0, .int .i64 0, .slice none 0 0] (n * 3)) 118)) ro wi le ke n V (upd o 0 b) := by
 subst hb
 exact h.new 0 _ (fun _ => Qfb (α := RC) (by decide) W zRC #[.int .i64 0, .int .i64 0, .slice none 0 0] rfl n _) (fun e => by cases e) (fun e => by cases e) (fun e => by cases e)
theorem KR.new1 (h : KR w W ro wi le ke n V o) (b : Nat) (hb : W.heap.size = b) : KR w (W.alloc (.cells (madeCells #[.int .i64 0] 4) 3)) ro wi le ke n V (upd o 1 b) := by
 subst hb
 exact h.new 1 _ (fun e => by cases e) (fun _ => Qfb (α := Int) (by decide) W 0 #[.int .i64 0] rfl 4 _) (fun e => by cases e) (fun e => by cases e)
theorem KR.new2 (h : KR w W ro wi le ke n V o) (b : Nat) (hb : W.heap.size = b) : KR w (W.alloc (.cells (madeCells #[.int .i64 0, .int .i64 0, .string ⟨#[]⟩, .string ⟨#[]⟩] 16) 122)) ro wi le ke n V (upd o 2 b) := by
 subst hb
 exact h.new 2 _ (fun e => by cases e) (fun e => by cases e) (fun _ => Qfb (α := An) (by decide) W zAn #[.int .i64 0, .int .i64 0, .string ⟨#[]⟩, .string ⟨#[]⟩] rfl 4 _) (fun e => by cases e)
theorem KR.new3 (h : KR w W ro wi le ke n V o) (b : Nat) (hb : W.heap.size = b) : KR w (W.alloc (.cells V 33)) ro wi le ke n V (upd o 3 b) := by
 subst hb
 exact h.new 3 _ (fun e => by cases e) (fun e => by cases e) (fun e => by cases e) (fun _ => Blk.new W _ _)
end
structure KN (w W : World) (ro wi le ke : Int) (n g bR bD bL Q : Nat) (gv : Value) : Prop where
  bl : Below w.heap.size w W
  b1 : Blk W w.heap.size 45 #[.int .i64 ro, .int .i64 wi, .int .i64 le, .int .i64 ke]
  b2 : Blk W (w.heap.size + 1) 33 #[.slice none 0 0, .slice none 0 0, .slice none 0 0, .int .i64 0, .slice none 0 0, .slice none 0 0]
  bg : Blk W g 33 #[.slice (some ⟨bR, 0, none⟩) n n, .slice none 0 0, gv, .int .i64 0, .slice (some ⟨bD, 0, none⟩) 4 4, .slice (some ⟨bL, 0, none⟩) 4 4]
  g0 : w.heap.size + 2 <= g /\ g < Q
  r0 : w.heap.size + 2 <= bR /\ bR < Q
  d0 : w.heap.size + 2 <= bD /\ bD < Q
  l0 : w.heap.size + 2 <= bL /\ bL < Q
  nes : g ≠ bR /\ g ≠ bD /\ g ≠ bL /\ bR ≠ bD /\ bR ≠ bL /\ bD ≠ bL
  r : Md W bR (List.replicate n zRC)
  d : Md W bD (List.replicate 4 (0 : Int))
  l : Md W bL (List.replicate 4 zAn)
section
variable {w W W' : World} {ro wi le ke : Int} {n g bR bD bL Q : Nat} {gv : Value}
theorem KN.offp (h : KN w W ro wi le ke n g bR bD bL Q gv) {S : Nat -> Prop} (k : Offp S W W') (hS : ∀ x, S x -> Q <= x) : KN w W' ro wi le ke n g bR bD bL Q gv := by
 have h0 := h.g0; have h1 := h.r0; have h2 := h.d0; have h3 := h.l0
 have hb : ∀ x, x < Q -> ¬ S x := fun x hx e => by have := hS x e; omega
 exact ⟨h.bl.trans (k.toBelow (fun x hx => by have := hS x hx; omega) h.bl.size), h.b1.offp k (hb _ (by omega)), h.b2.offp k (hb _ (by omega)), h.bg.offp k (hb _ (by omega)), h0, h1, h2, h3, h.nes, h.r.offp k (hb _ (by omega)), h.d.offp k (hb _ (by omega)), h.l.offp k (hb _ (by omega))⟩
theorem KN.below (h : KN w W ro wi le ke n g bR bD bL Q gv) (k : Below W.heap.size W W') : KN w W' ro wi le ke n g bR bD bL Q gv := h.offp (Offp.of_below (S := fun _ => False) k) (fun x e => e.elim)
theorem KN.set (h : KN w W ro wi le ke n g bR bD bL Q gv) (v : Value) : KN w (W.setCell ⟨g, 2, none⟩ v) ro wi le ke n g bR bD bL Q v := by
 have h0 := h.g0; have h1 := h.r0; have h2 := h.d0; have h3 := h.l0
 obtain ⟨n1, n2, n3, n4, n5, n6⟩ := h.nes
 have k : Offp (fun x => x = g) W (W.setCell ⟨g, 2, none⟩ v) := Offp.of_only ((Only.refl g W).set 2 v)
 exact ⟨h.bl.trans (k.toBelow (fun x hx => by omega) h.bl.size), h.b1.offp k (by omega), h.b2.offp k (by omega), h.bg.setAt 2 v, h0, h1, h2, h3, ⟨n1, n2, n3, n4, n5, n6⟩, h.r.offp k (fun e => n1 e.symm), h.d.offp k (fun e => n2 e.symm), h.l.offp k (fun e => n3 e.symm)⟩
theorem KR.done {o : Nat -> Option Nat} (h : KR w W ro wi le ke n #[.slice (some ⟨bR, 0, none⟩) n n, .slice none 0 0, gv, .int .i64 0, .slice (some ⟨bD, 0, none⟩) 4 4, .slice (some ⟨bL, 0, none⟩) 4 4] o) (e0 : o 0 = some bR) (e1 : o 1 = some bD) (e2 : o 2 = some bL) (e3 : o 3 = some g) : KN w W ro wi le ke n g bR bD bL W.heap.size gv := by
 have nR : bR ≠ g := fun e => by subst e; have := h.ne 0 3 _ e0 e3; omega
 have nD : bD ≠ g := fun e => by subst e; have := h.ne 1 3 _ e1 e3; omega
 have nL : bL ≠ g := fun e => by subst e; have := h.ne 2 3 _ e2 e3; omega
 exact ⟨h.bl, h.b1, h.b2, h.g g e3, h.at' 3 g e3, h.at' 0 bR e0, h.at' 1 bD e1, h.at' 2 bL e2,
  ⟨nR.symm, nD.symm, nL.symm, fun e => by subst e; have := h.ne 0 1 _ e0 e1; omega, fun e => by subst e; have := h.ne 0 2 _ e0 e2; omega, fun e => by subst e; have := h.ne 1 2 _ e1 e2; omega⟩,
  h.r bR e0, h.d bD e1, h.l bL e2⟩
end
structure GL (W : World) (ro : Int) (Q : Nat) (gv : Value) (gs : List GC) (fp : Nat -> Nat -> Prop) : Prop where
  own : W.ownsRow Q 75 4 gv gs.length (flat gs)
  sub : ∀ (i : Nat) (h : i < gs.length), grpP W gs[i] (fp i)
  is : ∀ x ∈ gs, x.p = ⟨0, [], [], newO ro⟩
  lo : ∀ i x, fp i x -> i < gs.length /\ Q <= x /\ x < W.heap.size /\ gv.ownBlock ≠ some x
  dis : ∀ i j, i ≠ j -> ∀ x, fp i x -> ¬ fp j x
  q : Q <= W.heap.size
theorem GL.nil (W : World) (ro : Int) (Q : Nat) (hq : Q <= W.heap.size) : GL W ro Q (.slice none 0 0) [] (fun _ _ => False) :=
 ⟨World.ownsRow_nil _ _ _ _, fun i h => by simp at h, by simp, fun _ _ h => h.elim, fun _ _ _ _ h => h.elim, hq⟩
theorem GL.offp {W W' : World} {ro : Int} {Q : Nat} {gv : Value} {gs : List GC} {fp : Nat -> Nat -> Prop} {S : Nat -> Prop} (h : GL W ro Q gv gs fp) (k : Offp S W W') (hd : ∀ x, Q <= x -> ¬ S x) : GL W' ro Q gv gs fp :=
 ⟨Qct h.own k (fun x hx => hd x (h.own.lt x hx).1), fun i hi => Qar _ _ _ _ _ (h.sub i hi) k (fun x hx => hd x (h.lo i x hx).2.1), h.is, fun i x hx => by have := h.lo i x hx; have := k.size; exact ⟨by omega, by omega, by omega, (h.lo i x hx).2.2.2⟩, h.dis, Nat.le_trans h.q k.size⟩
theorem GL.below {W W' : World} {ro : Int} {Q : Nat} {gv : Value} {gs : List GC} {fp : Nat -> Nat -> Prop} (h : GL W ro Q gv gs fp) (k : Below W.heap.size W W') : GL W' ro Q gv gs fp := h.offp (Offp.of_below (S := fun _ => False) k) (fun _ _ e => e)
theorem GL.snoc {W0 W1 W2 : World} {ro : Int} {Q : Nat} {gv : Value} {gs : List GC} {fp : Nat -> Nat -> Prop} (h : GL W0 ro Q gv gs fp) (k : Below W0.heap.size W0 W1) {x : GC} {S : Nat -> Prop} (hx : grpP W1 x S) (hp : x.p = ⟨0, [], [], newO ro⟩) (hS : ∀ b, S b -> W0.heap.size <= b /\ b < W1.heap.size)
 {gv' : Value} (ho : W2.ownsRow Q 75 4 gv' (gs.length + 1) (flat (gs ++ [x]))) (hg : W1.grownBy W2 gv.ownBlock) (hat : gv'.ownBlock = gv.ownBlock ∨ gv'.ownBlock = some W1.heap.size) :
 GL W2 ro Q gv' (gs ++ [x]) (fun i => if i = gs.length then S else fp i) := by
 have kp := Qcc hg
 have hk := k.size
 have hlt : ∀ b, gv.ownBlock = some b -> b < W0.heap.size := fun b hb => (h.own.lt b hb).2
 refine ⟨by rw [List.length_append]; exact ho, ?_, ?_, ?_, ?_, by have := h.q; have := hg.size; omega⟩
 . intro i hi
   by_cases e : i = gs.length
   . subst e
     simp only [if_true]
     rw [List.getElem_append_right (Nat.le_refl _)]
     simp only [Nat.sub_self, List.getElem_cons_zero]
     exact Qar _ _ _ _ _ hx kp (fun b hb e => by have := hlt b e; have := (hS b hb).1; omega)
   . have hi' : i < gs.length := by simp at hi; omega
     simp only [if_neg e]
     rw [List.getElem_append_left hi']
     exact Qar _ _ _ _ _ (Qar _ _ _ _ (fun _ => False) (h.sub i hi') (Offp.of_below k) (fun _ _ e => e)) kp (fun b hb e => (h.lo i b hb).2.2.2 e)
 . intro y hy
   rcases List.mem_append.1 hy with hy | hy
   . exact h.is y hy
   . simp only [List.mem_singleton] at hy; subst hy; exact hp
 . intro i b hb
   have hs := hg.size
   by_cases e : i = gs.length
   . simp only [if_pos e] at hb
     have h1 := hS b hb
     have h2 := h.q
     refine ⟨by simp; omega, by omega, by omega, fun e2 => ?_⟩
     rcases hat with h3 | h3
     . have := hlt b (h3 ▸ e2); omega
     . rw [h3] at e2; cases e2; omega
   . simp only [if_neg e] at hb
     have h1 := h.lo i b hb
     refine ⟨by simp; omega, by omega, by omega, fun e2 => ?_⟩
     rcases hat with h3 | h3
     . exact h1.2.2.2 (h3 ▸ e2)
     . rw [h3] at e2; cases e2; omega
 . intro i j hij b hb hb'
   by_cases e1 : i = gs.length
   . have e2 : j ≠ gs.length := by omega
     simp only [if_pos e1] at hb
     simp only [if_neg e2] at hb'
     have := (hS b hb).1; have := (h.lo j b hb').2.2.1; omega
   . by_cases e2 : j = gs.length
     . simp only [if_neg e1] at hb
       simp only [if_pos e2] at hb'
       have := (hS b hb').1; have := (h.lo i b hb).2.2.1; omega
     . simp only [if_neg e1] at hb
       simp only [if_neg e2] at hb'
       exact h.dis i j hij b hb hb'
def newK (ok : Bool) (ro : Int) : PK := if ok then ⟨List.replicate ro.toNat ⟨0, 0, []⟩, [], List.replicate 2 ⟨0, [], [], newO ro⟩, 0, List.replicate 4 0, List.replicate 4 zAn⟩ else ⟨[], [], [], 0, [], []⟩
def ToldK (w w' : World) (e : Ending) (c : PK) : Prop := ∃ y : KC, e = .returned (.agg y.cells) /\ y.p = c /\ KOwn w' y (fun b => w.heap.size <= b /\ b < w'.heap.size) /\ Below w.heap.size w w'
theorem Qgk {w w' : World} {ro : Int} (g : Below w.heap.size w w') : ToldK w w' (.returned (.agg #[.slice none 0 0, .slice none 0 0, .slice none 0 0, .int .i64 0, .slice none 0 0, .slice none 0 0])) (newK false ro) :=
 ⟨⟨none, 0, [], none, 0, [], none, 0, [], 0, none, 0, [], none, 0, []⟩, rfl, rfl, ⟨fun _ => 0, .inl rfl, .inl rfl, .inl rfl, .inl rfl, .inl rfl⟩, g⟩
theorem Qhv {w W W' : World} {ro wi le ke : Int} {n g bR bD bL Q : Nat} {a : Option Addr} {c : Nat} {gs : List GC} {fp : Nat -> Nat -> Prop} (hn : ro = n) (h : KN w W ro wi le ke n g bR bD bL Q (.slice a 2 c)) (hG : GL W ro Q (.slice a 2 c) gs fp) (hl : gs.length = 2) (k : Offp (fun x => x = w.heap.size + 1) W W') :
 ToldK w W' (.returned (.agg #[.slice (some ⟨bR, 0, none⟩) n n, .slice none 0 0, .slice a 2 c, .int .i64 0, .slice (some ⟨bD, 0, none⟩) 4 4, .slice (some ⟨bL, 0, none⟩) 4 4])) (newK true ro) := by
 have h0 := h.g0; have h1 := h.r0; have h2 := h.d0; have h3 := h.l0
 obtain ⟨n1, n2, n3, n4, n5, n6⟩ := h.nes
 have hB : Below w.heap.size w W' := h.bl.trans (k.toBelow (fun x hx => by omega) h.bl.size)
 have hG' := hG.offp k (fun x hx e => by omega)
 have hR := h.r.offp k (by omega)
 have hD := h.d.offp k (by omega)
 have hL := h.l.offp k (by omega)
 have hf : Fresh Q W' (.slice a 2 c) gs := Qjc hl.symm (by have := hG'.own; rw [hl] at this; exact this)
 obtain ⟨a', c', e, hc, hfr⟩ := hf
 rw [hl] at e
 cases e
 have hrl : (List.replicate n zRC).length = n := by simp
 refine ⟨⟨some ⟨bR, 0, none⟩, n, List.replicate n zRC, none, 0, [], a, c, gs, 0, some ⟨bD, 0, none⟩, 4, List.replicate 4 0, some ⟨bL, 0, none⟩, 4, List.replicate 4 zAn⟩, ?_, ?_, ?_, hB⟩
 . simp [KC.cells, hl]
 . simp only [KC.p, newK, if_true]
   subst hn
   congr 1
   . simp [zRC, RC.p]
   . refine List.eq_replicate_iff.2 ⟨by simpa using hl, fun y hy => ?_⟩
     obtain ⟨x, hx, rfl⟩ := List.mem_map.1 hy
     exact hG.is x hx
 . refine ⟨fun b => if b = bR then 1 else if b = bD then 4 else if b = bL then 5 else 3, ?_, .inl rfl, ?_, ?_, ?_⟩
   . refine .inr ⟨bR, 0, fun _ _ => False, rfl, ⟨⟨by omega, hR.lt⟩, by simp⟩, fun _ _ h => h.elim, ⟨hR.lt, hR.lst, hR.th, fun i hi => ?_, fun _ _ _ _ h => h.elim, fun _ h => h⟩⟩
     simp only [List.getElem_replicate]
     exact .inl rfl
   . rcases hfr with rfl | ⟨b, o, rfl, hQb, hbl, hin, hth⟩
     . simp at hl
     . refine .inr ⟨b, o, fp, rfl, ⟨⟨by omega, hbl⟩, by rw [if_neg (by omega), if_neg (by omega), if_neg (by omega)]⟩, fun i x hx => ?_, ⟨hbl, hin, hth, hG'.sub, hG'.dis, fun i hx => (hG'.lo i b hx).2.2.2 rfl⟩⟩
       have := hG'.lo i x hx
       exact ⟨⟨by omega, this.2.2.1⟩, by rw [if_neg (by omega), if_neg (by omega), if_neg (by omega)]⟩
   . exact .inr ⟨bD, 0, rfl, ⟨⟨by omega, hD.lt⟩, by simp only [if_neg (Ne.symm n4), if_true]⟩, hD.lt, hD.lst, hD.th⟩
   . exact .inr ⟨bL, 0, rfl, ⟨⟨by omega, hL.lt⟩, by simp only [if_neg (Ne.symm n5), if_neg (Ne.symm n6), if_true]⟩, hL.lt, hL.lst, hL.th⟩
theorem gp_new {w : World} {a : Option Addr} {c : Nat} {l : List Int} {F : List Nat} (h : Gp w none none a [] [] l F) : grpP w ⟨0, none, 0, [], none, 0, [], a, c, l⟩ (fun x => x ∈ F) := by
 obtain ⟨F1, F2, F3, rfl, s1, s2, s3, nd⟩ := h
 refine ⟨fun _ => False, fun _ => False, fun x => x ∈ F3, fun _ h => h.elim, fun _ h => h.elim, fun x hx => by simp [hx], fun _ h => h.elim, fun _ h => h.elim, fun _ h => h.elim, .inl rfl, .inl rfl, ?_⟩
 rcases s3 with ⟨h, _⟩ | ⟨b, o, rfl, rfl, hb, hi, ht⟩
 . exact .inl h
 . exact .inr ⟨b, o, rfl, by simp, hb, hi, ht⟩
theorem one_in (w : World) (x : GC) (t : TypeId) : In (w.alloc (.cells (Cel.cs x).toArray t)) w.heap.size 0 [x] := by
 intro j v hv
 rw [Qbp] at hv
 rw [Nat.zero_add]
 exact (Blk.new w t _).cell (by simpa using hv)
end Go.Proofs.YtlcjaabnfdnfmaaGreatDoor.Gen
