/-
  A list that grows, each record in blocks of its own: no condition.
-/
import Derived.Test.YtmdaammalacifaaGreatKeepP
set_option linter.unusedVariables false
set_option linter.unusedSimpArgs false
set_option maxRecDepth 100000
set_option maxHeartbeats 8000000
namespace Go.Proofs.YtmdaammalacifaaGreat.Gen
open ChangeShapes WideShapes ChangeAt RowKit Joins Deep Base
structure GU {α : Type} [Cel α] (P : World -> α -> (Nat -> Prop) -> Prop) (t : TypeId) (b B : Nat) (W : World) (a : Option Addr) (cp : Nat) (xs : List α) : Prop where
  own : W.ownsRow B t (Cel.k α) (.slice a xs.length cp) xs.length (flat xs)
  fps : ∃ fp : Nat -> Nat -> Prop, (∀ (i : Nat) (h : i < xs.length), P W xs[i] (fp i)) /\ (∀ i j, i ≠ j -> ∀ x, fp i x -> ¬ fp j x) /\ ∀ i x, fp i x -> i < xs.length /\ B <= x /\ x < W.heap.size /\ (Value.slice a xs.length cp).ownBlock ≠ some x
  hb : b <= B
  hB : B <= W.heap.size
section
variable {α : Type} [Cel α] {P : World -> α -> (Nat -> Prop) -> Prop} {t : TypeId} {b B : Nat} {W W1 : World} {a : Option Addr} {cp : Nat} {xs : List α}
theorem GU.start (hb : b <= B) (hB : B <= W.heap.size) : GU (α := α) P t b B W none 0 [] :=
 ⟨World.ownsRow_nil _ _ _ _, ⟨fun _ _ => False, fun i h => by simp at h, fun _ _ _ _ h => h.elim, fun _ _ h => h.elim⟩, hb, hB⟩
theorem GU.offp (hP : Firm P) (h : GU P t b B W a cp xs) {T : Nat -> Prop} (k : Offp T W W1) (hT : ∀ x, T x -> x < b) : GU P t b B W1 a cp xs := by
 obtain ⟨own, ⟨fp, f1, f2, f3⟩, hb, hB⟩ := h
 exact ⟨Qcg own k (fun y hy e => by have := (own.lt y hy).1; have := hT y e; omega), ⟨fp, fun i hi => hP _ _ _ _ _ (f1 i hi) k (fun y hy e => by have := (f3 i y hy).2.1; have := hT y e; omega), f2, fun i x hx => ⟨(f3 i x hx).1, (f3 i x hx).2.1, Nat.lt_of_lt_of_le (f3 i x hx).2.2.1 k.size, (f3 i x hx).2.2.2⟩⟩, hb, Nat.le_trans hB k.size⟩
theorem GU.app (hP : Firm P) {pg : Program} {ts : TypeId} {z : Value} {bytes : Nat} (hu : pg.underlying ts = some (.slice t)) (hinfo : (pg.info? t).map (fun i => (i.zero, i.size, i.bytes)) = some (some z, Cel.k α, bytes)) (hz : z.cells.size = Cel.k α) (hk : 0 < Cel.k α) (hby : bytes <= 1000)
 (h : GU P t b B W a cp xs) {T : Nat -> Prop} (k : Offp T W W1) (hT : ∀ x, T x -> x < b) (x : α) {S : Nat -> Prop} (hy : P W1 x S) (hS : ∀ y, S y -> W.heap.size <= y /\ y < W1.heap.size) (cs : Array Value) (hcs : cs.toList = Cel.cs x) (hx : xs.length <= 2000000) :
 ∃ a2 c2 W2, (Builtin.append_ #[ts, ts] ts #[.slice a xs.length cp, .slice (some ⟨W1.heap.size, 0, none⟩) 1 1]).run pg (W1.alloc (.cells cs t)) = .ok (.slice a2 (xs.length + 1) c2) W2 /\ GU P t b B W2 a2 c2 (xs ++ [x]) /\ Offp (fun y => B <= y) (W1.alloc (.cells cs t)) W2 := by
 have h0 := h.offp hP k hT
 have hws := k.size
 have hown0 := h.own
 have hBW := h.hB
 have hfp0 := h.fps
 obtain ⟨own0, ⟨fp, f1, f2, f3'⟩, hb, hB⟩ := h0
 have f3 : ∀ i x, fp i x -> i < xs.length /\ B <= x /\ x < W1.heap.size /\ (Value.slice a xs.length cp).ownBlock ≠ some x := f3'
 have own1 := Qbn own0 (.cells cs t)
 have hX : At (W1.alloc (.cells cs t)) (some ⟨W1.heap.size, 0, none⟩) [x] := by
  refine .inr ⟨_, 0, rfl, by simp, fun j u hu => ?_⟩
  rw [Qbe, ← hcs] at hu
  rw [Nat.zero_add]
  exact (Blk.new W1 t cs).cell (by simpa using hu)
 obtain ⟨v', W2, hr, hown, hgrow, hob⟩ := Qa0 (P := pg) hu hinfo hz hk hby B (.slice a xs.length cp) xs [x] (some ⟨W1.heap.size, 0, none⟩) 1 _ (by simp; omega) own1 hX (by simp; omega)
 simp only [List.length_cons, List.length_nil, Nat.zero_add] at hown hr
 obtain ⟨a2, c2, rfl, _⟩ := Qar hown
 have ko := Qcv hgrow
 have hs2 : W1.heap.size + 1 <= W2.heap.size := by have := ko.size; simpa using this
 have hS' : ∀ y, (Value.slice a xs.length cp).ownBlock = some y -> B <= y /\ y < W.heap.size := fun y hy => hown0.lt y hy
 have kb : Offp (fun _ => False) W1 (W1.alloc (.cells cs t)) := Offp.of_below (Qab (Below.refl _ _) _)
 obtain ⟨fq, q1, q2, q3⟩ := hfp0
 refine ⟨a2, c2, W2, hr, ⟨by rw [List.length_append]; exact hown, ⟨fun i => if i = xs.length then S else fq i, ?_, ?_, ?_⟩, hb, by omega⟩, ko.mono (fun y e => (hS' y e).1)⟩
 . intro i hi
   by_cases e : i = xs.length
   . subst e
     simp only [if_true]
     rw [List.getElem_append_right (Nat.le_refl _)]
     simp only [Nat.sub_self, List.getElem_cons_zero]
     exact hP _ _ _ _ _ (hP _ _ _ _ _ hy kb (fun _ _ e => e)) ko (fun y hy e => by have := (hS y hy).1; have := (hS' y e).2; omega)
   . have hi' : i < xs.length := by simp at hi; omega
     simp only [if_neg e]
     rw [List.getElem_append_left hi']
     exact hP _ _ _ _ _ (hP _ _ _ _ _ (hP _ _ _ _ _ (q1 i hi') k (fun y hy e => by have := (q3 i y hy).2.1; have := hT y e; omega)) kb (fun _ _ e => e)) ko (fun y hy e => (q3 i y hy).2.2.2 e)
 . intro i j hij y hy' hy2
   by_cases e1 : i = xs.length
   . by_cases e2 : j = xs.length
     . omega
     . simp only [if_pos e1] at hy'
       simp only [if_neg e2] at hy2
       have := (hS y hy').1
       have := (q3 j y hy2).2.2.1
       omega
   . by_cases e2 : j = xs.length
     . simp only [if_neg e1] at hy'
       simp only [if_pos e2] at hy2
       have := (hS y hy2).1
       have := (q3 i y hy').2.2.1
       omega
     . simp only [if_neg e1] at hy'
       simp only [if_neg e2] at hy2
       exact q2 i j hij y hy' hy2
 . intro i y hy'
   have hob' : ∀ y, (Value.slice a xs.length cp).ownBlock ≠ some y -> y < W1.heap.size -> (Value.slice a2 (xs ++ [x]).length c2).ownBlock ≠ some y := by
    intro y hn hlt e
    rw [List.length_append] at e
    have e2 : (Value.slice a2 (xs.length + 1) c2).ownBlock = some y := e
    rcases hob with h' | h'
    . exact hn (h' ▸ e2)
    . rw [h'] at e2
      simp only [World.size_alloc, Option.some.injEq] at e2
      omega
   by_cases e1 : i = xs.length
   . simp only [if_pos e1] at hy'
     have hh := hS y hy'
     exact ⟨by simp; omega, by have := hown0; omega, by omega, hob' y (fun e => by have := (hS' y e).2; omega) hh.2⟩
   . simp only [if_neg e1] at hy'
     have hh := q3 i y hy'
     exact ⟨by simp; omega, hh.2.1, by omega, hob' y hh.2.2.2 (by omega)⟩
theorem GU.toOwn (h : GU P t b B W a cp xs) : Own P W a xs (fun b => B <= b /\ b < W.heap.size) := by
 obtain ⟨own, ⟨fp, f1, f2, f3⟩, hb, hB⟩ := h
 rcases Qbk own with e | ⟨b, o, e, hb, hlt, hi, ht⟩
 . exact .inl e
 . refine .inr ⟨b, o, fp, e, hb, fun i x hx => ⟨(f3 i x hx).2.1, (f3 i x hx).2.2.1⟩, ⟨hlt, hi, ht, f1, f2, fun i hx => (f3 i b hx).2.2.2 ?_⟩⟩
   rw [e]
   rfl
end
end Go.Proofs.YtmdaammalacifaaGreat.Gen
namespace Go.Proofs.YtmdaammalacifaaGreat.Gen
open ChangeShapes WideShapes ChangeAt RowKit Joins Deep Base
structure Mb where
  who : Int
  beat : Int
  has : Bool
instance : Inhabited Mb := ⟨⟨0, 0, false⟩⟩
instance : Cel Mb where
  k := 3
  cs x := [.int .i64 x.who, .int .i64 x.beat, .bool x.has]
  len _ := rfl
  one x u hu := by simp at hu; rcases hu with rfl | rfl | rfl<;>rfl
end Go.Proofs.YtmdaammalacifaaGreat.Gen
namespace Go.Proofs.YtmdaammalacifaaGreat.Gen
section
variable {P : Program} {ops : Array Oper} {Q : Exit -> Act -> World -> Prop} {md : Region.Mode} {S : World -> Prop} {z : Nat}
def Qdn (md : Region.Mode) (ops : Array Oper) (z i : Nat) : Bool :=
  match ops[z]? with
  | none => false
  | some o => o.after.any fun e => Region.binds md e && e.on == i
theorem not_before {i : Nat} {L : Array Bool} (hz : Qdn md ops z i = true) (hi : i ∈ Region.ready md ops L) : z ∉ Region.ready md ops L := fun h => by
 obtain ⟨hu, oi, hoi, _⟩ := mem_ready.1 hi
 obtain ⟨_, oz, hoz, hall⟩ := mem_ready.1 h
 simp only [Qdn, hoz] at hz
 obtain ⟨e, he, hb⟩ := Array.any_eq_true'.1 hz
 simp only [Bool.and_eq_true, beq_iff_eq] at hb
 have h2 := hall e he hb.1
 rw [hb.2] at h2
 rcases Nat.lt_or_ge i L.size with h' | h'
 . simp [h'] at hu h2
   rw [hu] at h2; cases h2
 . simp [Array.getElem?_eq_none h'] at h2
theorem Qgc (L : Array Bool) (z : Nat) : (L.setIfInBounds z true).getD z true = true := by
 by_cases h : z < L.size
 . simp [h]
 . simp [h]
def Qbw (P : Program) (md : Region.Mode) (ops : Array Oper) (Q : Exit -> Act -> World -> Prop) (S : World -> Prop) (z : Nat) : Nat -> Array Bool -> Act -> World -> Prop
  | 0, L, a, w => Region.ready md ops L = [] /\ Q .normal a w
  | n + 1, L, a, w => (Region.ready md ops L = [] -> Q .normal a w) /\
    ∀ i ∈ Region.ready md ops L, wpOp P ops Q i (fun a' w' => ((L.setIfInBounds i true).getD z true = true ∨ S w') /\ Qbw P md ops Q S z n (L.setIfInBounds i true) a' w') a w
theorem Qhj (n : Nat) : ∀ (L : Array Bool) (a : Act) (w : World), Qbw P md ops Q S z n L a w -> wpAny P md ops Q n L a w := by
 induction n with
 | zero => exact fun _ _ _ h => h
 | succ n ih => exact fun L a w h => ⟨h.1, fun i hi => wpOp_mono (fun a' w' g => ih _ a' w' g.2) (h.2 i hi)⟩
theorem till_take {i : Nat} {oi : Oper} {v : Value} (hz : Qdn md ops z i = true) (hi : ops[i]? = some oi) (hs : Region.noSelect ops = true) (hQ : ∀ c a w, Q (.panic c) (a.put oi.dst v) w -> Q (.panic c) a w) (hiz : i ≠ z) (n : Nat) :
 ∀ (L : Array Bool) (a : Act) (w : World), L.getD z true = false -> Region.free md ops L i = true -> i ∈ Region.ready md ops L -> YieldsIf P ops S oi v a -> S w ->
  Qbw P md ops Q S z n (L.setIfInBounds i true) (a.put oi.dst v) w -> Qbw P md ops Q S z (n + 1) L a w := by
 have sel : ∀ (j : Nat) (o : Oper) cs b, ops[j]? = some o -> o.op ≠ .select cs b := Region.noSelect_spec hs
 suffices key : ∀ (L : Array Bool) (a : Act) (w : World), L.getD z true = false -> (∀ j oj, ops[j]? = some oj -> j ≠ i -> L.getD j true = false -> (∀ e ∈ oj.after, Region.binds md e = true -> e.on ≠ i) -> oi.apart ops oj = true) ->
  i ∈ Region.ready md ops L -> YieldsIf P ops S oi v a -> S w -> Qbw P md ops Q S z n (L.setIfInBounds i true) (a.put oi.dst v) w -> Qbw P md ops Q S z (n + 1) L a w from
  fun L a w h0 hf hr hy hS H => key L a w h0 (Region.free_spec hi hf) hr hy hS H
 induction n with
 | zero =>
  intro L a w _ _ hr hy hS H
  constructor
  . intro h; rw [h] at hr; exact absurd hr (List.not_mem_nil)
  . intro j hj
    rcases Decidable.em (j = i) with e | e
    . subst e; exact hy.wpOp hi hS ⟨.inr hS, H⟩
    . have g := ready_mono hj e
      rw [H.1] at g
      exact absurd g (List.not_mem_nil)
 | succ n ih =>
  intro L a w hL hfr hr hy hS H
  constructor
  . intro h; rw [h] at hr; exact absurd hr (List.not_mem_nil)
  . intro j hj
    rcases Decidable.em (j = i) with e | e
    . subst e; exact hy.wpOp hi hS ⟨.inr hS, H⟩
    . obtain ⟨hun, oj, hoj, hwait⟩ := mem_ready.1 hj
      have hjz : j ≠ z := fun h => by subst h; exact not_before hz hr hj
      have iun := (mem_ready.1 hr).1
      have hno : ∀ d ∈ oj.after, Region.binds md d = true -> d.on ≠ i := fun d hd hb q => by
       have g := hwait d hd hb
       rw [q] at g
       rcases Nat.lt_or_ge i L.size with k | k
       . simp [k] at iun g
         rw [iun] at g; cases g
       . simp [Array.getElem?_eq_none k] at g
      have step := wpOp_putIf hoj (hfr j oj hoj e hun hno) (fun cs b => sel i oi cs b hi) (fun cs b => sel j oj cs b hoj) hQ hy (H.2 j (ready_mono hj e))
      refine wpOp_mono (fun a' w' g => ?_) step
      have hL2 : (L.setIfInBounds j true).getD z true = false := by rw [getD_set_ne true hjz]; exact hL
      have hS' : S w' := g.2.1.resolve_left (by rw [getD_set_ne true hjz, getD_set_ne true hiz, hL]; decide)
      refine ⟨.inr hS', ih _ a' w' hL2 (fun k ok hk hki hu hn => ?_) (ready_mono hr (Ne.symm e)) g.1 hS' ?_⟩
      . refine hfr k ok hk hki ?_ hn
        rcases Decidable.em (j = k) with q | q
        . subst q; exact hun
        . rwa [getD_set_ne true q] at hu
      . have := g.2.2
        rwa [Array.setIfInBounds_comm _ _ (Ne.symm e)] at this
theorem Qce {i : Nat} {oi : Oper} {v : Value} {n : Nat} {L : Array Bool} {a : Act} {w : World} (hz : Qdn md ops z i = true) (hi : ops[i]? = some oi) (hs : Region.noSelect ops = true) (hiz : i ≠ z) (h0 : L.getD z true = false)
 (hf : Region.free md ops L i = true) (hr : (Region.ready md ops L).contains i = true) (hQ : ∀ c a w, Q (.panic c) (a.put oi.dst v) w -> Q (.panic c) a w) (hy : YieldsIf P ops S oi v a) (hS : S w)
 (h : Qbw P md ops Q S z n (L.setIfInBounds i true) (a.put oi.dst v) w) : Qbw P md ops Q S z (n + 1) L a w :=
 till_take hz hi hs hQ hiz n L a w h0 hf (by simpa using hr) hy hS h
theorem Qdv {i : Nat} {o : Oper} {n : Nat} {L : Array Bool} {a : Act} {w : World} (hr : Region.ready md ops L = [i]) (ho : ops[i]? = some o)
 (h : ∀ K' : Act -> World -> Prop, Shut (∀ a w, (i = z ∨ S w) -> Qbw P md ops Q S z n (L.setIfInBounds i true) a w -> K' a w) -> if Region.wanted o (yielded ops a.tmps) = true then Oper.wp P o a w K' Q else K' (a.put o.dst undef) w) :
 Qbw P md ops Q S z (n + 1) L a w := by
 refine ⟨fun h0 => (by rw [hr] at h0; cases h0), fun j hj => ?_⟩
 rw [hr] at hj
 obtain rfl : j = i := by simpa using hj
 exact wpOp_step ho (fun K' hK => h K' (fun a w h1 h2 => hK a w ⟨h1.imp (fun e => by subst e; exact Qgc _ _) id, h2⟩))
theorem till_done {L : Array Bool} {a : Act} {w : World} (hr : Region.ready md ops L = []) (h : Q .normal a w) : ∀ n, Qbw P md ops Q S z n L a w
 | 0 => ⟨hr, h⟩
 | n + 1 => ⟨fun _ => h, fun i hi => by rw [hr] at hi; exact absurd hi List.not_mem_nil⟩
theorem Qgr {id : Nat} {a : Act} {w : World} (z : Nat) (S : World -> Prop) (hm : P.follows .mixedOrders = true) (h : Qbw P .any ops Q S z ops.size (Array.replicate ops.size false) a w.drew) : (Code.region id ops true).wp P Q a w :=
 wp_region_any hm (Qhj _ _ _ _ h)
end
end Go.Proofs.YtmdaammalacifaaGreat.Gen
