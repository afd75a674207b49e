/-
  A keeper: how it lies, and what the laws' sz, to, eq, mark and held functions of it do. No condition but that its lists have at most 1048576 records in all.
-/
import Derived.Test.YtlniljigeemnoaaGreatRowList
import Derived.Test.YtlniljigeemnoaaGreatGpList
set_option linter.unusedVariables false
set_option linter.unusedSimpArgs false
set_option maxRecDepth 100000
set_option maxHeartbeats 8000000
namespace Go.Proofs.YtlniljigeemnoaaGreat.Gen
open ChangeShapes WideShapes ChangeAt RowKit Joins Deep Base
theorem Blk.row6 {W : World} {B : Nat} {t : TypeId} {a b c d e f : Value} (h : Blk W B t #[a, b, c, d, e, f]) : W.cell? ⟨B, 0, none⟩ = some a /\ W.cell? ⟨B, 1, none⟩ = some b /\ W.cell? ⟨B, 2, none⟩ = some c /\ W.cell? ⟨B, 3, none⟩ = some d /\ W.cell? ⟨B, 4, none⟩ = some e /\ W.cell? ⟨B, 5, none⟩ = some f := ⟨h.cell (by rfl), h.cell (by rfl), h.cell (by rfl), h.cell (by rfl), h.cell (by rfl), h.cell (by rfl)⟩
structure KC where
  rA : Option Addr
  rc : Nat
  rs : List RC
  mA : Option Addr
  mc : Nat
  ms : List MC
  gA : Option Addr
  gc : Nat
  gs : List GC
  time : Int
  dA : Option Addr
  dc : Nat
  ds : List Int
  lA : Option Addr
  lc : Nat
  ls : List An
structure PK where
  rs : List PR
  ms : List PM
  gs : List PG
  time : Int
  ds : List Int
  ls : List An
def KC.p (x : KC) : PK := ⟨x.rs.map RC.p, x.ms.map MC.p, x.gs.map GC.p, x.time, x.ds, x.ls⟩
def KC.cells (x : KC) : Array Value := (Qaa x.rA x.rs.length x.rc x.mA x.ms.length x.mc x.gA x.gs.length x.gc x.time x.dA x.ds.length x.dc x.lA x.ls.length x.lc)
structure KAt (w : World) (x : KC) : Prop where
  ra : At w x.rA x.rs
  re : EachR w x.rs
  ma : At w x.mA x.ms
  me : Each w x.ms
  ga : At w x.gA x.gs
  ge : EachG w x.gs
  da : At w x.dA x.ds
  la : At w x.lA x.ls
theorem KAt.below {w w' : World} {x : KC} (h : KAt w x) (g : Below w.heap.size w w') : KAt w' x :=
 ⟨h.ra.below g, h.re.below g, h.ma.below g, h.me.below g, h.ga.below g, h.ge.below g, h.da.below g, h.la.below g⟩
structure KCol (w : World) (x : KC) (S : Nat -> Prop) (col : Nat -> Nat) : Prop where
  r : Own rowP w x.rA x.rs (fun b => S b /\ col b = 1)
  m : Own makP w x.mA x.ms (fun b => S b /\ col b = 2)
  g : Own grpP w x.gA x.gs (fun b => S b /\ col b = 3)
  d : Sub w x.dA x.ds (fun b => S b /\ col b = 4)
  l : Sub w x.lA x.ls (fun b => S b /\ col b = 5)
def KOwn (w : World) (x : KC) (S : Nat -> Prop) : Prop := ∃ col, KCol w x S col
def upF (gen : Int) : Int := if gen >= 100000 then gen else gen + 1
theorem Qfe (gen : Int) (hg : I64 gen) (w : World) : Calls Tryz.prog 96 #[.int .i64 gen] w fun e w' => e = .returned (.int .i64 (upF gen)) /\ w' = w := by
 obtain ⟨h0, h1⟩ := hg
 by_cases h : gen >= 100000
 . have e : Hid (upF gen = gen) := by show _ = _; simp [upF, h]
   go_enter Tryz.func96, Tryz.ntmps96
   go_wp2
   go_ret
   exact ⟨by rw [e.out]; rfl, rfl⟩
 . have e : Hid (upF gen = gen + 1) := by show _ = _; simp [upF, h]
   have hb : gen + 1 <= 100000 := by omega
   go_enter Tryz.func96, Tryz.ntmps96
   go_wp2
   go_ret
   exact ⟨by rw [e.out]; rfl, rfl⟩
def oldF (beat time : Int) : Bool := decide (beat < time /\ 50 < time - beat)
structure Mb where
  who : Int
  beat : Int
  has : Bool
instance : Inhabited Mb := ⟨⟨0, 0, false⟩⟩
instance : Cel Mb where
  k := 3
  cs x := [.int .i64 x.who, .int .i64 x.beat, .bool x.has]
  len _ := rfl
  one x u hu := by simp at hu; rcases hu with rfl | rfl | rfl<;>rfl
def Qel (time : Int) (x : Mb) : Bool := x.has && oldF x.beat time
def hasFirst (L : List Mb) : Prop := ∀ (i j : Nat) (hi : i < L.length) (hj : j < L.length), j <= i -> L[i].has = true -> L[j].has = true
theorem Qgs {L : List Mb} (h : hasFirst L) {n : Nat} (hn : n < L.length) (hh : L[n].has = true) : (L.take n).filter Mb.has = L.take n := by
 rw [List.filter_eq_self]
 intro x hx
 obtain ⟨j, hj, rfl⟩ := List.mem_iff_getElem.1 hx
 have hj' : j < n := by simp at hj; omega
 rw [List.getElem_take]
 exact h n j hn (by omega) (by omega) hh
def Qcd (L : List Mb) : List Int := (L.filter Mb.has).map Mb.beat
section
variable {α : Type} [Cel α]
end
def mbs (m b : List Int) : List Mb := (List.range m.length).map fun i => ⟨m.getD i 0, b.getD i 0, decide (i < b.length)⟩
theorem Qbj (m b : List Int) : (mbs m b).length = m.length := by simp [mbs]
theorem Qik {m b : List Int} {n : Nat} (h : n < m.length) (h' : n < (mbs m b).length) : (mbs m b)[n] = ⟨m[n], b.getD n 0, decide (n < b.length)⟩ := by simp [mbs, h]
def zeroMb : Mb := ⟨0, 0, false⟩
def laid (m b : List Int) (n : Nat) : List Mb := (mbs m b).take n ++ List.replicate (m.length - n) zeroMb
def Qc5 (m b : List Int) : List Int := b.drop m.length
section
variable {P : Program} {ops : Array Oper} {Q : Exit -> Act -> World -> Prop} {md : Region.Mode} {S : World -> Prop} {z : Nat}
def Qfb (md : Region.Mode) (ops : Array Oper) (z i : Nat) : Bool :=
  match ops[z]? with
  | none => false
  | some o => o.after.any fun e => Region.binds md e && e.on == i
theorem not_before {i : Nat} {L : Array Bool} (hz : Qfb md ops z i = true) (hi : i ∈ Region.ready md ops L) : z ∉ Region.ready md ops L := fun h => by
 obtain ⟨hu, oi, hoi, _⟩ := mem_ready.1 hi
 obtain ⟨_, oz, hoz, hall⟩ := mem_ready.1 h
 simp only [Qfb, hoz] at hz
 obtain ⟨e, he, hb⟩ := Array.any_eq_true'.1 hz
 simp only [Bool.and_eq_true, beq_iff_eq] at hb
 have h2 := hall e he hb.1
 rw [hb.2] at h2
 rcases Nat.lt_or_ge i L.size with h' | h'
 . simp [h'] at hu h2
   rw [hu] at h2; cases h2
 . simp [Array.getElem?_eq_none h'] at h2
theorem Qhs (L : Array Bool) (z : Nat) : (L.setIfInBounds z true).getD z true = true := by
 by_cases h : z < L.size
 . simp [h]
 . simp [h]
def Qbt (P : Program) (md : Region.Mode) (ops : Array Oper) (Q : Exit -> Act -> World -> Prop) (S : World -> Prop) (z : Nat) : Nat -> Array Bool -> Act -> World -> Prop
  | 0, L, a, w => Region.ready md ops L = [] /\ Q .normal a w
  | n + 1, L, a, w => (Region.ready md ops L = [] -> Q .normal a w) /\
    ∀ i ∈ Region.ready md ops L, wpOp P ops Q i (fun a' w' => ((L.setIfInBounds i true).getD z true = true ∨ S w') /\ Qbt P md ops Q S z n (L.setIfInBounds i true) a' w') a w
theorem Qix (n : Nat) : ∀ (L : Array Bool) (a : Act) (w : World), Qbt P md ops Q S z n L a w -> wpAny P md ops Q n L a w := by
 induction n with
 | zero => exact fun _ _ _ h => h
 | succ n ih => exact fun L a w h => ⟨h.1, fun i hi => wpOp_mono (fun a' w' g => ih _ a' w' g.2) (h.2 i hi)⟩
theorem till_take {i : Nat} {oi : Oper} {v : Value} (hz : Qfb md ops z i = true) (hi : ops[i]? = some oi) (hs : Region.noSelect ops = true) (hQ : ∀ c a w, Q (.panic c) (a.put oi.dst v) w -> Q (.panic c) a w) (hiz : i ≠ z) (n : Nat) :
 ∀ (L : Array Bool) (a : Act) (w : World), L.getD z true = false -> Region.free md ops L i = true -> i ∈ Region.ready md ops L -> YieldsIf P ops S oi v a -> S w ->
  Qbt P md ops Q S z n (L.setIfInBounds i true) (a.put oi.dst v) w -> Qbt P md ops Q S z (n + 1) L a w := by
 have sel : ∀ (j : Nat) (o : Oper) cs b, ops[j]? = some o -> o.op ≠ .select cs b := Region.noSelect_spec hs
 suffices key : ∀ (L : Array Bool) (a : Act) (w : World), L.getD z true = false -> (∀ j oj, ops[j]? = some oj -> j ≠ i -> L.getD j true = false -> (∀ e ∈ oj.after, Region.binds md e = true -> e.on ≠ i) -> oi.apart ops oj = true) ->
  i ∈ Region.ready md ops L -> YieldsIf P ops S oi v a -> S w -> Qbt P md ops Q S z n (L.setIfInBounds i true) (a.put oi.dst v) w -> Qbt P md ops Q S z (n + 1) L a w from
  fun L a w h0 hf hr hy hS H => key L a w h0 (Region.free_spec hi hf) hr hy hS H
 induction n with
 | zero =>
  intro L a w _ _ hr hy hS H
  constructor
  . intro h; rw [h] at hr; exact absurd hr (List.not_mem_nil)
  . intro j hj
    rcases Decidable.em (j = i) with e | e
    . subst e; exact hy.wpOp hi hS ⟨.inr hS, H⟩
    . have g := ready_mono hj e
      rw [H.1] at g
      exact absurd g (List.not_mem_nil)
 | succ n ih =>
  intro L a w hL hfr hr hy hS H
  constructor
  . intro h; rw [h] at hr; exact absurd hr (List.not_mem_nil)
  . intro j hj
    rcases Decidable.em (j = i) with e | e
    . subst e; exact hy.wpOp hi hS ⟨.inr hS, H⟩
    . obtain ⟨hun, oj, hoj, hwait⟩ := mem_ready.1 hj
      have hjz : j ≠ z := fun h => by subst h; exact not_before hz hr hj
      have iun := (mem_ready.1 hr).1
      have hno : ∀ d ∈ oj.after, Region.binds md d = true -> d.on ≠ i := fun d hd hb q => by
       have g := hwait d hd hb
       rw [q] at g
       rcases Nat.lt_or_ge i L.size with k | k
       . simp [k] at iun g
         rw [iun] at g; cases g
       . simp [Array.getElem?_eq_none k] at g
      have step := wpOp_putIf hoj (hfr j oj hoj e hun hno) (fun cs b => sel i oi cs b hi) (fun cs b => sel j oj cs b hoj) hQ hy (H.2 j (ready_mono hj e))
      refine wpOp_mono (fun a' w' g => ?_) step
      have hL2 : (L.setIfInBounds j true).getD z true = false := by rw [getD_set_ne true hjz]; exact hL
      have hS' : S w' := g.2.1.resolve_left (by rw [getD_set_ne true hjz, getD_set_ne true hiz, hL]; decide)
      refine ⟨.inr hS', ih _ a' w' hL2 (fun k ok hk hki hu hn => ?_) (ready_mono hr (Ne.symm e)) g.1 hS' ?_⟩
      . refine hfr k ok hk hki ?_ hn
        rcases Decidable.em (j = k) with q | q
        . subst q; exact hun
        . rwa [getD_set_ne true q] at hu
      . have := g.2.2
        rwa [Array.setIfInBounds_comm _ _ (Ne.symm e)] at this
theorem till_free {i : Nat} {oi : Oper} {v : Value} (hi : ops[i]? = some oi) (hs : Region.noSelect ops = true) (hQ : ∀ c a w, Q (.panic c) (a.put oi.dst v) w -> Q (.panic c) a w) (hiz : i ≠ z) (n : Nat) :
 ∀ (L : Array Bool) (a : Act) (w : World), Region.free md ops L i = true -> i ∈ Region.ready md ops L -> YieldsIf P ops (fun _ => True) oi v a -> (L.getD z true = true ∨ S w) ->
  Qbt P md ops Q S z n (L.setIfInBounds i true) (a.put oi.dst v) w -> Qbt P md ops Q S z (n + 1) L a w := by
 have sel : ∀ (j : Nat) (o : Oper) cs b, ops[j]? = some o -> o.op ≠ .select cs b := Region.noSelect_spec hs
 suffices key : ∀ (L : Array Bool) (a : Act) (w : World), (∀ j oj, ops[j]? = some oj -> j ≠ i -> L.getD j true = false -> (∀ e ∈ oj.after, Region.binds md e = true -> e.on ≠ i) -> oi.apart ops oj = true) ->
  i ∈ Region.ready md ops L -> YieldsIf P ops (fun _ => True) oi v a -> (L.getD z true = true ∨ S w) -> Qbt P md ops Q S z n (L.setIfInBounds i true) (a.put oi.dst v) w -> Qbt P md ops Q S z (n + 1) L a w from
  fun L a w hf hr hy hS H => key L a w (Region.free_spec hi hf) hr hy hS H
 induction n with
 | zero =>
  intro L a w _ hr hy hS H
  constructor
  . intro h; rw [h] at hr; exact absurd hr (List.not_mem_nil)
  . intro j hj
    rcases Decidable.em (j = i) with e | e
    . subst e; exact hy.wpOp hi trivial ⟨by rw [getD_set_ne true hiz]; exact hS, H⟩
    . have g := ready_mono hj e
      rw [H.1] at g
      exact absurd g (List.not_mem_nil)
 | succ n ih =>
  intro L a w hfr hr hy hS H
  constructor
  . intro h; rw [h] at hr; exact absurd hr (List.not_mem_nil)
  . intro j hj
    rcases Decidable.em (j = i) with e | e
    . subst e; exact hy.wpOp hi trivial ⟨by rw [getD_set_ne true hiz]; exact hS, H⟩
    . obtain ⟨hun, oj, hoj, hwait⟩ := mem_ready.1 hj
      have iun := (mem_ready.1 hr).1
      have hno : ∀ d ∈ oj.after, Region.binds md d = true -> d.on ≠ i := fun d hd hb q => by
       have g := hwait d hd hb
       rw [q] at g
       rcases Nat.lt_or_ge i L.size with k | k
       . simp [k] at iun g
         rw [iun] at g; cases g
       . simp [Array.getElem?_eq_none k] at g
      have step := wpOp_putIf hoj (hfr j oj hoj e hun hno) (fun cs b => sel i oi cs b hi) (fun cs b => sel j oj cs b hoj) hQ hy (H.2 j (ready_mono hj e))
      refine wpOp_mono (fun a' w' g => ?_) step
      have hc : (L.setIfInBounds j true).getD z true = true ∨ S w' := by
       rcases Decidable.em (j = z) with q | q
       . subst q; exact .inl (Qhs _ _)
       . have := g.2.1
         rw [getD_set_ne true q, getD_set_ne true hiz] at this
         rw [getD_set_ne true q]
         exact this
      refine ⟨hc, ih _ a' w' (fun k ok hk hki hu hn => ?_) (ready_mono hr (Ne.symm e)) g.1 hc ?_⟩
      . refine hfr k ok hk hki ?_ hn
        rcases Decidable.em (j = k) with q | q
        . subst q; exact hun
        . rwa [getD_set_ne true q] at hu
      . have := g.2.2
        rwa [Array.setIfInBounds_comm _ _ (Ne.symm e)] at this
theorem Qdn {i : Nat} {oi : Oper} {v : Value} {n : Nat} {L : Array Bool} {a : Act} {w : World} (hz : Qfb md ops z i = true) (hi : ops[i]? = some oi) (hs : Region.noSelect ops = true) (hiz : i ≠ z) (h0 : L.getD z true = false)
 (hf : Region.free md ops L i = true) (hr : (Region.ready md ops L).contains i = true) (hQ : ∀ c a w, Q (.panic c) (a.put oi.dst v) w -> Q (.panic c) a w) (hy : YieldsIf P ops S oi v a) (hS : S w)
 (h : Qbt P md ops Q S z n (L.setIfInBounds i true) (a.put oi.dst v) w) : Qbt P md ops Q S z (n + 1) L a w :=
 till_take hz hi hs hQ hiz n L a w h0 hf (by simpa using hr) hy hS h
theorem till_freed {i : Nat} {oi : Oper} {v : Value} {n : Nat} {L : Array Bool} {a : Act} {w : World} (hi : ops[i]? = some oi) (hs : Region.noSelect ops = true) (hiz : i ≠ z)
 (hf : Region.free md ops L i = true) (hr : (Region.ready md ops L).contains i = true) (hQ : ∀ c a w, Q (.panic c) (a.put oi.dst v) w -> Q (.panic c) a w) (hy : YieldsIf P ops (fun _ => True) oi v a) (hS : S w)
 (h : Qbt P md ops Q S z n (L.setIfInBounds i true) (a.put oi.dst v) w) : Qbt P md ops Q S z (n + 1) L a w :=
 till_free hi hs hQ hiz n L a w hf (by simpa using hr) hy (.inr hS) h
theorem Qd9 {i : Nat} {o : Oper} {n : Nat} {L : Array Bool} {a : Act} {w : World} (hr : Region.ready md ops L = [i]) (ho : ops[i]? = some o)
 (h : ∀ K' : Act -> World -> Prop, Shut (∀ a w, (i = z ∨ S w) -> Qbt P md ops Q S z n (L.setIfInBounds i true) a w -> K' a w) -> if Region.wanted o (yielded ops a.tmps) = true then Oper.wp P o a w K' Q else K' (a.put o.dst undef) w) :
 Qbt P md ops Q S z (n + 1) L a w := by
 refine ⟨fun h0 => (by rw [hr] at h0; cases h0), fun j hj => ?_⟩
 rw [hr] at hj
 obtain rfl : j = i := by simpa using hj
 exact wpOp_step ho (fun K' hK => h K' (fun a w h1 h2 => hK a w ⟨h1.imp (fun e => by subst e; exact Qhs _ _) id, h2⟩))
theorem till_done {L : Array Bool} {a : Act} {w : World} (hr : Region.ready md ops L = []) (h : Q .normal a w) : ∀ n, Qbt P md ops Q S z n L a w
 | 0 => ⟨hr, h⟩
 | n + 1 => ⟨fun _ => h, fun i hi => by rw [hr] at hi; exact absurd hi List.not_mem_nil⟩
theorem Qig {id : Nat} {a : Act} {w : World} (z : Nat) (S : World -> Prop) (hm : P.follows .mixedOrders = true) (h : Qbt P .any ops Q S z ops.size (Array.replicate ops.size false) a w.drew) : (Code.region id ops true).wp P Q a w :=
 wp_region_any hm (Qix _ _ _ _ h)
end
theorem Qbm {F : List Nat} {w W : World} (h : Off F w W) (b i : Nat) (v : Value) (hb : b ∈ F) : Off F w (W.setCell ⟨b, i, none⟩ v) :=
 ⟨h.os, h.tape, h.output, by simpa using h.size, fun k hk hn => (Below.heap_setCell W ⟨b, i, none⟩ v k (fun e => hn (e ▸ hb))).trans (h.block k hk hn)⟩
def Qc3 (time : Int) (L : List Mb) : List Mb := L.filter fun x => !Qel time x
theorem keepF_le (time : Int) (L : List Mb) : (Qc3 time L).length <= L.length := List.length_filter_le _ _
def Gp (w : World) (a1 a2 a3 : Option Addr) (m b o : List Int) (F : List Nat) : Prop :=
  ∃ F1 F2 F3, F = F1 ++ (F2 ++ F3) /\ Sl w a1 m F1 /\ Sl w a2 b F2 /\ Sl w a3 o F3 /\ F.Nodup
theorem Gp.off {F G : List Nat} {w w1 : World} {a1 a2 a3 : Option Addr} {m b o : List Int} (h : Gp w a1 a2 a3 m b o F) (k : Off G w w1) (hd : ∀ x ∈ F, x ∉ G) : Gp w1 a1 a2 a3 m b o F := by
 obtain ⟨F1, F2, F3, rfl, s1, s2, s3, hn⟩ := h
 exact ⟨F1, F2, F3, rfl, s1.off k fun x hx => hd x (by simp [hx]), s2.off k fun x hx => hd x (by simp [hx]), s3.off k fun x hx => hd x (by simp [hx]), hn⟩
theorem Gp.below {F : List Nat} {w w1 : World} {a1 a2 a3 : Option Addr} {m b o : List Int} (h : Gp w a1 a2 a3 m b o F) (k : Below w.heap.size w w1) : Gp w1 a1 a2 a3 m b o F := h.off (Off.of_below k) (by simp)
theorem Gp.alloc {F : List Nat} {w : World} {a1 a2 a3 : Option Addr} {m b o : List Int} (h : Gp w a1 a2 a3 m b o F) (ob : Obj) : Gp (w.alloc ob) a1 a2 a3 m b o F := h.below (Qaf (Below.refl _ _) _)
theorem Gp.lt {F : List Nat} {w : World} {a1 a2 a3 : Option Addr} {m b o : List Int} (h : Gp w a1 a2 a3 m b o F) : ∀ x ∈ F, x < w.heap.size := by
 obtain ⟨F1, F2, F3, rfl, s1, s2, s3, hn⟩ := h
 intro x hx
 simp only [List.mem_append] at hx
 rcases hx with h | h | h
 . exact s1.lt x h
 . exact s2.lt x h
 . exact s3.lt x h
theorem Gp.at1 {F : List Nat} {w : World} {a1 a2 a3 : Option Addr} {m b o : List Int} (h : Gp w a1 a2 a3 m b o F) : At w a1 m := by obtain ⟨_, _, _, _, s, _⟩ := h; exact s.at
theorem Gp.at2 {F : List Nat} {w : World} {a1 a2 a3 : Option Addr} {m b o : List Int} (h : Gp w a1 a2 a3 m b o F) : At w a2 b := by obtain ⟨_, _, _, _, _, s, _⟩ := h; exact s.at
theorem Gp.at3 {F : List Nat} {w : World} {a1 a2 a3 : Option Addr} {m b o : List Int} (h : Gp w a1 a2 a3 m b o F) : At w a3 o := by obtain ⟨_, _, _, _, _, _, s, _⟩ := h; exact s.at
structure Wi (w W : World) (gen : Int) (vm vb vo : Value) : Prop where
  bl : Below w.heap.size w W
  g : Blk W w.heap.size 128 #[.int .i64 gen, vm, vb, vo]
  r : Blk W (w.heap.size + 1) 128 Qb0
theorem Wi.below {w W W' : World} {gen : Int} {vm vb vo : Value} (h : Wi w W gen vm vb vo) (k : Below W.heap.size W W') : Wi w W' gen vm vb vo := ⟨via0 k h.bl, h.g.below k h.g.lt, h.r.below k h.r.lt⟩
theorem Wi.alloc {w W : World} {gen : Int} {vm vb vo : Value} (h : Wi w W gen vm vb vo) (ob : Obj) : Wi w (W.alloc ob) gen vm vb vo := h.below (Qaf (Below.refl _ _) _)
theorem Qch {B : Nat} {W : World} {v : Value} {t t' : TypeId} {k n p : Nat} {xs : List Value} {vs : Array Value} (h : W.ownsRow B t k v n xs) (hp : Blk W p t' vs) (ht : t ≠ t') : ∀ x, v.ownBlock = some x -> x ≠ p := by
 intro x hx e
 subst e
 rcases h.2 with ⟨rfl, rfl⟩ | ⟨g, c, cur, rfl, hB, hg, _⟩
 . cases hx
 . have : g = x := by simpa [Value.ownBlock] using hx
   subst this
   have h2 : W.heap[g]? = _ := hp
   rw [h2] at hg
   cases hg
   exact ht rfl
theorem sl_own {W : World} {a : Option Addr} {l : List Int} {F : List Nat} (h : Sl W a l F) (n c : Nat) : ∀ x ∈ F, (Value.slice a n c).ownBlock = some x := by
 rcases h with ⟨_, rfl⟩ | ⟨b, o, rfl, rfl, _⟩
 . simp
 . simp [Value.ownBlock]
abbrev putG (Y : World) (p : Nat) (g v1 v2 v3 : Value) : World := (((Y.setCell ⟨p, 0, none⟩ g).setCell ⟨p, 1, none⟩ v1).setCell ⟨p, 2, none⟩ v2).setCell ⟨p, 3, none⟩ v3
theorem Qcb (Y : World) (p : Nat) (g v1 v2 v3 : Value) : Off [p] Y (putG Y p g v1 v2 v3) := Qbm (Qbm (Qbm (Qbm (Off.refl _ _) p 0 _ (by simp)) p 1 _ (by simp)) p 2 _ (by simp)) p 3 _ (by simp)
theorem blk_putG {Y : World} {p : Nat} {t : TypeId} {x0 x1 x2 x3 : Value} (h : Blk Y p t #[x0, x1, x2, x3]) (g v1 v2 v3 : Value) : Blk (putG Y p g v1 v2 v3) p t #[g, v1, v2, v3] := (((h.setAt 0 g).setAt 1 v1).setAt 2 v2).setAt 3 v3
theorem Wi.off {w W W' : World} {gen : Int} {vm vb vo : Value} {p : Nat} (h : Wi w W gen vm vb vo) (k : Off [p] W W') (hp : w.heap.size + 1 < p) : Wi w W' gen vm vb vo :=
 ⟨h.bl.trans (k.toBelow (by simp; omega) h.bl.size), h.g.off k (by simp; omega), h.r.off k (by simp; omega)⟩
def Qgz (w w' : World) (e : Ending) (gen : Int) (m b o : List Int) : Prop :=
  ∃ (a1 a2 a3 : Option Addr) (c1 c2 c3 : Nat) (F : List Nat), e = .returned (.agg (Qak gen a1 m.length c1 a2 b.length c2 a3 o.length c3)) /\ Below w.heap.size w w' /\ Gp w' a1 a2 a3 m b o F /\ ∀ x ∈ F, w.heap.size <= x
theorem Qgl {α : Type} [Cel α] {B : Nat} {W : World} {t : TypeId} {a : Option Addr} {c : Nat} {xs : List α} (h : W.ownsRow B t (Cel.k α) (.slice a xs.length c) xs.length (flat xs)) : Sub W a xs (fun b => B <= b /\ b < W.heap.size) := by
 obtain ⟨a', c', e, _, hs⟩ := Qa6 h
 cases e
 exact hs.imp id fun ⟨b, o, e, hB, hb, hi, ht⟩ => ⟨b, o, e, ⟨hB, hb⟩, hb, hi, ht⟩
end Go.Proofs.YtlniljigeemnoaaGreat.Gen
