/-
  What a map of last numbers tells, and that those are kept which are packed.
-/
import Derived.Test.YtnmbbkagjpmhdaaImplLast
import Derived.Test.YtnmbbkagjpmhdaaRowPure
namespace Go.Proofs.Ytnmbbkagjpmhdaa.Items
open Go.ChangeShapes Go.WideShapes Go.ChangeAt Go.RowKit Go.Shelf Base
set_option linter.unusedVariables false

theorem toList_data (a : ByteArray) : a.toList = a.data.toList := ByteArray.toList_eq a
theorem snocRec {α : Type} {p : List α → Prop} (h0 : p []) (h1 : ∀ l x, p l → p (l ++ [x])) : ∀ l, p l := fun l => by
  have : ∀ r : List α, p r.reverse := by
    intro r
    induction r with
    | nil => simpa using h0
    | cons x r ih => simpa using h1 _ x ih
  simpa using this l.reverse

/-- Of a key the last number among these; 0 where there is none. -/
def lastOff (l : List It) (key : List UInt8) : Int := l.foldl (fun c x => if x.key.toList = key then x.off else c) 0
theorem lastOff_snoc (l : List It) (x : It) (key : List UInt8) : lastOff (l ++ [x]) key = if x.key.toList = key then x.off else lastOff l key := by simp [lastOff]
theorem lastD_isMap (l : List It) : Maps.IsMap (lastD l) := by
  refine snocRec (p := fun l => Maps.IsMap (lastD l)) ?_ (fun l x ih => ?_) l
  · exact Maps.isMap_empty
  · rw [lastD_snoc]; exact ih.put _ _
theorem lastD_at (l : List It) (key : List UInt8) : (lastD l).atKey (.string key) (.lit (.int .i64 0)) = .lit (.int .i64 (lastOff l key)) := by
  refine snocRec (p := fun l => (lastD l).atKey (.string key) (.lit (.int .i64 0)) = .lit (.int .i64 (lastOff l key))) ?_ (fun l x ih => ?_) l
  · rfl
  · rw [lastD_snoc, lastOff_snoc, toList_data]
    by_cases h : x.key.data.toList = key
    · subst h
      rw [if_pos rfl, Maps.atKey_put_same (lastD_isMap l) (by simp [WideAt.IsKeyLit])]
    · rw [if_neg h, Maps.atKey_put_other (fun e => h (by cases e; rfl)), ih]

/-- Whether an item is kept. -/
def keepB (nb length : Int) (l : List It) (x : It) : Bool := x.key.toList == [] || x.off == lastOff l x.key.toList || (dv x.off length == dv nb length)

theorem lastOff_of (key : List UInt8) : ∀ (t : List It) (c : Int), t.foldl (fun c x => if x.key.toList = key then x.off else c) c = (if hasKey key t then lastOff t key else c) := by
  intro t
  refine snocRec (p := fun t => ∀ c : Int, t.foldl (fun c x => if x.key.toList = key then x.off else c) c = (if hasKey key t then lastOff t key else c)) ?_ (fun t x ih => ?_) t
  · intro c; simp [hasKey]
  · intro c
    rw [List.foldl_append, lastOff_snoc]
    simp only [List.foldl_cons, List.foldl_nil]
    have hk : hasKey key (t ++ [x]) = (hasKey key t || x.key.toList == key) := by simp [hasKey]
    rw [hk]
    by_cases h : x.key.toList = key
    · simp [h]
    · rw [if_neg h, if_neg h, ih c]
      have : (x.key.toList == key) = false := by simpa using h
      rw [this, Bool.or_false]
theorem lastOff_cons (x : It) (t : List It) (key : List UInt8) : lastOff (x :: t) key = if hasKey key t then lastOff t key else (if x.key.toList = key then x.off else 0) := by
  unfold lastOff
  rw [List.foldl_cons, lastOff_of]
  rfl
theorem lastOff_mem (key : List UInt8) : ∀ t : List It, hasKey key t = true → ∃ y ∈ t, y.off = lastOff t key := by
  intro t
  refine snocRec (p := fun t => hasKey key t = true → ∃ y ∈ t, y.off = lastOff t key) ?_ (fun t x ih => ?_) t
  · intro h; simp [hasKey] at h
  · intro h
    rw [lastOff_snoc]
    by_cases hx : x.key.toList = key
    · exact ⟨x, by simp, by simp [hx]⟩
    · rw [if_neg hx]
      have : hasKey key t = true := by
        have hk : hasKey key (t ++ [x]) = (hasKey key t || x.key.toList == key) := by simp [hasKey]
        rw [hk] at h
        have e : (x.key.toList == key) = false := by simpa using hx
        rwa [e, Bool.or_false] at h
      obtain ⟨y, hy, e⟩ := ih this
      exact ⟨y, by simp [hy], e⟩
/-- Among what comes behind p, in order: kept by the map of last numbers, or packed: the same. -/
theorem keep_pack (nb length : Int) : ∀ (t p : List It), up (p ++ t) → t.filter (keepB nb length (p ++ t)) = packF nb length t := by
  intro t
  induction t with
  | nil => intro p _; rfl
  | cons x t ih =>
    intro p hu
    have hu' : up (p ++ [x] ++ t) := by simpa using hu
    have ih' := ih (p ++ [x]) hu'
    have e : p ++ [x] ++ t = p ++ x :: t := by simp
    rw [e] at ih'
    rw [List.filter_cons, ih', packF]
    have hs : keepB nb length (p ++ x :: t) x = staysB nb length x t := by
      unfold keepB staysB
      have hl : lastOff (p ++ x :: t) x.key.toList = lastOff (x :: t) x.key.toList := by
        unfold lastOff
        rw [List.foldl_append]
        simp only [List.foldl_cons, if_true]
      rw [hl, lastOff_cons]
      cases hk : hasKey x.key.toList t
      · simp
      · obtain ⟨y, hy, ey⟩ := lastOff_mem _ t hk
        have hlt : x.off < y.off := by
          have h1 := (List.pairwise_append.1 hu).2.1
          exact (List.pairwise_cons.1 h1).1 y hy
        have : (x.off == lastOff t x.key.toList) = false := by rw [← ey]; simp; omega
        simp [this]
    rw [hs]
theorem keep_all {start next length : Int} {l : List It} (h : rowB start next l = true) : l.filter (keepB (IntKind.i64.wrap (next - 1)) length l) = packF (IntKind.i64.wrap (next - 1)) length l := by
  have := keep_pack (IntKind.i64.wrap (next - 1)) length l [] (by simpa using ((rowB_iff _ _ _).1 h).2.1)
  simpa using this
end Go.Proofs.Ytnmbbkagjpmhdaa.Items
