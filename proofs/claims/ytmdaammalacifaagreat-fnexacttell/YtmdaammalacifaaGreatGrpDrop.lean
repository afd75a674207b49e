/-
  The program's member sets at this seat: emptied, and some dropped. No condition but that there are at most 1048576.
-/
import Derived.Test.YtmdaammalacifaaGreatGUs
set_option linter.unusedVariables false
set_option linter.unusedSimpArgs false
set_option maxRecDepth 100000
set_option maxHeartbeats 8000000
namespace Go.Proofs.YtmdaammalacifaaGreat.Gen
open ChangeShapes WideShapes ChangeAt RowKit Joins Deep Base
theorem Qcl {F : List Nat} {w W : World} (h : Off F w W) (b i : Nat) (v : Value) (hb : b ∈ F) : Off F w (W.setCell ⟨b, i, none⟩ v) :=
 ⟨h.os, h.tape, h.output, by simpa using h.size, fun k hk hn => (Below.heap_setCell W ⟨b, i, none⟩ v k (fun e => hn (e ▸ hb))).trans (h.block k hk hn)⟩
end Go.Proofs.YtmdaammalacifaaGreat.Gen
namespace Go.Proofs.YtmdaammalacifaaGreat.Gen
open ChangeShapes WideShapes ChangeAt RowKit Joins Deep Base
def Gp (w : World) (a1 a2 a3 : Option Addr) (m b o : List Int) (F : List Nat) : Prop :=
  ∃ F1 F2 F3, F = F1 ++ (F2 ++ F3) /\ Sl w a1 m F1 /\ Sl w a2 b F2 /\ Sl w a3 o F3 /\ F.Nodup
theorem Gp.off {F G : List Nat} {w w1 : World} {a1 a2 a3 : Option Addr} {m b o : List Int} (h : Gp w a1 a2 a3 m b o F) (k : Off G w w1) (hd : ∀ x ∈ F, x ∉ G) : Gp w1 a1 a2 a3 m b o F := by
 obtain ⟨F1, F2, F3, rfl, s1, s2, s3, hn⟩ := h
 exact ⟨F1, F2, F3, rfl, s1.off k fun x hx => hd x (by simp [hx]), s2.off k fun x hx => hd x (by simp [hx]), s3.off k fun x hx => hd x (by simp [hx]), hn⟩
theorem Gp.lt {F : List Nat} {w : World} {a1 a2 a3 : Option Addr} {m b o : List Int} (h : Gp w a1 a2 a3 m b o F) : ∀ x ∈ F, x < w.heap.size := by
 obtain ⟨F1, F2, F3, rfl, s1, s2, s3, hn⟩ := h
 intro x hx
 simp only [List.mem_append] at hx
 rcases hx with h | h | h
 . exact s1.lt x h
 . exact s2.lt x h
 . exact s3.lt x h
end Go.Proofs.YtmdaammalacifaaGreat.Gen
namespace Go.Proofs.YtmdaammalacifaaGreat.Gen
open ChangeShapes WideShapes ChangeAt RowKit Joins Deep Base
structure Wi (w W : World) (gen : Int) (vm vb vo : Value) : Prop where
  bl : Below w.heap.size w W
  g : Blk W w.heap.size 173 #[.int .i64 gen, vm, vb, vo]
  r : Blk W (w.heap.size + 1) 173 #[.int .i64 0, .slice none 0 0, .slice none 0 0, .slice none 0 0]
theorem Wi.below {w W W' : World} {gen : Int} {vm vb vo : Value} (h : Wi w W gen vm vb vo) (k : Below W.heap.size W W') : Wi w W' gen vm vb vo := ⟨via0 k h.bl, h.g.below k h.g.lt, h.r.below k h.r.lt⟩
theorem Wi.alloc {w W : World} {gen : Int} {vm vb vo : Value} (h : Wi w W gen vm vb vo) (ob : Obj) : Wi w (W.alloc ob) gen vm vb vo := h.below (Qab (Below.refl _ _) _)
theorem Qbz {B : Nat} {W : World} {v : Value} {t t' : TypeId} {k n p : Nat} {xs : List Value} {vs : Array Value} (h : W.ownsRow B t k v n xs) (hp : Blk W p t' vs) (ht : t ≠ t') : ∀ x, v.ownBlock = some x -> x ≠ p := by
 intro x hx e
 subst e
 rcases h.2 with ⟨rfl, rfl⟩ | ⟨g, c, cur, rfl, hB, hg, _⟩
 . cases hx
 . have : g = x := by simpa [Value.ownBlock] using hx
   subst this
   have h2 : W.heap[g]? = _ := hp
   rw [h2] at hg
   cases hg
   exact ht rfl
theorem sl_own {W : World} {a : Option Addr} {l : List Int} {F : List Nat} (h : Sl W a l F) (n c : Nat) : ∀ x ∈ F, (Value.slice a n c).ownBlock = some x := by
 rcases h with ⟨_, rfl⟩ | ⟨b, o, rfl, rfl, _⟩
 . simp
 . simp [Value.ownBlock]
abbrev putG (Y : World) (p : Nat) (g v1 v2 v3 : Value) : World := (((Y.setCell ⟨p, 0, none⟩ g).setCell ⟨p, 1, none⟩ v1).setCell ⟨p, 2, none⟩ v2).setCell ⟨p, 3, none⟩ v3
theorem Qew (Y : World) (p : Nat) (g v1 v2 v3 : Value) : Off [p] Y (putG Y p g v1 v2 v3) := Qcl (Qcl (Qcl (Qcl (Off.refl _ _) p 0 _ (by simp)) p 1 _ (by simp)) p 2 _ (by simp)) p 3 _ (by simp)
end Go.Proofs.YtmdaammalacifaaGreat.Gen
