import Derived.Test.YtcmoehednkaehadDoorChk
namespace Go.Proofs.YtcmoehednkaehadDoor

/-- The first of which something is wrong. -/
def scan (f : Nat → In → Int) : List In → Nat → Option (Int × Nat)
  | [], _ => none
  | x :: r, k => if f k x ≠ 0 then some (f k x, k) else scan f r (k + 1)

/-- The regions, one instruction behind the other: what is wrong, or what is still open, and the innermost regions. -/
def nestScan (l : List In) : List In → Nat → List Nat → List Int → (Int × Nat) ⊕ (List Nat × List Int)
  | [], _, os, ws => .inr (os, ws)
  | x :: r, k, os, ws => if (nestOf l k x os).1 ≠ 0 then .inl ((nestOf l k x os).1, k) else nestScan l r (k + 1) (nestOf l k x os).2 (ws.set k (beginOf os.getLast?))

def unclosedErr (os : List Nat) (k : Nat) (x : In) : Int := if k ∈ os then (if x.op = 13 then 9 else 10) else 0

/-- The heights, one instruction behind the other. -/
def stackScan : List In → Nat → (Int → Option Int) → (Int × Nat) ⊕ (Int → Option Int)
  | [], _, M => .inr M
  | x :: r, k, M => if (stackStep M k x).1 ≠ 0 then .inl ((stackStep M k x).1, k) else stackScan r (k + 1) (stackStep M k x).2

def M0 : Int → Option Int := setH (fun _ => none) 0 0

/-- What is wrong with an image. -/
def checkI (l : List In) : Int × Int :=
  if 2000 < l.length then (2, 0) else
  match scan (fun _ x => formErr x) l 0 with
  | some (c, k) => (c, k)
  | none =>
    match nestScan l l 0 [] (List.replicate (l.length + 1) 0) with
    | .inl (c, k) => (c, k)
    | .inr (os, ws) =>
      match scan (unclosedErr os) l 0 with
      | some (c, k) => (c, k)
      | none =>
        match scan (jumpErr ws) l 0 with
        | some (c, k) => (c, k)
        | none =>
          match stackScan l 0 M0 with
          | .inl (c, k) => (c, k)
          | .inr M => if (M l.length).getD 0 ≠ 0 then (8, l.length) else (0, 0)

theorem drop_at {l : List In} {j : Nat} (h : j < l.length) : l.drop j = l.getD j in0 :: l.drop (j + 1) := by
  have hg : l.getD j in0 = l[j] := by rw [List.getD_eq_getElem?_getD, List.getElem?_eq_getElem h]; rfl
  rw [hg]
  exact List.drop_eq_getElem_cons h

theorem scan_at (f : Nat → In → Int) {l : List In} {j : Nat} (h : j < l.length) : scan f (l.drop j) j = if f j (l.getD j in0) ≠ 0 then some (f j (l.getD j in0), j) else scan f (l.drop (j + 1)) (j + 1) := by
  rw [drop_at h, scan]

theorem nestScan_at (l0 : List In) {l : List In} {j : Nat} (h : j < l.length) (os : List Nat) (ws : List Int) : nestScan l0 (l.drop j) j os ws = if (nestOf l0 j (l.getD j in0) os).1 ≠ 0 then .inl ((nestOf l0 j (l.getD j in0) os).1, j) else nestScan l0 (l.drop (j + 1)) (j + 1) (nestOf l0 j (l.getD j in0) os).2 (ws.set j (beginOf os.getLast?)) := by
  rw [drop_at h, nestScan]

theorem stackScan_at {l : List In} {j : Nat} (h : j < l.length) (M : Int → Option Int) : stackScan (l.drop j) j M = if (stackStep M j (l.getD j in0)).1 ≠ 0 then .inl ((stackStep M j (l.getD j in0)).1, j) else stackScan (l.drop (j + 1)) (j + 1) (stackStep M j (l.getD j in0)).2 := by
  rw [drop_at h, stackScan]

theorem nestOf_length (l : List In) (k : Nat) (x : In) (os : List Nat) : (nestOf l k x os).2.length ≤ os.length + 1 := by
  unfold nestOf
  split
  · split <;> simp
  · split
    · split
      · simp
      · simp; omega
    · split
      · split
        · simp
        · simp; omega
      · split
        · split <;> simp
        · simp

/- An image of the law's own, done by hand: nothing is wrong with it. -/
def imageL : List In := [⟨13, 0, 2⟩, ⟨2, 0, 0⟩, ⟨9, 0, 0⟩, ⟨4, 0, 0⟩, ⟨3, 0, 0⟩, ⟨14, 0, 1⟩, ⟨2, 0, 0⟩, ⟨1, 2, 0⟩, ⟨6, 0, 0⟩, ⟨10, 1, 0⟩]
theorem checkI_image : checkI imageL = (0, 0) := by decide +kernel
theorem checkI_add : checkI [⟨4, 0, 0⟩] = (8, 0) := by decide +kernel
end Go.Proofs.YtcmoehednkaehadDoor
