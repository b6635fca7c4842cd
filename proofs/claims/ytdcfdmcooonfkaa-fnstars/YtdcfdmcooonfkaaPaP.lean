import Derived.Test.YtdcfdmcooonfkaaBase
import Derived.Test.YtdcfdmcooonfkaaThing
import Derived.Test.YtdcfdmcooonfkaaCsK
import Derived.Test.YtdcfdmcooonfkaaLevels
import Derived.WalkKit
import Derived.ProofKit
import Derived.OpenShut
import Derived.ShutString
import Derived.ChangeOld
import Derived.Below
import Derived.WalkSpells
import Derived.Deep.QuietTactic
import Derived.BigQuiet
import Derived.Deep.RegionWith
import Derived.Deep.WholeRow
import Derived.Deep.DeepCutAuto
import Derived.Deep.RegionHeld2
import Derived.Deep.AppendLies
import Derived.Deep.RegionLaw
namespace Go.Proofs.Ytdcfdmcooonfkaa
open Go.ChangeShapes Go.WideShapes Go.ChangeAt Go.RowKit

def td (x y : Int) : Int := if x = 0 then 0 else max x y

/-- a label joined with another one, of which the first k levels are done: where it owns, it keeps its star. -/
def tdK (k : Nat) (xs ys : List Int) : List Int := (List.range 4).map (fun j => if j < k then td (gt xs j) (gt ys j) else max (gt xs j) (gt ys j))

theorem length_tdK (k : Nat) (xs ys : List Int) : (tdK k xs ys).length = 4 := by simp [tdK]

theorem gt_tdK (k : Nat) (xs ys : List Int) (j : Nat) (h : j < 4) : gt (tdK k xs ys) j = if j < k then td (gt xs j) (gt ys j) else max (gt xs j) (gt ys j) := by simp [tdK, gt, h]

theorem tdK_start {xs : List Int} (ys : List Int) (h : xs.length = 4) : tdK 0 xs ys = mix max xs ys := by simp [tdK, mix, h]

theorem tdK_end {xs : List Int} (ys : List Int) (h : xs.length = 4) : tdK 4 xs ys = mix td xs ys := by
  unfold tdK mix
  rw [h]
  exact List.map_congr_left (fun j hj => if_pos (by simpa using hj))

theorem tdK_star {k : Nat} {xs : List Int} (ys : List Int) (hk : k < 4) (h : gt xs k = 0) : (tdK k xs ys).set k 0 = tdK (k + 1) xs ys := by
  obtain rfl | rfl | rfl | rfl : k = 0 ∨ k = 1 ∨ k = 2 ∨ k = 3 := by omega
  all_goals simp [tdK, td, h, List.range, List.range.loop]

theorem tdK_same {k : Nat} {xs : List Int} (ys : List Int) (hk : k < 4) (h : gt xs k ≠ 0) : tdK k xs ys = tdK (k + 1) xs ys := by
  obtain rfl | rfl | rfl | rfl : k = 0 ∨ k = 1 ∨ k = 2 ∨ k = 3 := by omega
  all_goals simp [tdK, td, h, List.range, List.range.loop]

theorem blk_store {w : World} {b r : Nat} {zs : List Int} {x : Int} (h : Blk w b zs) (hr : r < zs.length) : Blk (w.setCell ⟨b, r, none⟩ (.int .i64 x)) b (zs.set r x) := by
  refine ⟨by simpa using h.1, fun i hi => ?_, fun i => by simpa using h.2.2 i⟩
  by_cases e : i = r
  · subst e
    rw [World.cell?_setCell_same _ _ _ (h.2.1 i hr)]
    simp [gt, hr]
  · rw [World.cell?_setCell_other _ _ _ _ (fun he => by injection he with _ e2; omega), h.2.1 i (by simpa using hi)]
    simp [gt, Ne.symm e]

def thgF (zs : List Int) : Int := if fault zs ≠ 0 then fault zs else if thing0 zs = false then 1 else 0

theorem thingB_0 {zs : List Int} (h : fault zs = 0) : thingB zs = thing0 zs := by unfold thingB thing0; rw [h]; rfl

set_option maxRecDepth 100000 in
theorem thingFault_calls (a : Option Addr) (len cap : Nat) (zs : List Int) (w : World) (hl : len ≤ maxLen) (hs : Sl w a len zs) :
    Calls Try.prog 48 #[.agg #[.slice a len cap]] w fun e w' => e = .returned (.int .i64 (thgF zs)) ∧ Below w.heap.size w w' := by
  have M0 := (Mm.start w).allocC [.slice a len cap] 26
  have hb0 := M0.bel
  go_enter Try.func48, Try.ntmps48
  go_wp2_with fail
  refine (implLabelFault_calls a len cap zs _ hl (hs.below hb0 (Nat.le_refl _))).mono ?_
  rintro e w1 ⟨rfl, g1⟩
  have M1 := M0.below g1
  have c1 := (M1.get 0 rfl).cell 0 rfl
  have HB1 := hide M1.bel
  have HS := hide (hs.below M1.bel (Nat.le_refl _))
  clear g1 M0 hb0
  by_cases h1 : fault zs = 0
  rotate_left
  · have e1 : (fault zs != 0) = true := by simpa using h1
    have HV : Hid (thgF zs = fault zs) := if_pos h1
    clear h1 M1
    go_wp2
    go_ret
    exact ⟨ret_int HV.out.symm, HB1.out⟩
  have e1 : (fault zs != 0) = false := by simp [h1]
  have HV : Hid (thgF zs = if thing0 zs = false then 1 else 0) := if_neg (by simpa using h1)
  have HT := hide (thingB_0 h1)
  clear h1 M1
  go_wp2_with fail
  refine (isThing_calls a len cap zs _ hl HS.out).mono ?_
  rintro e w2 ⟨rfl, g2⟩
  have HB2 := hide (HB1.out.trans (g2.mono HB1.out.size))
  clear g2
  cases h0 : thingB zs with
  | true =>
    have HR : Hid (thgF zs = 0) := by show _ = _; rw [HV.out, ← HT.out, h0]; rfl
    go_wp2
    go_ret
    exact ⟨ret_int HR.out.symm, HB2.out⟩
  | false =>
    have HR : Hid (thgF zs = 1) := by show _ = _; rw [HV.out, ← HT.out, h0]; rfl
    go_wp2
    go_ret
    exact ⟨ret_int HR.out.symm, HB2.out⟩

def lowP (zs : List Int) : Bool := !has zs 5

def psF (z y : List Int) : Int := if both z y = 0 then (if lowP z && !has y 0 then 0 else 1) else both z y

def meB (z y x : List Int) : Bool := (psF z y == 0) && ((fault x == 0) && belowB x y)

def ent (x g : Int) : Int := if g = 0 then 0 else td x g

def epC (z y x : List Int) : Int := if psF z y = 0 then (if fault x = 0 then (if belowB x y then 0 else 6) else fault x) else psF z y

def epL (z y x : List Int) : List Int := resOf (epC z y x) (mix ent x z)

def tlC (x y : List Int) : Int := if fault x = 0 then thgF y else fault x

def tlL (x y : List Int) : List Int := resOf (tlC x y) (mix td x y)

def dsB (c l : Int) : Bool := (decide (0 ≤ c) && decide (c ≤ 3)) && (decide (1 ≤ l) && decide (l ≤ 4))

def dsC (x : List Int) (c l : Int) : Int := if fault x = 0 then (if dsB c l then (if gt x c.toNat = 0 then 0 else 4) else 3) else fault x

def dsL (x : List Int) (c l : Int) : List Int := resOf (dsC x c l) (x.set c.toNat l)

def stK (x : List Int) : Nat → List Int
  | 0 => []
  | k + 1 => stK x k ++ (if gt x k = 0 then [(k : Int)] else [])

def stL (x : List Int) : List Int := resOf (fault x) (stK x x.length)

theorem stK_le (x : List Int) : ∀ k, (stK x k).length ≤ k
  | 0 => Nat.le_refl _
  | k + 1 => by have := stK_le x k; simp only [stK, List.length_append]; split <;> simp <;> omega

theorem stK_y {x : List Int} {k : Nat} (h : gt x k = 0) : stK x (k + 1) = stK x k ++ [(k : Int)] := by simp only [stK]; rw [if_pos h]

theorem stK_n {x : List Int} {k : Nat} (h : gt x k ≠ 0) : stK x (k + 1) = stK x k := by simp only [stK]; rw [if_neg h, List.append_nil]

theorem psF_both {z y : List Int} (h : both z y ≠ 0) : psF z y = both z y := if_neg h

theorem psF_form {z y : List Int} (h : both z y = 0) (hb : (lowP z && !has y 0) = false) : psF z y = 1 := by unfold psF; rw [if_pos h, hb]; rfl

theorem psF_ok {z y : List Int} (h : both z y = 0) (hb : (lowP z && !has y 0) = true) : psF z y = 0 := by unfold psF; rw [if_pos h, hb]; rfl

theorem psF_zero {z y : List Int} (h : psF z y = 0) : fault z = 0 ∧ fault y = 0 := by
  by_cases hb : both z y = 0
  · unfold both at hb
    split at hb
    · exact ⟨by assumption, hb⟩
    · contradiction
  · rw [psF_both hb] at h; exact absurd h hb

/-- a pass that is read: both its labels. -/
structure PR (w : World) (a : Option Addr) (n : Nat) (z : List Int) (b : Option Addr) (m : Nat) (y : List Int) : Prop where
  hn : n ≤ maxLen
  hz : Sl w a n z
  hm : m ≤ maxLen
  hy : Sl w b m y

theorem PR.below {w u : World} {a b : Option Addr} {n m B : Nat} {z y : List Int} (h : PR w a n z b m y) (g : Below B w u) (hB : w.heap.size ≤ B) : PR u a n z b m y := ⟨h.hn, h.hz.below g hB, h.hm, h.hy.below g hB⟩

/-- a pass of one's own: its labels lie apart. -/
def OPs (S : Nat → Prop) (a : Option Addr) (n : Nat) (z : List Int) (b : Option Addr) (m : Nat) (y : List Int) (w : World) : Prop := ∃ T : Nat, OS (fun k => S k ∧ k < T) a n z w ∧ OS (fun k => S k ∧ T ≤ k) b m y w

theorem OPs.loc {S : Nat → Prop} {a b : Option Addr} {n m : Nat} {z y : List Int} : Loc S (OPs S a n z b m y) := fun w w' hk h => by
  obtain ⟨T, h1, h2⟩ := h
  exact ⟨T, OS.loc w w' (fun k hs => hk k hs.1) h1, OS.loc w w' (fun k hs => hk k hs.1) h2⟩

theorem OPs.pr {S : Nat → Prop} {a b : Option Addr} {n m : Nat} {z y : List Int} {w : World} (h : OPs S a n z b m y w) : PR w a n z b m y := by
  obtain ⟨T, h1, h2⟩ := h
  have := h1.2.1
  have := h2.2.1
  exact ⟨by unfold maxLen; omega, h1.sl, by unfold maxLen; omega, h2.sl⟩

end Go.Proofs.Ytdcfdmcooonfkaa
