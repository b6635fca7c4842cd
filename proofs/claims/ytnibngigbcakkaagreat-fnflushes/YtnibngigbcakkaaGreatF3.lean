import Derived.Test.YtnibngigbcakkaaGreatF1
import Derived.Test.YtnibngigbcakkaaGreatF2
import Derived.WalkKit
import Derived.ProofKit
import Derived.OpenShut
import Derived.ShutString
import Derived.ChangeOld
import Derived.Below
import Derived.WalkSpells
import Derived.Deep.QuietTactic
import Derived.BigQuiet
import Derived.Deep.RegionWith
import Derived.Deep.WholeRow
import Derived.Deep.DeepCutAuto
import Derived.Deep.RegionHeld2
import Derived.Deep.AppendLies
import Derived.Deep.RegionLaw
namespace Go.Proofs.YtnibngigbcakkaaGreat
open Go.ChangeShapes Go.WideShapes Go.ChangeAt Go.RowKit

/-- four cells of a world that later worlds keep: for a region's loads. -/
theorem held4 {W X Y : World} {A B C D : Addr} {a b c d : Value} (hA : A.block < W.heap.size) (hB : B.block < W.heap.size) (hC : C.block < W.heap.size) (hD : D.block < W.heap.size)
    (h : X.cell? A = some a ∧ X.cell? B = some b ∧ X.cell? C = some c ∧ X.cell? D = some d ∧ Below W.heap.size W X) (g : Below X.heap.size X Y) :
    Y.cell? A = some a ∧ Y.cell? B = some b ∧ Y.cell? C = some c ∧ Y.cell? D = some d ∧ Below W.heap.size W Y := by
  obtain ⟨h1, h2, h3, h4, hb⟩ := h
  have hz := hb.size
  exact ⟨(g.cell (by omega)).trans h1, (g.cell (by omega)).trans h2, (g.cell (by omega)).trans h3, (g.cell (by omega)).trans h4, hb.trans (g.mono hz)⟩



theorem infoLine : (Tryz.prog.info? 45).map (fun i => (i.zero, i.size, i.bytes)) = some (some (.agg #[.int .i64 0, .int .i64 0, .int .i64 0]), 3, 24) := by kernel_rfl

/-- six cells of a world that later worlds keep: for a region's loads. -/
theorem held6 {W X Y : World} {A B C D E F : Addr} {a b c d e f : Value} (hA : A.block < W.heap.size) (hB : B.block < W.heap.size) (hC : C.block < W.heap.size) (hD : D.block < W.heap.size) (hE : E.block < W.heap.size) (hF : F.block < W.heap.size)
    (h : X.cell? A = some a ∧ X.cell? B = some b ∧ X.cell? C = some c ∧ X.cell? D = some d ∧ X.cell? E = some e ∧ X.cell? F = some f ∧ Below W.heap.size W X) (g : Below X.heap.size X Y) :
    Y.cell? A = some a ∧ Y.cell? B = some b ∧ Y.cell? C = some c ∧ Y.cell? D = some d ∧ Y.cell? E = some e ∧ Y.cell? F = some f ∧ Below W.heap.size W Y := by
  obtain ⟨h1, h2, h3, h4, h5, h6, hb⟩ := h
  have hz := hb.size
  exact ⟨(g.cell (by omega)).trans h1, (g.cell (by omega)).trans h2, (g.cell (by omega)).trans h3, (g.cell (by omega)).trans h4, (g.cell (by omega)).trans h5, (g.cell (by omega)).trans h6, hb.trans (g.mono hz)⟩

def okL (x : Int × Int × Int) : Bool := decide (0 ≤ x.1) && decide (x.1 ≤ 3) && (decide (0 ≤ x.2.1) && decide (x.2.1 ≤ 6)) && (decide (0 ≤ x.2.2) && decide (x.2.2 ≤ 7))

def hitL (d t : Int) (x : Int × Int × Int) : Bool := decide (x.1 = d) && decide (x.2.1 = t)

/-- the place of the first line of d and t; -1: none. -/
def atK (ls : List (Int × Int × Int)) (d t : Int) : Int :=
  match (List.range ls.length).find? (fun i => hitL d t (g3 ls i)) with
  | some i => (i : Int)
  | none => -1

theorem findL {p : Nat → Bool} {n k : Nat} (hk : k < n) (hno : ∀ j, j < k → p j = false) (hp : p k = true) : (List.range n).find? p = some k := by
  rw [List.find?_range_eq_some]
  exact ⟨hp, by simpa using hk, fun j hj => by simp [hno j hj]⟩

theorem findN {p : Nat → Bool} {n : Nat} (hno : ∀ j, j < n → p j = false) : (List.range n).find? p = none := by
  rw [List.find?_eq_none]
  intro j hj
  simp [hno j (List.mem_range.1 hj)]

theorem atK_hit {ls : List (Int × Int × Int)} {d t : Int} {k : Nat} (hk : k < ls.length) (hno : ∀ j, j < k → hitL d t (g3 ls j) = false) (hp : hitL d t (g3 ls k) = true) : atK ls d t = (k : Int) := by
  unfold atK
  rw [findL hk hno hp]

theorem atK_none {ls : List (Int × Int × Int)} {d t : Int} (hno : ∀ j, j < ls.length → hitL d t (g3 ls j) = false) : atK ls d t = -1 := by
  unfold atK
  rw [findN hno]

/-- the first k lines are not of d and t, or one of them is. -/
theorem hit_or (ls : List (Int × Int × Int)) (d t : Int) : ∀ k : Nat, (∀ j, j < k → hitL d t (g3 ls j) = false) ∨ ∃ i, i < k ∧ (∀ j, j < i → hitL d t (g3 ls j) = false) ∧ hitL d t (g3 ls i) = true
  | 0 => .inl (fun j hj => by omega)
  | k + 1 => by
    rcases hit_or ls d t k with h | ⟨i, h1, h2, h3⟩
    · by_cases e : hitL d t (g3 ls k) = true
      · exact .inr ⟨k, by omega, h, e⟩
      · refine .inl (fun j hj => ?_)
        by_cases e2 : j = k
        · subst e2; simpa using e
        · exact h j (by omega)
    · exact .inr ⟨i, by omega, h2, h3⟩

theorem atK_lt (ls : List (Int × Int × Int)) (d t : Int) : -1 ≤ atK ls d t ∧ atK ls d t < ls.length := by
  rcases hit_or ls d t ls.length with h | ⟨i, h1, h2, h3⟩
  · rw [atK_none h]; omega
  · rw [atK_hit h1 h2 h3]; omega

theorem hitL_self (x : Int × Int × Int) : hitL x.1 x.2.1 x = true := by simp [hitL]

/-- ahead of line k none is of its domain and tag, just where it is the first of them. -/
theorem atK_take {ls : List (Int × Int × Int)} {k : Nat} (hk : k < ls.length) : (atK (ls.take k) (g3 ls k).1 (g3 ls k).2.1 < 0) ↔ atK ls (g3 ls k).1 (g3 ls k).2.1 = (k : Int) := by
  rcases hit_or ls (g3 ls k).1 (g3 ls k).2.1 k with h | ⟨i, h1, h2, h3⟩
  · have e1 : atK (ls.take k) (g3 ls k).1 (g3 ls k).2.1 = -1 := atK_none (fun j hj => by rw [List.length_take] at hj; rw [g3_take ls (by omega)]; exact h j (by omega))
    have e2 : atK ls (g3 ls k).1 (g3 ls k).2.1 = (k : Int) := atK_hit hk h (hitL_self _)
    rw [e1, e2]; omega
  · have e1 : atK (ls.take k) (g3 ls k).1 (g3 ls k).2.1 = (i : Int) := atK_hit (by rw [List.length_take]; omega) (fun j hj => by rw [g3_take ls (by omega)]; exact h2 j hj) (by rw [g3_take ls h1]; exact h3)
    have e2 : atK ls (g3 ls k).1 (g3 ls k).2.1 = (i : Int) := atK_hit (by omega) h2 h3
    rw [e1, e2]; omega

/-- what is wrong with line i. -/
def lineF (ls : List (Int × Int × Int)) (i : Nat) : Int :=
  if okL (g3 ls i) = false then 3 else if atK ls (g3 ls i).1 (g3 ls i).2.1 = (i : Int) then 0 else 8

theorem lineF_range {ls : List (Int × Int × Int)} {i : Nat} (h : okL (g3 ls i) = false) : lineF ls i = 3 := if_pos h

theorem lineF_state {ls : List (Int × Int × Int)} {i : Nat} (h : okL (g3 ls i) = true) (h2 : atK ls (g3 ls i).1 (g3 ls i).2.1 ≠ (i : Int)) : lineF ls i = 8 := by
  unfold lineF
  rw [if_neg (by rw [h]; simp), if_neg h2]

theorem lineF_ok {ls : List (Int × Int × Int)} {i : Nat} (h : okL (g3 ls i) = true) (h2 : atK ls (g3 ls i).1 (g3 ls i).2.1 = (i : Int)) : lineF ls i = 0 := by
  unfold lineF
  rw [if_neg (by rw [h]; simp), if_pos h2]

def faultC (s : Int) (ls : List (Int × Int × Int)) : Int :=
  if (decide (0 ≤ s) && decide (s ≤ 6)) = false then 3
  else if s < (ls.length : Int) then 2
  else match (List.range ls.length).find? (fun i => !(lineF ls i == 0)) with
    | some i => lineF ls i
    | none => 0

theorem faultC_size {s : Int} {ls : List (Int × Int × Int)} (h : (decide (0 ≤ s) && decide (s ≤ 6)) = false) : faultC s ls = 3 := if_pos h

theorem faultC_many {s : Int} {ls : List (Int × Int × Int)} (h : (decide (0 ≤ s) && decide (s ≤ 6)) = true) (h2 : s < (ls.length : Int)) : faultC s ls = 2 := by
  unfold faultC
  rw [if_neg (by rw [h]; simp), if_pos h2]

theorem faultC_hit {s : Int} {ls : List (Int × Int × Int)} {k : Nat} (h : (decide (0 ≤ s) && decide (s ≤ 6)) = true) (h2 : ¬ s < (ls.length : Int)) (hk : k < ls.length) (hno : ∀ j, j < k → lineF ls j = 0) (hp : lineF ls k ≠ 0) : faultC s ls = lineF ls k := by
  unfold faultC
  rw [if_neg (by rw [h]; simp), if_neg h2, findL hk (fun j hj => by simp [hno j hj]) (by simpa using hp)]

theorem faultC_ok {s : Int} {ls : List (Int × Int × Int)} (h : (decide (0 ≤ s) && decide (s ≤ 6)) = true) (h2 : ¬ s < (ls.length : Int)) (hno : ∀ j, j < ls.length → lineF ls j = 0) : faultC s ls = 0 := by
  unfold faultC
  rw [if_neg (by rw [h]; simp), if_neg h2, findN (fun j hj => by simp [hno j hj])]

theorem faultC_inv {s : Int} {ls : List (Int × Int × Int)} (h : faultC s ls = 0) : 0 ≤ s ∧ s ≤ 6 ∧ (ls.length : Int) ≤ s ∧ ∀ j, j < ls.length → okL (g3 ls j) = true ∧ atK ls (g3 ls j).1 (g3 ls j).2.1 = (j : Int) := by
  by_cases h1 : (decide (0 ≤ s) && decide (s ≤ 6)) = true
  · by_cases h2 : s < (ls.length : Int)
    · rw [faultC_many h1 h2] at h; omega
    · have hb : 0 ≤ s ∧ s ≤ 6 := by simpa using h1
      refine ⟨hb.1, hb.2, by omega, ?_⟩
      have hall : ∀ j, j < ls.length → lineF ls j = 0 := by
        unfold faultC at h
        rw [if_neg (by rw [h1]; simp), if_neg h2] at h
        intro j hj
        cases hf : (List.range ls.length).find? (fun i => !(lineF ls i == 0)) with
        | none =>
          rw [List.find?_eq_none] at hf
          have := hf j (List.mem_range.2 hj)
          simpa using this
        | some i =>
          rw [hf] at h
          have := List.find?_some hf
          simp at this
          exact absurd h this
      intro j hj
      have h3 := hall j hj
      unfold lineF at h3
      by_cases e1 : okL (g3 ls j) = false
      · rw [if_pos e1] at h3; omega
      · rw [if_neg e1] at h3
        by_cases e2 : atK ls (g3 ls j).1 (g3 ls j).2.1 = (j : Int)
        · exact ⟨by simpa using e1, e2⟩
        · rw [if_neg e2] at h3; omega
  · rw [faultC_size (by simpa using h1)] at h; omega

/-- the code of what is wrong up to line k is that of all. -/
theorem faultC_at {s : Int} {ls : List (Int × Int × Int)} {k : Nat} {c : Int} (h : (decide (0 ≤ s) && decide (s ≤ 6)) = true) (h2 : ¬ s < (ls.length : Int)) (hk : k < ls.length) (hno : ∀ j, j < k → lineF ls j = 0) (hc : lineF ls k = c) (h0 : c ≠ 0) : faultC s ls = c := by
  rw [faultC_hit h h2 hk hno (by rw [hc]; exact h0), hc]

set_option maxRecDepth 100000 in
theorem l4Line_calls (b o : Nat) (d t p : Int) (w : World) (c0 : w.cell? ⟨b, o, none⟩ = some (.int .i64 d)) (c1 : w.cell? ⟨b, o + 1, none⟩ = some (.int .i64 t)) (c2 : w.cell? ⟨b, o + 2, none⟩ = some (.int .i64 p)) :
    Calls Tryz.prog 52 #[.pointer (some ⟨b, o, none⟩)] w fun e w' => e = .returned (.bool (okL (d, t, p))) ∧ Below w.heap.size w w' := by
  have hb : b < w.heap.size := World.block_lt_of_cell? _ _ c0
  by_cases h1 : (decide (0 ≤ d) && decide (d ≤ 3)) = true
  · by_cases h2 : (decide (0 ≤ t) && decide (t ≤ 6)) = true
    · have HR : Hid (okL (d, t, p) = (decide (0 ≤ p) && decide (p ≤ 7))) := by show okL _ = _; simp [okL, h1, h2]
      go_enter Tryz.func52, Tryz.ntmps52
      go_wp2_with fail
      refine (in_calls d 0 3 _).mono ?_
      rintro e w1 ⟨rfl, g1⟩
      rw [h1]
      have c1' := (g1.cell (p := ⟨b, o + 1, none⟩) hb).trans c1
      have c2' := (g1.cell (p := ⟨b, o + 2, none⟩) hb).trans c2
      clear c0 c1 c2
      go_wp2_with fail
      refine (in_calls t 0 6 _).mono ?_
      rintro e w2 ⟨rfl, g2⟩
      rw [h2]
      have g3 := g1.trans (g2.mono g1.size)
      have c2'' := (g2.cell (p := ⟨b, o + 2, none⟩) (by have := g1.size; show b < _; omega)).trans c2'
      clear c1' c2' g1 g2
      go_wp2_with fail
      refine (in_calls p 0 7 _).mono ?_
      rintro e w3 ⟨rfl, g4⟩
      have HB := hide (g3.trans (g4.mono g3.size))
      clear g3 g4
      rw [← HR.out]
      go_wp2
      go_ret
      exact ⟨rfl, HB.out⟩
    · have h2' : (decide (0 ≤ t) && decide (t ≤ 6)) = false := by simpa using h2
      have HR : Hid (okL (d, t, p) = false) := by show okL _ = _; unfold okL; simp only; rw [h2']; simp
      clear h2
      go_enter Tryz.func52, Tryz.ntmps52
      go_wp2_with fail
      refine (in_calls d 0 3 _).mono ?_
      rintro e w1 ⟨rfl, g1⟩
      rw [h1]
      have c1' := (g1.cell (p := ⟨b, o + 1, none⟩) hb).trans c1
      clear c0 c1 c2
      go_wp2_with fail
      refine (in_calls t 0 6 _).mono ?_
      rintro e w2 ⟨rfl, g2⟩
      rw [h2']
      have HB := hide (g1.trans (g2.mono g1.size))
      clear c1' g1 g2
      go_wp2
      go_ret
      exact ⟨ret_bool HR.out.symm, HB.out⟩
  · have h1' : (decide (0 ≤ d) && decide (d ≤ 3)) = false := by simpa using h1
    have HR : Hid (okL (d, t, p) = false) := by show okL _ = _; unfold okL; simp only; rw [h1']; simp
    clear h1
    go_enter Tryz.func52, Tryz.ntmps52
    go_wp2_with fail
    refine (in_calls d 0 3 _).mono ?_
    rintro e w1 ⟨rfl, g1⟩
    rw [h1']
    have HB := hide g1
    clear c0 c1 c2 g1
    go_wp2
    go_ret
    exact ⟨ret_bool HR.out.symm, HB.out⟩

set_option maxRecDepth 100000 in
theorem l4At_calls (P : Nat) (a : Option Addr) (n c : Nat) (ls : List (Int × Int × Int)) (d t : Int) (w : World) (hn : n ≤ maxLen) (h0 : w.cell? ⟨P, 1, none⟩ = some (.slice a n c)) (hs : Sln w a n ls) :
    Calls Tryz.prog 53 #[.pointer (some ⟨P, 0, none⟩), .int .i64 d, .int .i64 t] w fun e w' => e = .returned (.int .i64 (atK ls d t)) ∧ Below w.heap.size w w' := by
  unfold maxLen at hn
  obtain ⟨hlen, hs⟩ := hs
  go_enter Tryz.func53, Tryz.ntmps53
  go_wp2
  go_loop [7] (fun i => ∃ k : Nat, k ≤ n ∧ i = .int .i64 k ∧ ∀ j, j < k → hitL d t (g3 ls j) = false) (fun i => n - (intOf i).toNat)
  case atStart => exact ⟨0, Nat.zero_le _, rfl, fun j hj => by omega⟩
  case round =>
    obtain ⟨k, hk, rfl, hno⟩ := hrel
    by_cases hlt : k < n
    · obtain ⟨b, off, rfl, hb, hc⟩ := hs (by omega)
      obtain ⟨hc0, hc1, _⟩ := cells3 hc hlt
      clear hc
      by_cases h1 : (g3 ls k).1 = d
      · have e1 : ((g3 ls k).1 == d) = true := by simpa using h1
        by_cases h2 : (g3 ls k).2.1 = t
        · have e2 : ((g3 ls k).2.1 == t) = true := by simpa using h2
          have HR := hide (atK_hit (by omega) hno (show hitL d t (g3 ls k) = true by simp [hitL, h1, h2]))
          clear h1 h2
          go_wp2
          go_ret
          exact ⟨ret_int HR.out.symm, Below.refl _ _⟩
        · have e2 : ((g3 ls k).2.1 == t) = false := by simpa using h2
          have HN : Hid (∀ j, j < k + 1 → hitL d t (g3 ls j) = false) := fun j hj => by
            by_cases e : j = k
            · subst e; simp [hitL, h2]
            · exact hno j (by omega)
          clear h1 h2
          go_wp2
          go_round
          case rel => exact ⟨k + 1, by omega, by go_num, HN.out⟩
          case measure => simp [intOf]; omega
      · have e1 : ((g3 ls k).1 == d) = false := by simpa using h1
        have HN : Hid (∀ j, j < k + 1 → hitL d t (g3 ls j) = false) := fun j hj => by
          by_cases e : j = k
          · subst e; simp [hitL, h1]
          · exact hno j (by omega)
        clear h1
        go_wp2
        go_round
        case rel => exact ⟨k + 1, by omega, by go_num, HN.out⟩
        case measure => simp [intOf]; omega
    · have HR := hide (atK_none (ls := ls) (fun j hj => hno j (by omega)))
      go_wp2
      go_ret
      exact ⟨ret_int HR.out.symm, Below.refl _ _⟩

end Go.Proofs.YtnibngigbcakkaaGreat
