import Derived.Test.YtnlkigjgloeonaaGreatWtL
import Derived.WalkKit
import Derived.ProofKit
import Derived.OpenShut
import Derived.ShutString
import Derived.ChangeOld
import Derived.Below
import Derived.WalkSpells
import Derived.Deep.QuietTactic
import Derived.BigQuiet
import Derived.Deep.RegionWith
import Derived.Deep.WholeRow
import Derived.Deep.DeepCutAuto
import Derived.Deep.RegionHeld2
import Derived.Deep.AppendLies
import Derived.Deep.RegionLaw
namespace Go.Proofs.YtnlkigjgloeonaaGreat
open Go.ChangeShapes Go.WideShapes Go.ChangeAt Go.RowKit

/-- a number from 0 to m. -/
def up (v m : Int) : Bool := decide (0 ≤ v) && decide (v ≤ m)

theorem up_iff {v m : Int} : up v m = true ↔ 0 ≤ v ∧ v ≤ m := by simp [up]

def okW (t : Int) (x : Int × Int) : Bool := up x.1 65535 && up x.2 t

/-- MemoryFault, of the list of words. -/
def mfC (t : Int) (ls : List (Int × Int)) : Int := if up t 6 = false then 3 else if 32 < (ls.length : Int) then 2 else if ls.all (okW t) then 0 else 3

theorem mfC_range {t : Int} {ls : List (Int × Int)} (h : up t 6 = false) : mfC t ls = 3 := if_pos h

theorem mfC_many {t : Int} {ls : List (Int × Int)} (h : up t 6 = true) (h2 : 32 < (ls.length : Int)) : mfC t ls = 2 := by
  unfold mfC
  rw [if_neg (by rw [h]; simp), if_pos h2]

theorem gw_mem {ls : List (Int × Int)} {k : Nat} (h : k < ls.length) : gw ls k ∈ ls := by
  simp [gw, h]

theorem mfC_bad {t : Int} {ls : List (Int × Int)} {k : Nat} (h : up t 6 = true) (h2 : ¬ 32 < (ls.length : Int)) (hk : k < ls.length) (hb : okW t (gw ls k) = false) : mfC t ls = 3 := by
  unfold mfC
  rw [if_neg (by rw [h]; simp), if_neg h2, if_neg]
  intro ha
  rw [List.all_eq_true] at ha
  rw [ha _ (gw_mem hk)] at hb
  exact absurd hb (by simp)

theorem mem_gw {ls : List (Int × Int)} {x : Int × Int} (h : x ∈ ls) : ∃ k, k < ls.length ∧ gw ls k = x := by
  obtain ⟨k, hk, e⟩ := List.getElem_of_mem h
  exact ⟨k, hk, by simp [gw, hk, e]⟩

theorem mfC_ok {t : Int} {ls : List (Int × Int)} (h : up t 6 = true) (h2 : ¬ 32 < (ls.length : Int)) (ha : ∀ j, j < ls.length → okW t (gw ls j) = true) : mfC t ls = 0 := by
  unfold mfC
  rw [if_neg (by rw [h]; simp), if_neg h2, if_pos]
  rw [List.all_eq_true]
  intro x hx
  obtain ⟨k, hk, rfl⟩ := mem_gw hx
  exact ha k hk

theorem mfC_len {t : Int} {ls : List (Int × Int)} (h : mfC t ls = 0) : ls.length ≤ 32 := by
  unfold mfC at h
  by_cases h1 : up t 6 = false
  · rw [if_pos h1] at h; omega
  · rw [if_neg h1] at h
    by_cases h2 : 32 < (ls.length : Int)
    · rw [if_pos h2] at h; omega
    · omega

/-- are k words from f on all there, of n? -/
def hasW (n : Nat) (f k : Int) : Bool := up f n && up k ((n : Int) - f)

theorem hasW_one (n : Nat) (f : Int) : hasW n f 1 = up f ((n : Int) - 1) := by
  rw [Bool.eq_iff_iff]
  simp [hasW, up]
  omega

/-- LoadWord: its code and its word. -/
def lwC (ls : List (Int × Int)) (p : Int) : Int := if mfC 6 ls ≠ 0 then mfC 6 ls else if up p ((ls.length : Int) - 1) = true then 0 else 3

def lwX (ls : List (Int × Int)) (p : Int) : Int × Int := if lwC ls p = 0 then gw ls p.toNat else (0, 0)

theorem lwC_fault {ls : List (Int × Int)} {p : Int} (h : mfC 6 ls ≠ 0) : lwC ls p = mfC 6 ls ∧ lwX ls p = (0, 0) := by
  have e : lwC ls p = mfC 6 ls := if_pos h
  exact ⟨e, if_neg (by rw [e]; exact h)⟩

theorem lwC_out {ls : List (Int × Int)} {p : Int} (h : mfC 6 ls = 0) (h2 : up p ((ls.length : Int) - 1) = false) : lwC ls p = 3 ∧ lwX ls p = (0, 0) := by
  have e : lwC ls p = 3 := by unfold lwC; rw [if_neg (by rw [h]; simp), if_neg (by rw [h2]; simp)]
  exact ⟨e, if_neg (by rw [e]; simp)⟩

theorem lwC_ok {ls : List (Int × Int)} {p : Int} (h : mfC 6 ls = 0) (h2 : up p ((ls.length : Int) - 1) = true) : lwC ls p = 0 ∧ lwX ls p = gw ls p.toNat := by
  have e : lwC ls p = 0 := by unfold lwC; rw [if_neg (by rw [h]; simp), if_pos h2]
  exact ⟨e, if_pos e⟩

/-- StoreWord: its code and its words. -/
def swC (ls : List (Int × Int)) (p v : Int) : Int := if mfC 6 ls ≠ 0 then mfC 6 ls else if (up p ((ls.length : Int) - 1) && up v 65535) = true then 0 else 3

def swL (ls : List (Int × Int)) (p v : Int) : List (Int × Int) := if swC ls p v = 0 then ls.set p.toNat (v, (gw ls p.toNat).2) else []

theorem swC_fault {ls : List (Int × Int)} {p v : Int} (h : mfC 6 ls ≠ 0) : swC ls p v = mfC 6 ls ∧ swL ls p v = [] := by
  have e : swC ls p v = mfC 6 ls := if_pos h
  exact ⟨e, if_neg (by rw [e]; exact h)⟩

theorem swC_out {ls : List (Int × Int)} {p v : Int} (h : mfC 6 ls = 0) (h2 : (up p ((ls.length : Int) - 1) && up v 65535) = false) : swC ls p v = 3 ∧ swL ls p v = [] := by
  have e : swC ls p v = 3 := by unfold swC; rw [if_neg (by rw [h]; simp), if_neg (by rw [h2]; simp)]
  exact ⟨e, if_neg (by rw [e]; simp)⟩

theorem swC_ok {ls : List (Int × Int)} {p v : Int} (h : mfC 6 ls = 0) (h2 : (up p ((ls.length : Int) - 1) && up v 65535) = true) : swC ls p v = 0 ∧ swL ls p v = ls.set p.toNat (v, (gw ls p.toNat).2) := by
  have e : swC ls p v = 0 := by unfold swC; rw [if_neg (by rw [h]; simp), if_pos h2]
  exact ⟨e, if_pos e⟩

/-- k words from f on are marked anew. -/
def rtK (ls : List (Int × Int)) (f : Nat) (g : Int) : Nat → List (Int × Int)
  | 0 => ls
  | k + 1 => (rtK ls f g k).set (f + k) (0, g)

theorem length_rtK (ls : List (Int × Int)) (f : Nat) (g : Int) : ∀ k, (rtK ls f g k).length = ls.length
  | 0 => rfl
  | k + 1 => by simp [rtK, length_rtK ls f g k]

/-- RetagWords: its code and its words. -/
def rtC (ls : List (Int × Int)) (f k g : Int) : Int := if mfC 6 ls ≠ 0 then mfC 6 ls else if (hasW ls.length f k && up g 6) = true then 0 else 3

def rtL (ls : List (Int × Int)) (f k g : Int) : List (Int × Int) := if rtC ls f k g = 0 then rtK ls f.toNat g k.toNat else []

theorem rtC_fault {ls : List (Int × Int)} {f k g : Int} (h : mfC 6 ls ≠ 0) : rtC ls f k g = mfC 6 ls ∧ rtL ls f k g = [] := by
  have e : rtC ls f k g = mfC 6 ls := if_pos h
  exact ⟨e, if_neg (by rw [e]; exact h)⟩

theorem rtC_out {ls : List (Int × Int)} {f k g : Int} (h : mfC 6 ls = 0) (h2 : (hasW ls.length f k && up g 6) = false) : rtC ls f k g = 3 ∧ rtL ls f k g = [] := by
  have e : rtC ls f k g = 3 := by unfold rtC; rw [if_neg (by rw [h]; simp), if_neg (by rw [h2]; simp)]
  exact ⟨e, if_neg (by rw [e]; simp)⟩

theorem rtC_ok {ls : List (Int × Int)} {f k g : Int} (h : mfC 6 ls = 0) (h2 : (hasW ls.length f k && up g 6) = true) : rtC ls f k g = 0 ∧ rtL ls f k g = rtK ls f.toNat g k.toNat := by
  have e : rtC ls f k g = 0 := by unfold rtC; rw [if_neg (by rw [h]; simp), if_pos h2]
  exact ⟨e, if_pos e⟩

/-- how many of the first k words have tag g. -/
def cgK (ls : List (Int × Int)) (g : Int) : Nat → Int
  | 0 => 0
  | k + 1 => cgK ls g k + (if (gw ls k).2 = g then 1 else 0)

theorem cgK_le (ls : List (Int × Int)) (g : Int) : ∀ k : Nat, 0 ≤ cgK ls g k ∧ cgK ls g k ≤ k
  | 0 => by simp [cgK]
  | k + 1 => by
    have h := cgK_le ls g k
    unfold cgK
    by_cases e : (gw ls k).2 = g
    · rw [if_pos e]; omega
    · rw [if_neg e]; omega

theorem cgK_hit {ls : List (Int × Int)} {g : Int} {k : Nat} (h : (gw ls k).2 = g) : cgK ls g (k + 1) = cgK ls g k + 1 := by
  show cgK ls g k + (if (gw ls k).2 = g then 1 else 0) = _
  rw [if_pos h]

theorem cgK_miss {ls : List (Int × Int)} {g : Int} {k : Nat} (h : ¬ (gw ls k).2 = g) : cgK ls g (k + 1) = cgK ls g k := by
  show cgK ls g k + (if (gw ls k).2 = g then 1 else 0) = _
  rw [if_neg h]; omega

/-- CountTag. -/
def cgV (ls : List (Int × Int)) (g : Int) : Int := if mfC 6 ls = 0 then cgK ls g ls.length else 0

set_option maxRecDepth 100000 in
theorem isUpTo_calls (v m : Int) (w : World) :
    Calls Tryz.prog 85 #[.int .i64 v, .int .i64 m] w fun e w' => e = .returned (.bool (up v m)) ∧ w' = w := by
  by_cases h1 : 0 ≤ v
  · by_cases h2 : v ≤ m
    all_goals
      go_enter Tryz.func85, Tryz.ntmps85
      go_wp2
      go_ret
      exact ⟨ret_bool (by simp [up, h1, h2]), rfl⟩
  · go_enter Tryz.func85, Tryz.ntmps85
    go_wp2
    go_ret
    exact ⟨ret_bool (by simp [up]; omega), rfl⟩

set_option maxRecDepth 100000 in
theorem inUp_calls (v m : Int) (w : World) :
    Calls Tryz.prog 71 #[.int .i64 v, .int .i64 0, .int .i64 m] w fun e w' => e = .returned (.bool (up v m)) ∧ w' = w := by
  by_cases h1 : 0 ≤ v
  · by_cases h2 : v ≤ m
    all_goals
      go_enter Tryz.func71, Tryz.ntmps71
      go_wp2
      go_ret
      exact ⟨ret_bool (by simp [up, h1, h2]), rfl⟩
  · go_enter Tryz.func71, Tryz.ntmps71
    go_wp2
    go_ret
    exact ⟨ret_bool (by simp [up]; omega), rfl⟩

set_option maxRecDepth 100000 in
theorem implMemoryFault_calls (a : Option Addr) (n c : Nat) (ls : List (Int × Int)) (t : Int) (w : World) (hn : n ≤ maxLen) (hs : Swd w a n ls) :
    Calls Tryz.prog 83 #[.agg #[.slice a n c], .int .i64 t] w fun e w' => e = .returned (.int .i64 (mfC t ls)) ∧ Below w.heap.size w w' := by
  unfold maxLen at hn
  have hlen := hs.1
  have HB := hide ((Below.refl w.heap.size w).alloc (Nat.le_refl _) (.cells #[.slice a n c] 56))
  cases h0 : up t 6 with
  | false =>
    have HR := hide (mfC_range (ls := ls) h0)
    go_enter Tryz.func83, Tryz.ntmps83
    go_wp2_with (go_at_call 85; refine (isUpTo_calls _ _ _).mono ?_; rintro e w' ⟨rfl, rfl⟩)
    go_ret
    exact ⟨ret_int HR.out.symm, HB.out⟩
  | true =>
    by_cases h1 : 32 < (n : Int)
    · have HR := hide (mfC_many (ls := ls) h0 (by omega))
      go_enter Tryz.func83, Tryz.ntmps83
      go_wp2_with (go_at_call 85; refine (isUpTo_calls _ _ _).mono ?_; rintro e w' ⟨rfl, rfl⟩)
      go_ret
      exact ⟨ret_int HR.out.symm, HB.out⟩
    · have HB0 : Hid (Below w.heap.size w w) := Below.refl _ _
      go_enter Tryz.func83, Tryz.ntmps83
      go_wp2_with (go_at_call 85; refine (isUpTo_calls _ _ _).mono ?_; rintro e w' ⟨rfl, rfl⟩)
      go_loopw [17] (fun i wr => ∃ k : Nat, k ≤ n ∧ i = .int .i64 k ∧ Below w.heap.size w wr ∧ ∀ j, j < k → okW t (gw ls j) = true) (fun i _ => n - (intOf i).toNat)
      case atStart => exact ⟨0, Nat.zero_le _, rfl, HB.out, fun j hj => by omega⟩
      case round =>
        obtain ⟨k, hk, rfl, hbel, hno⟩ := hrel
        by_cases hlt : k < n
        · obtain ⟨b, off, rfl, hb, hc⟩ := (hs.below hbel (Nat.le_refl _)).2 (by omega)
          obtain ⟨r0, r1⟩ := cellsw hc hlt
          clear hc
          have HE := hide (hbel.alloc hbel.size (.cells #[.int .i64 (gw ls k).1, .int .i64 (gw ls k).2] 129))
          cases h2 : up (gw ls k).1 65535 with
          | false =>
            have HR := hide (mfC_bad (k := k) h0 (by omega) (by omega) (show okW t (gw ls k) = false by simp [okW, h2]))
            clear hno hbel
            go_wp2_with (go_at_call 85; refine (isUpTo_calls _ _ _).mono ?_; rintro e w' ⟨rfl, rfl⟩)
            go_ret
            exact ⟨ret_int HR.out.symm, HE.out⟩
          | true =>
            cases h3 : up (gw ls k).2 t with
            | false =>
              have HR := hide (mfC_bad (k := k) h0 (by omega) (by omega) (show okW t (gw ls k) = false by simp [okW, h3]))
              clear hno hbel
              go_wp2_with (go_at_call 85; refine (isUpTo_calls _ _ _).mono ?_; rintro e w' ⟨rfl, rfl⟩)
              go_ret
              exact ⟨ret_int HR.out.symm, HE.out⟩
            | true =>
              have HN : Hid (∀ j, j < k + 1 → okW t (gw ls j) = true) := fun j hj => by
                by_cases e : j = k
                · subst e; simp [okW, h2, h3]
                · exact hno j (by omega)
              clear hno hbel
              go_wp2_with (go_at_call 85; refine (isUpTo_calls _ _ _).mono ?_; rintro e w' ⟨rfl, rfl⟩)
              go_roundw
              case rel => exact ⟨k + 1, by omega, by go_num, HE.out, HN.out⟩
              case measure => simp [intOf]; omega
        · have HR := hide (mfC_ok (ls := ls) h0 (by omega) (fun j hj => hno j (by omega)))
          clear hno
          go_wp2
          go_ret
          exact ⟨ret_int HR.out.symm, hbel⟩

set_option maxRecDepth 100000 in
theorem l6Fault3_calls (P : Nat) (a : Option Addr) (n c : Nat) (ls : List (Int × Int)) (t : Int) (w : World) (hn : n ≤ maxLen) (hp : w.cell? ⟨P, 3, none⟩ = some (.slice a n c)) (hs : Swd w a n ls) :
    Calls Tryz.prog 64 #[.pointer (some ⟨P, 3, none⟩), .int .i64 t] w fun e w' => e = .returned (.int .i64 (mfC t ls)) ∧ w' = w := by
  unfold maxLen at hn
  have hlen := hs.1
  cases h0 : up t 6 with
  | false =>
    have HR := hide (mfC_range (ls := ls) h0)
    go_enter Tryz.func64, Tryz.ntmps64
    go_wp2_with (go_at_call 71; refine (inUp_calls _ _ _).mono ?_; rintro e w' ⟨rfl, rfl⟩)
    go_ret
    exact ⟨ret_int HR.out.symm, rfl⟩
  | true =>
    by_cases h1 : 32 < (n : Int)
    · have HR := hide (mfC_many (ls := ls) h0 (by omega))
      go_enter Tryz.func64, Tryz.ntmps64
      go_wp2_with (go_at_call 71; refine (inUp_calls _ _ _).mono ?_; rintro e w' ⟨rfl, rfl⟩)
      go_ret
      exact ⟨ret_int HR.out.symm, rfl⟩
    · go_enter Tryz.func64, Tryz.ntmps64
      go_wp2_with (go_at_call 71; refine (inUp_calls _ _ _).mono ?_; rintro e w' ⟨rfl, rfl⟩)
      go_loop [5] (fun i => ∃ k : Nat, k ≤ n ∧ i = .int .i64 k ∧ ∀ j, j < k → okW t (gw ls j) = true) (fun i => n - (intOf i).toNat)
      case atStart => exact ⟨0, Nat.zero_le _, rfl, fun j hj => by omega⟩
      case round =>
        obtain ⟨k, hk, rfl, hno⟩ := hrel
        by_cases hlt : k < n
        · obtain ⟨b, off, rfl, hb, hc⟩ := hs.2 (by omega)
          obtain ⟨r0, r1⟩ := cellsw hc hlt
          clear hc
          cases h2 : up (gw ls k).1 65535 with
          | false =>
            have HR := hide (mfC_bad (k := k) h0 (by omega) (by omega) (show okW t (gw ls k) = false by simp [okW, h2]))
            clear hno
            go_wp2_with (go_at_call 71; refine (inUp_calls _ _ _).mono ?_; rintro e w' ⟨rfl, rfl⟩)
            go_ret
            exact ⟨ret_int HR.out.symm, rfl⟩
          | true =>
            cases h3 : up (gw ls k).2 t with
            | false =>
              have HR := hide (mfC_bad (k := k) h0 (by omega) (by omega) (show okW t (gw ls k) = false by simp [okW, h3]))
              clear hno
              go_wp2_with (go_at_call 71; refine (inUp_calls _ _ _).mono ?_; rintro e w' ⟨rfl, rfl⟩)
              go_ret
              exact ⟨ret_int HR.out.symm, rfl⟩
            | true =>
              have HN : Hid (∀ j, j < k + 1 → okW t (gw ls j) = true) := fun j hj => by
                by_cases e : j = k
                · subst e; simp [okW, h2, h3]
                · exact hno j (by omega)
              clear hno
              go_wp2_with (go_at_call 71; refine (inUp_calls _ _ _).mono ?_; rintro e w' ⟨rfl, rfl⟩)
              go_round
              case rel => exact ⟨k + 1, by omega, by go_num, HN.out⟩
              case measure => simp [intOf]; omega
        · have HR := hide (mfC_ok (ls := ls) h0 (by omega) (fun j hj => hno j (by omega)))
          clear hno
          go_wp2
          go_ret
          exact ⟨ret_int HR.out.symm, rfl⟩

end Go.Proofs.YtnlkigjgloeonaaGreat
