import Derived.Test.YtnlkigjgloeonaaGreatSysP
import Derived.Test.YtnlkigjgloeonaaGreatWmFT
import Derived.Test.YtnlkigjgloeonaaGreatK6
import Derived.WalkKit
import Derived.ProofKit
import Derived.OpenShut
import Derived.ShutString
import Derived.ChangeOld
import Derived.Below
import Derived.WalkSpells
import Derived.Deep.QuietTactic
import Derived.BigQuiet
import Derived.Deep.RegionWith
import Derived.Deep.WholeRow
import Derived.Deep.DeepCutAuto
import Derived.Deep.RegionHeld2
import Derived.Deep.AppendLies
import Derived.Deep.RegionLaw
namespace Go.Proofs.YtnlkigjgloeonaaGreat
open Go.ChangeShapes Go.WideShapes Go.ChangeAt Go.RowKit

def okv (v : Int) : Bool := up v 65535

/-- what is wrong with a context. -/
def ctxF (c : List Int × Int × Bool) : Int := if c.1.length = 8 then (if (c.1.all okv && okv c.2.1) = true then 0 else 3) else 1

theorem ctxF_len {c : List Int × Int × Bool} (h : c.1.length ≠ 8) : ctxF c = 1 := if_neg h

theorem ctxF_ok {c : List Int × Int × Bool} (h : c.1.length = 8) (h1 : c.1.all okv = true) (h2 : okv c.2.1 = true) : ctxF c = 0 := by
  unfold ctxF
  rw [if_pos h, h1, h2]; rfl

theorem ctxF_bad {c : List Int × Int × Bool} (h : c.1.length = 8) (h1 : (c.1.all okv && okv c.2.1) = false) : ctxF c = 3 := by
  unfold ctxF
  rw [if_pos h, h1]; rfl

theorem ctxF_inv {c : List Int × Int × Bool} (h : ctxF c = 0) : c.1.length = 8 ∧ c.1.all okv = true ∧ okv c.2.1 = true := by
  unfold ctxF at h
  by_cases h1 : c.1.length = 8
  · rw [if_pos h1] at h
    by_cases h2 : (c.1.all okv && okv c.2.1) = true
    · rw [Bool.and_eq_true] at h2
      exact ⟨h1, h2.1, h2.2⟩
    · rw [if_neg h2] at h; omega
  · rw [if_neg h1] at h; omega

theorem all_okv {zs : List Int} {k : Nat} (hk : k < zs.length) (h : okv (gt zs k) = false) : zs.all okv = false := by
  rw [List.all_eq_false]
  exact ⟨zs[k], List.getElem_mem hk, by simpa [hk, gt] using h⟩

theorem all_okv_yes {zs : List Int} (h : ∀ j, j < zs.length → okv (gt zs j) = true) : zs.all okv = true := by
  rw [List.all_eq_true]
  intro x hx
  obtain ⟨j, hj, rfl⟩ := List.getElem_of_mem hx
  have := h j hj
  simpa [hj, gt] using this

/-- the first code that is not 0. -/
def ffst (n : Nat) (f : Nat → Int) : Int :=
  match (List.range n).find? (fun i => !(f i == 0)) with
  | some i => f i
  | none => 0

theorem ffst_hit {n k : Nat} {f : Nat → Int} (hk : k < n) (hno : ∀ j, j < k → f j = 0) (hp : f k ≠ 0) : ffst n f = f k := by
  unfold ffst
  rw [find_first hk (fun j hj => by simp [hno j hj]) (by simpa using hp)]

theorem ffst_ok {n : Nat} {f : Nat → Int} (hno : ∀ j, j < n → f j = 0) : ffst n f = 0 := by
  unfold ffst
  have : (List.range n).find? (fun i => !(f i == 0)) = none := by
    rw [List.find?_eq_none]
    intro j hj
    simp [hno j (List.mem_range.1 hj)]
  rw [this]

theorem ffst_inv {n : Nat} {f : Nat → Int} (h : ffst n f = 0) : ∀ j, j < n → f j = 0 := by
  unfold ffst at h
  intro j hj
  cases hf : (List.range n).find? (fun i => !(f i == 0)) with
  | none =>
    rw [List.find?_eq_none] at hf
    have := hf j (List.mem_range.2 hj)
    simpa using this
  | some i =>
    rw [hf] at h
    have := List.find?_some hf
    simp at this
    exact absurd h this

def ctxsF (n : Nat) (cs : List (List Int × Int × Bool)) : Int := if cs.length = n ∧ 0 < n then ffst n (fun i => ctxF (gx cs i)) else 1

def gateB (dn : Nat) (g : Int × Int) : Bool := up g.1 ((dn : Int) - 1) && okv g.2

def endsF (dn : Nat) (os : List Int) (gs : List (Int × Int)) : Int := if 40 < os.length ∨ 3 < gs.length then 2 else if os.all okv = true then (if gs.all (gateB dn) = true then 0 else 3) else 3

theorem gates_no {dn : Nat} {gs : List (Int × Int)} {k : Nat} (hk : k < gs.length) (h : gateB dn (gw gs k) = false) : gs.all (gateB dn) = false := by
  rw [List.all_eq_false]
  exact ⟨_, gw_mem hk, by simpa using h⟩

theorem gates_yes {dn : Nat} {gs : List (Int × Int)} (h : ∀ j, j < gs.length → gateB dn (gw gs j) = true) : gs.all (gateB dn) = true := by
  rw [List.all_eq_true]
  intro x hx
  obtain ⟨k, hk, rfl⟩ := mem_gw hx
  exact h k hk

def hasT (n : Nat) (v : Int) : Bool := decide (1 ≤ v) && decide (v ≤ (n : Int))

/-- SystemFault, of what a system reads as. -/
def sysF (D : SD) : Int :=
  if tabF D.ss D.ts D.ds ≠ 0 then tabF D.ss D.ts D.ds
  else if mfC (D.ts.length : Int) D.ws ≠ 0 then mfC (D.ts.length : Int) D.ws
  else if ctxsF D.ds.length D.cs ≠ 0 then ctxsF D.ds.length D.cs
  else if (up D.ac ((D.ds.length : Int) - 1) && hasT D.ts.length D.dv) = false then 4
  else if faultC D.cz D.ls ≠ 0 then faultC D.cz D.ls
  else if allT D.ss D.ts D.ds D.ls = false then 8
  else endsF D.ds.length D.os D.gs

/-- of a right system: what each part is. -/
theorem sysF_inv {D : SD} (h : sysF D = 0) : tabF D.ss D.ts D.ds = 0 ∧ mfC (D.ts.length : Int) D.ws = 0 ∧ ctxsF D.ds.length D.cs = 0 ∧ up D.ac ((D.ds.length : Int) - 1) = true ∧ hasT D.ts.length D.dv = true ∧ faultC D.cz D.ls = 0 ∧ allT D.ss D.ts D.ds D.ls = true ∧ endsF D.ds.length D.os D.gs = 0 := by
  unfold sysF at h
  by_cases h1 : tabF D.ss D.ts D.ds = 0
  · rw [if_neg (by simp [h1])] at h
    by_cases h2 : mfC (D.ts.length : Int) D.ws = 0
    · rw [if_neg (by simp [h2])] at h
      by_cases h3 : ctxsF D.ds.length D.cs = 0
      · rw [if_neg (by simp [h3])] at h
        by_cases h4 : (up D.ac ((D.ds.length : Int) - 1) && hasT D.ts.length D.dv) = false
        · rw [if_pos h4] at h; omega
        · rw [if_neg h4] at h
          have h4' : (up D.ac ((D.ds.length : Int) - 1) && hasT D.ts.length D.dv) = true := by simpa using h4
          rw [Bool.and_eq_true] at h4'
          by_cases h5 : faultC D.cz D.ls = 0
          · rw [if_neg (by simp [h5])] at h
            by_cases h6 : allT D.ss D.ts D.ds D.ls = false
            · rw [if_pos h6] at h; omega
            · rw [if_neg h6] at h
              exact ⟨h1, h2, h3, h4'.1, h4'.2, h5, by simpa using h6, h⟩
          · rw [if_pos h5] at h; exact absurd h h5
      · rw [if_pos h3] at h; exact absurd h h3
    · rw [if_pos h2] at h; exact absurd h h2
  · rw [if_pos h1] at h; exact absurd h h1

theorem ctxsF_inv {n : Nat} {cs : List (List Int × Int × Bool)} (h : ctxsF n cs = 0) : cs.length = n ∧ 0 < n ∧ ∀ j, j < n → ctxF (gx cs j) = 0 := by
  unfold ctxsF at h
  by_cases h1 : cs.length = n ∧ 0 < n
  · rw [if_pos h1] at h
    exact ⟨h1.1, h1.2, ffst_inv h⟩
  · rw [if_neg h1] at h; omega

/-- of a right system: as many contexts as domains, each of eight registers. -/
theorem sysF_ctx {D : SD} (h : sysF D = 0) : D.cs.length = D.ds.length ∧ 0 < D.ds.length ∧ D.ds.length ≤ 4 ∧ ∀ j, j < D.ds.length → (gx D.cs j).1.length = 8 ∧ (gx D.cs j).1.all okv = true ∧ okv (gx D.cs j).2.1 = true := by
  obtain ⟨h1, _, h3, _⟩ := sysF_inv h
  obtain ⟨a, b, c⟩ := ctxsF_inv h3
  have hm := (tabF_zero h1).2.1
  have := many_len hm
  exact ⟨a, b, by omega, fun j hj => ctxF_inv (c j hj)⟩

theorem isUpTo_is (v m : Int) (b : Bool) (w : World) (h : up v m = b) : Calls Tryz.prog 85 #[.int .i64 v, .int .i64 m] w fun e w' => e = .returned (.bool b) ∧ w' = w := h ▸ isUpTo_calls v m w

set_option maxRecDepth 100000 in
theorem areWords_calls (a : Option Addr) (n c : Nat) (zs : List Int) (w : World) (hn : n ≤ maxLen) (hs : Sl w a n zs) :
    Calls Tryz.prog 126 #[.slice a n c] w fun e w' => e = .returned (.bool (zs.all okv)) ∧ w' = w := by
  unfold maxLen at hn
  obtain ⟨hlen, hs⟩ := hs
  go_enter Tryz.func126, Tryz.ntmps126
  go_wp2
  go_loop [7] (fun i => ∃ k : Nat, k ≤ n ∧ i = .int .i64 k ∧ ∀ j, j < k → okv (gt zs j) = true) (fun i => n - (intOf i).toNat)
  case atStart => exact ⟨0, Nat.zero_le _, rfl, fun j hj => by omega⟩
  case round =>
    obtain ⟨k, hk, rfl, hno⟩ := hrel
    have Hno := hide hno
    clear hno
    by_cases hlt : k < n
    · obtain ⟨bk, off, rfl, hb, hc⟩ := hs (by omega)
      have hck := hc k hlt
      clear hc
      cases h2 : up (gt zs k) 65535 with
      | false =>
        have HR : Hid (zs.all okv = false) := all_okv (k := k) (by omega) h2
        go_wp2_with (go_at_call 85; with_reducible refine (isUpTo_is _ _ _ _ h2).mono ?_; rintro e w' ⟨rfl, rfl⟩)
        go_ret
        exact ⟨ret_bool HR.out.symm, rfl⟩
      | true =>
        have HN : Hid (∀ j, j < k + 1 → okv (gt zs j) = true) := fun j hj => by
          by_cases e : j = k
          · subst e; exact h2
          · exact Hno.out j (by omega)
        go_wp2_with (go_at_call 85; with_reducible refine (isUpTo_is _ _ _ _ h2).mono ?_; rintro e w' ⟨rfl, rfl⟩)
        go_round
        case rel => exact ⟨k + 1, by omega, by go_num, HN.out⟩
        case measure => simp [intOf]; omega
    · have HR : Hid (zs.all okv = true) := all_okv_yes (fun j hj => Hno.out j (by omega))
      clear hs
      go_wp2
      go_ret
      exact ⟨ret_bool HR.out.symm, rfl⟩

theorem areWords_is (a : Option Addr) (n c : Nat) (zs : List Int) (b : Bool) (w : World) (hn : n ≤ maxLen) (hs : Sl w a n zs) (h : zs.all okv = b) :
    Calls Tryz.prog 126 #[.slice a n c] w fun e w' => e = .returned (.bool b) ∧ w' = w := h ▸ areWords_calls a n c zs w hn hs

set_option maxRecDepth 100000 in
set_option maxHeartbeats 1000000 in
theorem contextsFault_calls (a : Option Addr) (n c dn : Nat) (cs : List (List Int × Int × Bool)) (w : World) (hn : n ≤ maxLen) (hdn : dn ≤ maxLen) (hs : Scx w a n cs) :
    Calls Tryz.prog 84 #[.slice a n c, .int .i64 (dn : Int)] w fun e w' => e = .returned (.int .i64 (ctxsF dn cs)) ∧ Below w.heap.size w w' := by
  unfold maxLen at hn hdn
  obtain ⟨hlen, hs⟩ := hs
  by_cases h0 : n = 0
  · have HR : Hid (ctxsF dn cs = 1) := by show _ = _; unfold ctxsF; rw [if_neg (by omega)]
    subst h0
    clear hs
    go_enter Tryz.func84, Tryz.ntmps84
    go_wp2
    go_ret
    exact ⟨ret_int HR.out.symm, Below.refl _ _⟩
  have e0 : ((n : Int) == 0) = false := by simp; omega
  by_cases hd : n = dn
  rotate_left
  · have HR : Hid (ctxsF dn cs = 1) := by show _ = _; unfold ctxsF; rw [if_neg (by omega)]
    have e1 : ((n : Int) != (dn : Int)) = true := by simp; omega
    clear hs
    go_enter Tryz.func84, Tryz.ntmps84
    go_wp2
    go_ret
    exact ⟨ret_int HR.out.symm, Below.refl _ _⟩
  subst hd
  have e1 : ((n : Int) != (n : Int)) = false := by simp
  have HX : Hid (ctxsF n cs = ffst n (fun i => ctxF (gx cs i))) := by show _ = _; unfold ctxsF; rw [if_pos (by omega)]
  go_enter Tryz.func84, Tryz.ntmps84
  go_wp2
  clear e0 e1
  go_loopw [18] (fun i wr => ∃ k : Nat, k ≤ n ∧ i = .int .i64 k ∧ Below w.heap.size w wr ∧ ∀ j, j < k → ctxF (gx cs j) = 0) (fun i _ => n - (intOf i).toNat)
  case atStart => exact ⟨0, Nat.zero_le _, rfl, Below.refl _ _, fun j hj => by omega⟩
  case round =>
    obtain ⟨k, hk, rfl, hbel, hno⟩ := hrel
    have Hno := hide hno
    clear hno
    by_cases hlt : k < n
    · obtain ⟨b, off, rfl, hb, hc⟩ := hs (by omega)
      obtain ⟨la, ll, lc, hc0, hc1, hc2, hll, hsl⟩ := hc k hlt
      have hck0 := (hbel.cell (p := ⟨b, off + k * 3, none⟩) hb).trans hc0
      have hck1 := (hbel.cell (p := ⟨b, off + k * 3 + 1, none⟩) hb).trans hc1
      have hck2 := (hbel.cell (p := ⟨b, off + k * 3 + 2, none⟩) hb).trans hc2
      have hsl2 := hsl.below hbel (Nat.le_refl _)
      have hzl : (gx cs k).1.length = ll := hsl.1
      have HB : Hid (Below w.heap.size w (wr.alloc (.cells #[.slice la ll lc, .int .i64 (gx cs k).2.1, .bool (gx cs k).2.2] 132))) := hbel.alloc hbel.size _
      have hsl3 := hsl2.below ((Below.refl wr.heap.size wr).alloc (Nat.le_refl _) (.cells #[.slice la ll lc, .int .i64 (gx cs k).2.1, .bool (gx cs k).2.2] 132)) (Nat.le_refl _)
      clear hc hc0 hc1 hc2 hsl hsl2
      by_cases h8 : ll = 8
      rotate_left
      · have e8 : ((ll : Int) != 8) = true := by simp; omega
        have HR : Hid (ctxsF n cs = 1) := by
          show _ = _
          have hf : ctxF (gx cs k) = 1 := ctxF_len (by omega)
          rw [HX.out, ffst_hit hlt (fun j hj => Hno.out j hj) (by rw [hf]; omega), hf]
        clear hzl h8
        go_wp2
        go_ret
        exact ⟨ret_int HR.out.symm, HB.out⟩
      have e8 : ((ll : Int) != 8) = false := by simp; omega
      cases h2 : (gx cs k).1.all okv with
      | false =>
        have HR : Hid (ctxsF n cs = 3) := by
          show _ = _
          have hf : ctxF (gx cs k) = 3 := ctxF_bad (by omega) (by rw [h2]; rfl)
          rw [HX.out, ffst_hit hlt (fun j hj => Hno.out j hj) (by rw [hf]; omega), hf]
        clear hzl h8
        go_wp2_with (go_at_call 126; refine (areWords_is _ _ _ _ _ _ hll hsl3 h2).mono ?_; rintro e w' ⟨rfl, rfl⟩)
        go_ret
        exact ⟨ret_int HR.out.symm, HB.out⟩
      | true =>
        cases h3 : up (gx cs k).2.1 65535 with
        | false =>
          have HR : Hid (ctxsF n cs = 3) := by
            show _ = _
            have hf : ctxF (gx cs k) = 3 := ctxF_bad (by omega) (by rw [Bool.and_eq_false_iff]; exact .inr h3)
            rw [HX.out, ffst_hit hlt (fun j hj => Hno.out j hj) (by rw [hf]; omega), hf]
          clear hzl h8
          go_wp2_with (first | (go_at_call 126; refine (areWords_is _ _ _ _ _ _ hll hsl3 h2).mono ?_; rintro e w' ⟨rfl, rfl⟩) | (go_at_call 85; with_reducible refine (isUpTo_is _ _ _ _ h3).mono ?_; rintro e w' ⟨rfl, rfl⟩))
          go_ret
          exact ⟨ret_int HR.out.symm, HB.out⟩
        | true =>
          have HN : Hid (∀ j, j < k + 1 → ctxF (gx cs j) = 0) := fun j hj => by
            by_cases e : j = k
            · subst e; exact ctxF_ok (by omega) h2 h3
            · exact Hno.out j (by omega)
          clear hzl h8
          go_wp2_with (first | (go_at_call 126; refine (areWords_is _ _ _ _ _ _ hll hsl3 h2).mono ?_; rintro e w' ⟨rfl, rfl⟩) | (go_at_call 85; with_reducible refine (isUpTo_is _ _ _ _ h3).mono ?_; rintro e w' ⟨rfl, rfl⟩))
          go_roundw
          case rel => exact ⟨k + 1, by omega, by go_num, HB.out, HN.out⟩
          case measure => simp [intOf]; omega
    · have HR : Hid (ctxsF n cs = 0) := by show _ = _; rw [HX.out]; exact ffst_ok (fun j hj => Hno.out j (by omega))
      clear hs
      go_wp2
      go_ret
      exact ⟨ret_int HR.out.symm, hbel⟩

set_option maxRecDepth 100000 in
set_option maxHeartbeats 1000000 in
theorem portsFault_calls (oa : Option Addr) (on oc : Nat) (os : List Int) (ga : Option Addr) (gn gc : Nat) (gs : List (Int × Int)) (dn : Nat) (w : World) (hon : on ≤ maxLen) (hdn : dn ≤ maxLen) (ho : Sl w oa on os) (hg : Swd w ga gn gs) :
    Calls Tryz.prog 88 #[.slice oa on oc, .slice ga gn gc, .int .i64 (dn : Int)] w fun e w' => e = .returned (.int .i64 (endsF dn os gs)) ∧ Below w.heap.size w w' := by
  have hol := ho.1
  obtain ⟨hgl, hg⟩ := hg
  have hdn' : (dn : Int) ≤ 9223372036854775807 := by unfold maxLen at hdn; omega
  by_cases h40 : 40 < on
  · have HR : Hid (endsF dn os gs = 2) := by show _ = _; unfold endsF; rw [if_pos (by omega)]
    clear ho hg
    go_enter Tryz.func88, Tryz.ntmps88
    go_wp2
    go_ret
    exact ⟨ret_int HR.out.symm, Below.refl _ _⟩
  by_cases h3 : 3 < gn
  · have HR : Hid (endsF dn os gs = 2) := by show _ = _; unfold endsF; rw [if_pos (by omega)]
    clear ho hg
    go_enter Tryz.func88, Tryz.ntmps88
    go_wp2
    go_ret
    exact ⟨ret_int HR.out.symm, Below.refl _ _⟩
  have HX : Hid (endsF dn os gs = if os.all okv = true then (if gs.all (gateB dn) = true then 0 else 3) else 3) := by show _ = _; unfold endsF; rw [if_neg (by omega)]
  have b3 : (gn : Int) ≤ 3 := by omega
  cases h1 : os.all okv with
  | false =>
    have HR : Hid (endsF dn os gs = 3) := by show _ = _; rw [HX.out, h1]; rfl
    clear HX hg
    go_enter Tryz.func88, Tryz.ntmps88
    go_wp2_with (go_at_call 126; refine (areWords_is _ _ _ _ _ _ hon ho h1).mono ?_; rintro e w' ⟨rfl, rfl⟩)
    go_ret
    exact ⟨ret_int HR.out.symm, Below.refl _ _⟩
  | true =>
    have HY : Hid (endsF dn os gs = if gs.all (gateB dn) = true then 0 else 3) := by show _ = _; rw [HX.out, if_pos h1]
    clear HX
    go_enter Tryz.func88, Tryz.ntmps88
    go_wp2_with (go_at_call 126; refine (areWords_is _ _ _ _ _ _ hon ho h1).mono ?_; rintro e w' ⟨rfl, hw'⟩; rw [hw']; clear hw' w')
    go_loopw [22] (fun i wr => ∃ k : Nat, k ≤ gn ∧ i = .int .i64 k ∧ Below w.heap.size w wr ∧ ∀ j, j < k → gateB dn (gw gs j) = true) (fun i _ => gn - (intOf i).toNat)
    case atStart => exact ⟨0, Nat.zero_le _, rfl, Below.refl _ _, fun j hj => by omega⟩
    case round =>
      obtain ⟨q, hq, rfl, hbel, hnq⟩ := hrel
      have Hnq := hide hnq
      clear hnq
      by_cases hql : q < gn
      · obtain ⟨bk, off, rfl, hb, hc⟩ := hg (by omega)
        obtain ⟨r0, r1⟩ := cellsw hc hql
        have s0 := (hbel.cell (p := ⟨bk, off + q * 2, none⟩) hb).trans r0
        have s1 := (hbel.cell (p := ⟨bk, off + q * 2 + 1, none⟩) hb).trans r1
        have HB : Hid (Below w.heap.size w (wr.alloc (.cells #[.int .i64 (gw gs q).1, .int .i64 (gw gs q).2] 140))) := hbel.alloc hbel.size _
        clear hc r0 r1 ho
        cases h2 : up (gw gs q).2 65535 with
        | false =>
          have HR : Hid (endsF dn os gs = 3) := by show _ = _; rw [HY.out, gates_no (k := q) (by omega) (by unfold gateB okv; rw [h2]; simp)]; rfl
          clear HY
          go_wp2_with (first | (go_at_call 85; with_reducible refine (isUpTo_is _ _ _ _ h2).mono ?_; rintro e w' ⟨rfl, rfl⟩))
          go_ret
          exact ⟨ret_int HR.out.symm, HB.out⟩
        | true =>
          cases h4 : up (gw gs q).1 ((dn : Int) - 1) with
          | false =>
            have HR : Hid (endsF dn os gs = 3) := by show _ = _; rw [HY.out, gates_no (k := q) (by omega) (by unfold gateB okv; rw [h4]; rfl)]; rfl
            clear HY
            go_wp2_with (first | (go_at_call 85; with_reducible refine (isUpTo_is _ _ _ _ h2).mono ?_; rintro e w' ⟨rfl, rfl⟩) | (go_at_call 85; with_reducible refine (isUpTo_is _ _ _ _ h4).mono ?_; rintro e w' ⟨rfl, rfl⟩))
            go_ret
            exact ⟨ret_int HR.out.symm, HB.out⟩
          | true =>
            have HN : Hid (∀ j, j < q + 1 → gateB dn (gw gs j) = true) := fun j hj => by
              by_cases e : j = q
              · subst e; unfold gateB okv; rw [h4, h2]; rfl
              · exact Hnq.out j (by omega)
            go_wp2_with (first | (go_at_call 85; with_reducible refine (isUpTo_is _ _ _ _ h2).mono ?_; rintro e w' ⟨rfl, rfl⟩) | (go_at_call 85; with_reducible refine (isUpTo_is _ _ _ _ h4).mono ?_; rintro e w' ⟨rfl, rfl⟩))
            go_roundw
            case rel => exact ⟨q + 1, by omega, by go_num, HB.out, HN.out⟩
            case measure => simp [intOf]; omega
      · have HR : Hid (endsF dn os gs = 0) := by show _ = _; rw [HY.out, if_pos (gates_yes (fun j hj => Hnq.out j (by omega)))]
        clear hg HY ho
        go_wp2
        go_ret
        exact ⟨ret_int HR.out.symm, hbel⟩

set_option maxRecDepth 100000 in
set_option maxHeartbeats 2000000 in
theorem implSystemFault_calls (A : SA) (D : SD) (w : World) (hr : RS w A D) (hk : A.ln ≤ A.lc) :
    Calls Tryz.prog 35 #[.agg #[.slice A.a A.n A.c, .slice A.ta A.tn A.tc, .slice A.da A.dn A.dc, .slice A.wa A.wn A.wc, .slice A.xa A.xn A.xc, .int .i64 D.ac, .int .i64 D.cz, .slice A.la A.ln A.lc, .int .i64 D.dv, .slice A.oa A.on A.oc, .slice A.ga A.gn A.gc]] w fun e w' => e = .returned (.int .i64 (sysF D)) ∧ Below w.heap.size w w' := by
  obtain ⟨k0, k1, k2, k3, k4, k5, k6, k7⟩ := hr.len
  have M0 := (Mm.start w).allocC [.slice A.a A.n A.c, .slice A.ta A.tn A.tc, .slice A.da A.dn A.dc, .slice A.wa A.wn A.wc, .slice A.xa A.xn A.xc, .int .i64 D.ac, .int .i64 D.cz, .slice A.la A.ln A.lc, .int .i64 D.dv, .slice A.oa A.on A.oc, .slice A.ga A.gn A.gc] 62
  have hdn := hr.rt.2.2.2.2.1
  have htn := hr.rt.2.2.1
  have hdn' : (A.dn : Int) ≤ 9223372036854775807 := by unfold maxLen at hdn; omega
  have a1 := (M0.get 0 rfl).cell 1 rfl
  have a2 := (M0.get 0 rfl).cell 2 rfl
  go_enter Tryz.func35, Tryz.ntmps35
  go_wp2_with fail
  go_quiet (fail)
  have g1 : Below (w.alloc (.cells #[.slice A.a A.n A.c, .slice A.ta A.tn A.tc, .slice A.da A.dn A.dc, .slice A.wa A.wn A.wc, .slice A.xa A.xn A.xc, .int .i64 D.ac, .int .i64 D.cz, .slice A.la A.ln A.lc, .int .i64 D.dv, .slice A.oa A.on A.oc, .slice A.ga A.gn A.gc] 62)).heap.size (w.alloc (.cells #[.slice A.a A.n A.c, .slice A.ta A.tn A.tc, .slice A.da A.dn A.dc, .slice A.wa A.wn A.wc, .slice A.xa A.xn A.xc, .int .i64 D.ac, .int .i64 D.cz, .slice A.la A.ln A.lc, .int .i64 D.dv, .slice A.oa A.on A.oc, .slice A.ga A.gn A.gc] 62)) ((w.alloc (.cells #[.slice A.a A.n A.c, .slice A.ta A.tn A.tc, .slice A.da A.dn A.dc, .slice A.wa A.wn A.wc, .slice A.xa A.xn A.xc, .int .i64 D.ac, .int .i64 D.cz, .slice A.la A.ln A.lc, .int .i64 D.dv, .slice A.oa A.on A.oc, .slice A.ga A.gn A.gc] 62)).drewN nq) := bdrewN (Below.refl _ _) _
  obtain ⟨w1, hw1⟩ : ∃ x, x = (w.alloc (.cells #[.slice A.a A.n A.c, .slice A.ta A.tn A.tc, .slice A.da A.dn A.dc, .slice A.wa A.wn A.wc, .slice A.xa A.xn A.xc, .int .i64 D.ac, .int .i64 D.cz, .slice A.la A.ln A.lc, .int .i64 D.dv, .slice A.oa A.on A.oc, .slice A.ga A.gn A.gc] 62)).drewN nq := ⟨_, rfl⟩
  rw [← hw1] at g1 ⊢
  have M1 := M0.below g1
  clear hw1 g1 M0 a1 a2
  have b0 := (M1.get 0 rfl).cell 0 rfl
  have b1 := (M1.get 0 rfl).cell 1 rfl
  have b2 := (M1.get 0 rfl).cell 2 rfl
  go_wp2_with fail
  refine (implTablesFault_calls A.a A.n A.c D.ss A.ta A.tn A.tc D.ts A.da A.dn A.dc D.ds _ (hr.rt.below M1.bel (Nat.le_refl _))).mono ?_
  rintro e w2 ⟨rfl, g2⟩
  have M2 := M1.below g2
  clear g2 M1 b0 b1 b2
  by_cases t1 : tabF D.ss D.ts D.ds = 0
  rotate_left
  · have HR : Hid (sysF D = tabF D.ss D.ts D.ds) := by show _ = _; unfold sysF; rw [if_pos t1]
    have e1 : (tabF D.ss D.ts D.ds != 0) = true := by simpa using t1
    have HB := hide M2.bel
    clear M2 t1
    go_wp2
    go_ret
    exact ⟨ret_int HR.out.symm, HB.out⟩
  have e1 : (tabF D.ss D.ts D.ds != 0) = false := by simp [t1]
  have b3 := (M2.get 0 rfl).cell 3 rfl
  go_wp2_with fail
  refine (implMemoryFault_calls A.wa A.wn A.wc D.ws _ _ hr.wm (hr.ws.below M2.bel (Nat.le_refl _))).mono ?_
  rintro e w3 ⟨rfl, g3⟩
  have M3 := M2.below g3
  clear g3 M2 b3 e1
  by_cases t2 : mfC (A.tn : Int) D.ws = 0
  rotate_left
  · have HR : Hid (sysF D = mfC (A.tn : Int) D.ws) := by show _ = _; unfold sysF; rw [if_neg (by simp [t1]), k1, if_pos t2]
    have e1 : (mfC (A.tn : Int) D.ws != 0) = true := by simpa using t2
    have HB := hide M3.bel
    clear M3 t2 t1
    go_wp2
    go_ret
    exact ⟨ret_int HR.out.symm, HB.out⟩
  have e2 : (mfC (A.tn : Int) D.ws != 0) = false := by simp [t2]
  have b4 := (M3.get 0 rfl).cell 4 rfl
  go_wp2_with fail
  refine (contextsFault_calls A.xa A.xn A.xc A.dn D.cs _ hr.xm hdn (hr.xs.below M3.bel (Nat.le_refl _))).mono ?_
  rintro e w4 ⟨rfl, g4⟩
  have M4 := M3.below g4
  clear g4 M3 b4 e2
  by_cases t3 : ctxsF A.dn D.cs = 0
  rotate_left
  · have HR : Hid (sysF D = ctxsF A.dn D.cs) := by show _ = _; unfold sysF; rw [if_neg (by simp [t1]), k1, if_neg (by simp [t2]), k2, if_pos t3]
    have e1 : (ctxsF A.dn D.cs != 0) = true := by simpa using t3
    have HB := hide M4.bel
    clear M4 t3 t2 t1
    go_wp2
    go_ret
    exact ⟨ret_int HR.out.symm, HB.out⟩
  have e3 : (ctxsF A.dn D.cs != 0) = false := by simp [t3]
  have HX : Hid (sysF D = if (up D.ac ((A.dn : Int) - 1) && hasT A.tn D.dv) = false then 4
      else if faultC D.cz D.ls ≠ 0 then faultC D.cz D.ls
      else if allT D.ss D.ts D.ds D.ls = false then 8
      else endsF A.dn D.os D.gs) := by show _ = _; unfold sysF; rw [if_neg (by simp [t1]), k1, if_neg (by simp [t2]), k2, if_neg (by simp [t3])]
  have Ht1 := hide t1
  have b5 := (M4.get 0 rfl).cell 5 rfl
  have b8 := (M4.get 0 rfl).cell 8 rfl
  have HB4 := hide M4.bel
  clear t1 t2 t3
  cases h1 : up D.ac ((A.dn : Int) - 1) with
  | false =>
    have HR : Hid (sysF D = 4) := by show _ = _; rw [HX.out, h1]; rfl
    clear M4 HX
    go_wp2_with (first | (go_at_call 85; with_reducible refine (isUpTo_is _ _ _ _ h1).mono ?_; rintro e w' ⟨rfl, rfl⟩))
    go_ret
    exact ⟨ret_int HR.out.symm, HB4.out⟩
  | true =>
  by_cases h0 : D.dv = 0
  · have HR : Hid (sysF D = 4) := by
      show _ = _
      have : hasT A.tn D.dv = false := by unfold hasT; rw [h0]; simp
      rw [HX.out, h1, this]; rfl
    have ez : (D.dv == 0) = true := by simpa using h0
    clear M4 HX h0
    go_wp2_with (first | (go_at_call 85; with_reducible refine (isUpTo_is _ _ _ _ h1).mono ?_; rintro e w' ⟨rfl, rfl⟩))
    go_ret
    exact ⟨ret_int HR.out.symm, HB4.out⟩
  have ez : (D.dv == 0) = false := by simpa using h0
  have hu : up D.dv (A.tn : Int) = hasT A.tn D.dv := by
    unfold up hasT
    rw [Bool.eq_iff_iff]
    simp
    omega
  cases h2 : up D.dv (A.tn : Int) with
  | false =>
    have HR : Hid (sysF D = 4) := by show _ = _; rw [HX.out, h1, ← hu, h2]; rfl
    clear M4 HX h0 hu
    go_wp2_with (first | (go_at_call 85; with_reducible refine (isUpTo_is _ _ _ _ h1).mono ?_; rintro e w' ⟨rfl, rfl⟩) | (go_at_call 85; with_reducible refine (isUpTo_is _ _ _ _ h2).mono ?_; rintro e w' ⟨rfl, rfl⟩))
    go_ret
    exact ⟨ret_int HR.out.symm, HB4.out⟩
  | true =>
  have HY : Hid (sysF D = if faultC D.cz D.ls ≠ 0 then faultC D.cz D.ls
      else if allT D.ss D.ts D.ds D.ls = false then 8
      else endsF A.dn D.os D.gs) := by show _ = _; rw [HX.out, h1, ← hu, h2, if_neg (by simp)]
  have b6 := (M4.get 0 rfl).cell 6 rfl
  have b7 := (M4.get 0 rfl).cell 7 rfl
  clear HX h0 hu HB4
  go_wp2_with (first | (go_at_call 85; with_reducible refine (isUpTo_is _ _ _ _ h1).mono ?_; rintro e w' ⟨rfl, hw'⟩; rw [hw']; clear hw' w') | (go_at_call 85; with_reducible refine (isUpTo_is _ _ _ _ h2).mono ?_; rintro e w' ⟨rfl, hw'⟩; rw [hw']; clear hw' w') | (go_at_call 86; fail))
  refine (implCacheFault_calls D.cz A.la A.ln A.lc D.ls _ hr.lm hk (hr.ls.below M4.bel (Nat.le_refl _))).mono ?_
  rintro e w5 ⟨rfl, g5⟩
  have M5 := M4.below g5
  clear g5 M4 b5 b8 b6 b7 h1 h2 ez e3
  by_cases t4 : faultC D.cz D.ls = 0
  rotate_left
  · have HR : Hid (sysF D = faultC D.cz D.ls) := by show _ = _; rw [HY.out, if_pos t4]
    have e1 : (faultC D.cz D.ls != 0) = true := by simpa using t4
    have HB := hide M5.bel
    clear M5 t4 HY
    go_wp2
    go_ret
    exact ⟨ret_int HR.out.symm, HB.out⟩
  have e4 : (faultC D.cz D.ls != 0) = false := by simp [t4]
  have HZ : Hid (sysF D = if allT D.ss D.ts D.ds D.ls = false then 8 else endsF A.dn D.os D.gs) := by show _ = _; rw [HY.out, if_neg (by simp [t4])]
  have hct := ctB_ok t4 Ht1.out (ls := D.ls)
  clear HY t4
  have b0 := (M5.get 0 rfl).cell 0 rfl
  have b1 := (M5.get 0 rfl).cell 1 rfl
  have b2 := (M5.get 0 rfl).cell 2 rfl
  have b6 := (M5.get 0 rfl).cell 6 rfl
  have b7 := (M5.get 0 rfl).cell 7 rfl
  go_wp2_with fail
  refine (implCacheTrue_calls D.cz A.la A.ln A.lc D.ls A.a A.n A.c D.ss A.ta A.tn A.tc D.ts A.da A.dn A.dc D.ds _ hr.lm hk (hr.ls.below M5.bel (Nat.le_refl _)) (hr.rt.below M5.bel (Nat.le_refl _))).mono ?_
  rintro e w6 ⟨rfl, g6⟩
  rw [hct]
  have M6 := M5.below g6
  clear g6 M5 b0 b1 b2 b6 b7 e4 hct
  cases h4 : allT D.ss D.ts D.ds D.ls with
  | false =>
    have HR : Hid (sysF D = 8) := by show _ = _; rw [HZ.out, if_pos h4]
    have HB := hide M6.bel
    clear M6 HZ
    go_wp2
    go_ret
    exact ⟨ret_int HR.out.symm, HB.out⟩
  | true =>
    have HR : Hid (sysF D = endsF A.dn D.os D.gs) := by show _ = _; rw [HZ.out, if_neg (by simp [h4])]
    have b9 := (M6.get 0 rfl).cell 9 rfl
    have b10 := (M6.get 0 rfl).cell 10 rfl
    clear HZ
    go_wp2_with fail
    refine (portsFault_calls A.oa A.on A.oc D.os A.ga A.gn A.gc D.gs A.dn _ hr.om hdn (hr.os.below M6.bel (Nat.le_refl _)) (hr.gs.below M6.bel (Nat.le_refl _))).mono ?_
    rintro e w7 ⟨rfl, g7⟩
    have HB := hide (M6.below g7).bel
    clear M6 g7 b9 b10
    go_wp2
    go_ret
    exact ⟨ret_int HR.out.symm, HB.out⟩

end Go.Proofs.YtnlkigjgloeonaaGreat
