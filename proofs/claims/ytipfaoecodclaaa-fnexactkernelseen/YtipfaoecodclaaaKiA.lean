import Derived.Test.YtipfaoecodclaaaKiP
import Derived.Test.YtipfaoecodclaaaThing
import Derived.Test.YtipfaoecodclaaaCsK
import Derived.WalkKit
import Derived.ProofKit
import Derived.OpenShut
import Derived.ShutString
import Derived.ChangeOld
import Derived.Below
import Derived.WalkSpells
import Derived.Deep.QuietTactic
import Derived.BigQuiet
import Derived.Deep.RegionWith
import Derived.Deep.WholeRow
import Derived.Deep.DeepCutAuto
import Derived.Deep.RegionHeld2
import Derived.Deep.AppendLies
import Derived.Deep.RegionLaw
namespace Go.Proofs.Ytipfaoecodclaaa
open Go.ChangeShapes Go.WideShapes Go.ChangeAt Go.RowKit

/-- is v one of 0 to m? -/
def up (v m : Int) : Bool := decide (0 ≤ v) && decide (v ≤ m)

theorem up_iff {v m : Int} : up v m = true ↔ 0 ≤ v ∧ v ≤ m := by simp [up]

set_option maxRecDepth 100000 in
theorem isUpTo_calls (v m : Int) (w : World) :
    Calls Try.prog 68 #[.int .i64 v, .int .i64 m] w fun e w' => e = .returned (.bool (up v m)) ∧ w' = w := by
  by_cases h1 : 0 ≤ v
  · by_cases h2 : v ≤ m
    all_goals
      go_enter Try.func68, Try.ntmps68
      go_wp2
      go_ret
      exact ⟨ret_bool (by simp [up, h1, h2]), rfl⟩
  · go_enter Try.func68, Try.ntmps68
    go_wp2
    go_ret
    exact ⟨ret_bool (by simp [up]; omega), rfl⟩

def okv (v : Int) : Bool := up v 65535

theorem all_okv {zs : List Int} {k : Nat} (hk : k < zs.length) (h : okv (gt zs k) = false) : zs.all okv = false := by
  rw [List.all_eq_false]
  exact ⟨zs[k], List.getElem_mem hk, by simpa [hk, gt] using h⟩

theorem all_okv_yes {zs : List Int} (h : ∀ j, j < zs.length → okv (gt zs j) = true) : zs.all okv = true := by
  rw [List.all_eq_true]
  intro x hx
  obtain ⟨j, hj, rfl⟩ := List.getElem_of_mem hx
  have := h j hj
  simpa [hj, gt] using this

theorem isUpTo_is (v m : Int) (b : Bool) (w : World) (h : up v m = b) : Calls Try.prog 68 #[.int .i64 v, .int .i64 m] w fun e w' => e = .returned (.bool b) ∧ w' = w := h ▸ isUpTo_calls v m w

set_option maxRecDepth 100000 in
theorem areWords_calls (a : Option Addr) (n c : Nat) (zs : List Int) (w : World) (hn : n ≤ maxLen) (hs : Sl w a n zs) :
    Calls Try.prog 78 #[.slice a n c] w fun e w' => e = .returned (.bool (zs.all okv)) ∧ w' = w := by
  unfold maxLen at hn
  obtain ⟨hlen, hs⟩ := hs
  go_enter Try.func78, Try.ntmps78
  go_wp2
  go_loop [7] (fun i => ∃ k : Nat, k ≤ n ∧ i = .int .i64 k ∧ ∀ j, j < k → okv (gt zs j) = true) (fun i => n - (intOf i).toNat)
  case atStart => exact ⟨0, Nat.zero_le _, rfl, fun j hj => by omega⟩
  case round =>
    obtain ⟨k, hk, rfl, hno⟩ := hrel
    have Hno := hide hno
    clear hno
    by_cases hlt : k < n
    · obtain ⟨bk, off, rfl, hb, hc⟩ := hs (by omega)
      have hck := hc k hlt
      clear hc
      cases h2 : up (gt zs k) 65535 with
      | false =>
        have HR : Hid (zs.all okv = false) := all_okv (k := k) (by omega) h2
        go_wp2_with (go_at_call 68; with_reducible refine (isUpTo_is _ _ _ _ h2).mono ?_; rintro e w' ⟨rfl, rfl⟩)
        go_ret
        exact ⟨ret_bool HR.out.symm, rfl⟩
      | true =>
        have HN : Hid (∀ j, j < k + 1 → okv (gt zs j) = true) := fun j hj => by
          by_cases e : j = k
          · subst e; exact h2
          · exact Hno.out j (by omega)
        go_wp2_with (go_at_call 68; with_reducible refine (isUpTo_is _ _ _ _ h2).mono ?_; rintro e w' ⟨rfl, rfl⟩)
        go_round
        case rel => exact ⟨k + 1, by omega, by go_num, HN.out⟩
        case measure => simp [intOf]; omega
    · have HR : Hid (zs.all okv = true) := all_okv_yes (fun j hj => Hno.out j (by omega))
      clear hs
      go_wp2
      go_ret
      exact ⟨ret_bool HR.out.symm, rfl⟩

theorem areWords_is (a : Option Addr) (n c : Nat) (zs : List Int) (b : Bool) (w : World) (hn : n ≤ maxLen) (hs : Sl w a n zs) (h : zs.all okv = b) :
    Calls Try.prog 78 #[.slice a n c] w fun e w' => e = .returned (.bool b) ∧ w' = w := h ▸ areWords_calls a n c zs w hn hs

set_option maxRecDepth 100000 in
set_option maxHeartbeats 1000000 in
theorem contentOf_calls (x : OB) (la : Option Addr) (lc : Nat) (da : Option Addr) (dc : Nat) (ka : Option Addr) (kn kc : Nat) (w : World) : Calls Try.prog 66 #[.agg #[.int .i64 x.1, .int .i64 x.2.1, .int .i64 x.2.2.1, .slice la x.2.2.2.1.length lc, .int .i64 x.2.2.2.2.1, .int .i64 x.2.2.2.2.2.1, .slice da x.2.2.2.2.2.2.length dc], .slice ka kn kc] w fun e w' => e = .returned (ctV x da dc ka kn kc) ∧ Below w.heap.size w w' := by
  have HB : Hid (Below w.heap.size w (w.alloc (.cells #[.int .i64 x.1, .int .i64 x.2.1, .int .i64 x.2.2.1, .slice la x.2.2.2.1.length lc, .int .i64 x.2.2.2.2.1, .int .i64 x.2.2.2.2.2.1, .slice da x.2.2.2.2.2.2.length dc] 57))) := (Below.refl _ _).alloc (Nat.le_refl _) _
  by_cases h1 : x.2.2.1 = 1
  · have e1 : (x.2.2.1 == 1) = true := by simpa using h1
    have e3 : (x.2.2.1 == 2) = false := by simp; omega
    by_cases h2 : x.2.2.2.2.2.2.length = 0
    · have e2 : ((x.2.2.2.2.2.2.length : Int) == 0) = true := by simp; simpa using h2
      have HV : Hid (ctV x da dc ka kn kc = .iface 96 (.agg #[.int .i64 x.2.2.2.2.2.1, .slice ka kn kc])) := by show _ = _; unfold ctV formB; simp [h1, h2]
      clear h1 h2 e3
      go_enter Try.func66, Try.ntmps66
      go_wp2
      go_ret
      exact ⟨by rw [HV.out]; rfl, HB.out⟩
    · have e2 : ((x.2.2.2.2.2.2.length : Int) == 0) = false := by simp; simpa using h2
      have HV : Hid (ctV x da dc ka kn kc = .nilIface) := by show _ = _; unfold ctV formB; simp [h1, h2]
      clear h1 h2
      go_enter Try.func66, Try.ntmps66
      go_wp2
      go_ret
      exact ⟨by rw [HV.out]; rfl, HB.out⟩
  · have e1 : (x.2.2.1 == 1) = false := by simpa using h1
    by_cases h2 : x.2.2.1 = 2
    · have e2 : (x.2.2.1 == 2) = true := by simpa using h2
      by_cases h3 : x.2.2.2.2.2.1 = 0
      · have e3 : (x.2.2.2.2.2.1 == 0) = true := by simpa using h3
        have HV : Hid (ctV x da dc ka kn kc = .iface 103 (.agg #[.slice da x.2.2.2.2.2.2.length dc])) := by show _ = _; unfold ctV formB; simp [h2, h3]
        clear h1 h2 h3
        go_enter Try.func66, Try.ntmps66
        go_wp2
        go_ret
        exact ⟨by rw [HV.out]; rfl, HB.out⟩
      · have e3 : (x.2.2.2.2.2.1 == 0) = false := by simpa using h3
        have HV : Hid (ctV x da dc ka kn kc = .nilIface) := by show _ = _; unfold ctV formB; simp [h2, h3]
        clear h1 h2 h3
        go_enter Try.func66, Try.ntmps66
        go_wp2
        go_ret
        exact ⟨by rw [HV.out]; rfl, HB.out⟩
    · have e2 : (x.2.2.1 == 2) = false := by simpa using h2
      have HV : Hid (ctV x da dc ka kn kc = .nilIface) := by show _ = _; unfold ctV formB; simp [h1, h2]
      clear h1 h2
      go_enter Try.func66, Try.ntmps66
      go_wp2
      go_ret
      exact ⟨by rw [HV.out]; rfl, HB.out⟩

theorem asrt_bb (v : Value) (W : World) : (Instr.typeAssert (.iface 96 v) 91 96 true).run Try.prog W = .ok (.tuple #[v, .bool true]) W := by kernel_rfl
theorem asrt_tb (v : Value) (W : World) : (Instr.typeAssert (.iface 103 v) 91 96 true).run Try.prog W = .ok (.tuple #[.agg #[.int .i64 0, .slice none 0 0], .bool false]) W := by kernel_rfl
theorem asrt_tt (v : Value) (W : World) : (Instr.typeAssert (.iface 103 v) 91 103 true).run Try.prog W = .ok (.tuple #[v, .bool true]) W := by kernel_rfl
theorem asrt_nb (W : World) : (Instr.typeAssert .nilIface 91 96 true).run Try.prog W = .ok (.tuple #[.agg #[.int .i64 0, .slice none 0 0], .bool false]) W := by kernel_rfl
set_option maxRecDepth 100000 in
theorem isWithin_box (nx : Int) (ka : Option Addr) (kn kc : Nat) (q : Int) (b : Bool) (w : World) (h : inB nx 1 100 = b) : Calls Try.prog 69 #[.iface 96 (.agg #[.int .i64 nx, .slice ka kn kc]), .int .i64 q] w fun e w' => e = .returned (.bool b) ∧ Below w.heap.size w w' := by
  subst h
  have hbb := asrt_bb
  have HB : Hid (Below w.heap.size w (w.alloc (.cells #[.int .i64 nx, .slice ka kn kc] 96))) := (Below.refl _ _).alloc (Nat.le_refl _) _
  by_cases h1 : 1 ≤ nx
  · have e1 : nx ≥ 1 := h1
    by_cases h2 : nx ≤ 100
    all_goals
      go_enter Try.func69, Try.ntmps69
      go_wp2
      go_ret
      exact ⟨ret_bool (by simp [inB, h1, h2]), HB.out⟩
  · have e1 : ¬ nx ≥ 1 := h1
    go_enter Try.func69, Try.ntmps69
    go_wp2
    go_ret
    exact ⟨ret_bool (by simp [inB]; omega), HB.out⟩

set_option maxRecDepth 100000 in
theorem textUsed_calls (da : Option Addr) (dn dc : Nat) (w : World) : Calls Try.prog 77 #[.agg #[.slice da dn dc]] w fun e w' => e = .returned (.int .i64 (dn : Int)) ∧ Below w.heap.size w w' := by
  have HB : Hid (Below w.heap.size w (w.alloc (.cells #[.slice da dn dc] 103))) := (Below.refl _ _).alloc (Nat.le_refl _) _
  go_enter Try.func77, Try.ntmps77
  go_wp2
  go_ret
  exact ⟨rfl, HB.out⟩

set_option maxRecDepth 100000 in
theorem isWithin_text (da : Option Addr) (dn dc : Nat) (zs : List Int) (q : Int) (b : Bool) (w : World) (hd : dn ≤ maxLen) (hs : Sl w da dn zs) (h : (decide ((dn : Int) ≤ q) && zs.all okv) = b) : Calls Try.prog 69 #[.iface 103 (.agg #[.slice da dn dc]), .int .i64 q] w fun e w' => e = .returned (.bool b) ∧ Below w.heap.size w w' := by
  subst h
  have htb := asrt_tb
  have htt := asrt_tt
  have M0 := (Mm.start w).allocC [.slice da dn dc] 103
  have HS : Hid (Sl (w.alloc (.cells #[.slice da dn dc] 103)) da dn zs) := hs.below M0.bel (Nat.le_refl _)
  go_enter Try.func69, Try.ntmps69
  go_wp2_with fail
  refine (textUsed_calls da dn dc _).mono ?_
  rintro e w1 ⟨rfl, g1⟩
  have M1 := M0.below g1
  have c0 := (M1.get 0 rfl).cell 0 rfl
  have HS1 := hide (HS.out.below g1 (Nat.le_refl _))
  have HB := hide M1.bel
  clear HS M0 M1 g1
  by_cases h1 : (dn : Int) ≤ q
  · go_wp2_with (go_at_call 78; refine (areWords_calls da dn dc zs _ hd HS1.out).mono ?_; rintro e w' ⟨rfl, rfl⟩)
    go_ret
    exact ⟨ret_bool (by simp [h1]), HB.out⟩
  · go_wp2
    go_ret
    exact ⟨ret_bool (by rw [decide_eq_false (by omega)]; rfl), HB.out⟩

def thgF (zs : List Int) : Int := if fault zs ≠ 0 then fault zs else if thing0 zs = false then 1 else 0

theorem thingB_0 {zs : List Int} (h : fault zs = 0) : thingB zs = thing0 zs := by unfold thingB thing0; rw [h]; rfl

set_option maxRecDepth 100000 in
theorem thingFault_calls (a : Option Addr) (len cap : Nat) (zs : List Int) (w : World) (hl : len ≤ maxLen) (hs : Sl w a len zs) :
    Calls Try.prog 67 #[.agg #[.slice a len cap]] w fun e w' => e = .returned (.int .i64 (thgF zs)) ∧ Below w.heap.size w w' := by
  have M0 := (Mm.start w).allocC [.slice a len cap] 37
  have hb0 := M0.bel
  go_enter Try.func67, Try.ntmps67
  go_wp2_with fail
  refine (implLabelFault_calls a len cap zs _ hl (hs.below hb0 (Nat.le_refl _))).mono ?_
  rintro e w1 ⟨rfl, g1⟩
  have M1 := M0.below g1
  have c1 := (M1.get 0 rfl).cell 0 rfl
  have HB1 := hide M1.bel
  have HS := hide (hs.below M1.bel (Nat.le_refl _))
  clear g1 M0 hb0
  by_cases h1 : fault zs = 0
  rotate_left
  · have e1 : (fault zs != 0) = true := by simpa using h1
    have HV : Hid (thgF zs = fault zs) := if_pos h1
    clear h1 M1
    go_wp2
    go_ret
    exact ⟨ret_int HV.out.symm, HB1.out⟩
  have e1 : (fault zs != 0) = false := by simp [h1]
  have HV : Hid (thgF zs = if thing0 zs = false then 1 else 0) := if_neg (by simpa using h1)
  have HT := hide (thingB_0 h1)
  clear h1 M1
  go_wp2_with fail
  refine (isThing_calls a len cap zs _ hl HS.out).mono ?_
  rintro e w2 ⟨rfl, g2⟩
  have HB2 := hide (HB1.out.trans (g2.mono HB1.out.size))
  clear g2
  cases h0 : thingB zs with
  | true =>
    have HR : Hid (thgF zs = 0) := by show _ = _; rw [HV.out, ← HT.out, h0]; rfl
    go_wp2
    go_ret
    exact ⟨ret_int HR.out.symm, HB2.out⟩
  | false =>
    have HR : Hid (thgF zs = 1) := by show _ = _; rw [HV.out, ← HT.out, h0]; rfl
    go_wp2
    go_ret
    exact ⟨ret_int HR.out.symm, HB2.out⟩

/-- an object's own fault. -/
def objF (x : OB) : Int := if formB x = false then 1 else if fault x.2.2.2.1 ≠ 0 then fault x.2.2.2.1 else if thing0 x.2.2.2.1 = false then 1 else if rngB x = false then 3 else 0

theorem objF_form {x : OB} (h : formB x = false) : objF x = 1 := if_pos h
theorem objF_thg {x : OB} (h : formB x = true) (h2 : thgF x.2.2.2.1 ≠ 0) : objF x = thgF x.2.2.2.1 := by
  unfold objF; rw [if_neg (by rw [h]; simp)]
  unfold thgF at h2 ⊢
  by_cases h3 : fault x.2.2.2.1 ≠ 0
  · rw [if_pos h3, if_pos h3]
  · rw [if_neg h3] at h2 ⊢
    rw [if_neg h3]
    by_cases h4 : thing0 x.2.2.2.1 = false
    · rw [if_pos h4, if_pos h4]
    · rw [if_neg h4] at h2; exact absurd rfl h2
theorem objF_rng {x : OB} (h : formB x = true) (h2 : thgF x.2.2.2.1 = 0) : objF x = if rngB x = false then 3 else 0 := by
  unfold objF; rw [if_neg (by rw [h]; simp)]
  unfold thgF at h2
  by_cases h3 : fault x.2.2.2.1 ≠ 0
  · rw [if_pos h3] at h2; exact absurd h2 h3
  · rw [if_neg h3] at h2 ⊢
    by_cases h4 : thing0 x.2.2.2.1 = false
    · rw [if_pos h4] at h2; simp at h2
    · rw [if_neg h4]

theorem rng_box {x : OB} (h : formB x = true) (h1 : x.2.2.1 = 1) (hq : inB x.2.2.2.2.1 0 200 = true) : rngB x = inB x.2.2.2.2.2.1 1 100 := by
  unfold formB at h
  rw [if_pos h1] at h
  have hl : x.2.2.2.2.2.2 = [] := List.eq_nil_of_length_eq_zero (by simpa using h)
  have := (inB_iff.1 hq).1
  unfold rngB
  rw [hq, hl]
  simp [h1, this]
theorem rng_text {x : OB} (_h : formB x = true) (h1 : x.2.2.1 ≠ 1) (hq : inB x.2.2.2.2.1 0 200 = true) : rngB x = (decide ((x.2.2.2.2.2.2.length : Int) ≤ x.2.2.2.2.1) && x.2.2.2.2.2.2.all okv) := by
  unfold rngB
  rw [hq]
  simp [h1]
  rfl
theorem rng_no {x : OB} (hq : inB x.2.2.2.2.1 0 200 = false) : rngB x = false := by unfold rngB; rw [hq]; simp

theorem up_inB (v m : Int) : up v m = inB v 0 m := rfl

set_option maxRecDepth 100000 in
set_option maxHeartbeats 2000000 in
theorem objectFault_calls (x : OB) (la : Option Addr) (lc : Nat) (da : Option Addr) (dc : Nat) (w : World) (hl : x.2.2.2.1.length ≤ maxLen) (hd : x.2.2.2.2.2.2.length ≤ maxLen) (hs : Sl w la x.2.2.2.1.length x.2.2.2.1) (ht : Sl w da x.2.2.2.2.2.2.length x.2.2.2.2.2.2) : Calls Try.prog 50 #[.agg #[.int .i64 x.1, .int .i64 x.2.1, .int .i64 x.2.2.1, .slice la x.2.2.2.1.length lc, .int .i64 x.2.2.2.2.1, .int .i64 x.2.2.2.2.2.1, .slice da x.2.2.2.2.2.2.length dc]] w fun e w' => e = .returned (.int .i64 (objF x)) ∧ Below w.heap.size w w' := by
  have hnn : ∀ W : World, (binOp .eql 91 .nilIface .nilIface).run Try.prog W = .ok (.bool true) W := fun W => by rfl
  have hnb : ∀ (W : World) (a : Value), (binOp .eql 91 (.iface 96 a) .nilIface).run Try.prog W = .ok (.bool false) W := fun W a => by rfl
  have hnt : ∀ (W : World) (a : Value), (binOp .eql 91 (.iface 103 a) .nilIface).run Try.prog W = .ok (.bool false) W := fun W a => by rfl
  have M0 := (Mm.start w).allocC [.int .i64 x.1, .int .i64 x.2.1, .int .i64 x.2.2.1, .slice la x.2.2.2.1.length lc, .int .i64 x.2.2.2.2.1, .int .i64 x.2.2.2.2.2.1, .slice da x.2.2.2.2.2.2.length dc] 57
  go_enter Try.func50, Try.ntmps50
  go_wp2_with fail
  refine (contentOf_calls x la lc da dc none 0 0 _).mono ?_
  rintro e w1 ⟨rfl, g1⟩
  have M1 := M0.below g1
  have c3 := (M1.get 0 rfl).cell 3 rfl
  have c4 := (M1.get 0 rfl).cell 4 rfl
  have HB1 := hide M1.bel
  have HM := hide M1
  clear M0 g1 M1
  cases hf : formB x with
  | false =>
    have HV := hide (objF_form hf)
    have hc : ctV x da dc none 0 0 = .nilIface := by unfold ctV; rw [hf]; rfl
    rw [hc]
    clear hf hc
    go_wp2
    go_ret
    exact ⟨ret_int HV.out.symm, HB1.out⟩
  | true =>
  have HF := hide hf
  obtain ⟨ct, hct⟩ : ∃ ct, ct = ctV x da dc none 0 0 := ⟨_, rfl⟩
  have HCT := hide hct
  have hnc : ∀ W : World, (binOp .eql 91 ct .nilIface).run Try.prog W = .ok (.bool false) W := fun W => by
    rw [hct]; unfold ctV; rw [hf]
    by_cases h1 : x.2.2.1 = 1
    · rw [if_pos rfl, if_pos h1]; exact hnb W _
    · rw [if_pos rfl, if_neg h1]; exact hnt W _
  have hng : ∀ W : World, (eqGuard .eql 91 (.tmp 7) (.const .nilIface) ct .nilIface).run Try.prog W = .ok () W := fun W => by
    rw [hct]; unfold ctV; rw [hf]
    by_cases h1 : x.2.2.1 = 1
    · rw [if_pos rfl, if_pos h1]; rfl
    · rw [if_pos rfl, if_neg h1]; rfl
  rw [← hct]
  clear hct hf hnn hnb hnt
  go_wp2_with fail
  refine (thingFault_calls la _ lc x.2.2.2.1 _ hl (hs.below HB1.out (Nat.le_refl _))).mono ?_
  rintro e w2 ⟨rfl, g2⟩
  have M2 := HM.out.below g2
  have d4 := (M2.get 0 rfl).cell 4 rfl
  have HB2 := hide M2.bel
  have HT2 := hide (ht.below M2.bel (Nat.le_refl _))
  clear g2 M2 HM HB1 c3 c4
  by_cases h1 : thgF x.2.2.2.1 = 0
  rotate_left
  · have e1 : (thgF x.2.2.2.1 != 0) = true := by simpa using h1
    have HV := hide (objF_thg HF.out h1)
    clear h1
    go_wp2
    go_ret
    exact ⟨ret_int HV.out.symm, HB2.out⟩
  have e1 : (thgF x.2.2.2.1 != 0) = false := by simp [h1]
  have HV := hide (objF_rng HF.out h1)
  clear h1
  cases hq : up x.2.2.2.2.1 200 with
  | false =>
    have HR : Hid (objF x = 3) := by show _ = _; rw [HV.out, rng_no hq]; rfl
    go_wp2_with (go_at_call 68; with_reducible refine (isUpTo_is _ _ _ _ hq).mono ?_; rintro e w' ⟨rfl, hw'⟩; rw [hw']; clear hw' w')
    go_ret
    exact ⟨ret_int HR.out.symm, HB2.out⟩
  | true =>
  have HW : Hid (∀ W, Below w2.heap.size w2 W → Calls Try.prog 69 #[ct, .int .i64 x.2.2.2.2.1] W fun e w' => e = .returned (.bool (rngB x)) ∧ Below W.heap.size W w') := fun W hW => by
    rw [HCT.out]; unfold ctV; rw [HF.out, if_pos rfl]
    by_cases h1 : x.2.2.1 = 1
    · rw [if_pos h1]; exact isWithin_box _ _ _ _ _ _ _ (rng_box HF.out h1 hq).symm
    · rw [if_neg h1]; exact isWithin_text _ _ _ _ _ _ _ hd (HT2.out.below hW (Nat.le_refl _)) (rng_text HF.out h1 hq).symm
  go_wp2_with (first | (go_at_call 68; with_reducible refine (isUpTo_is _ _ _ _ hq).mono ?_; rintro e w' ⟨rfl, hw'⟩; rw [hw']; clear hw' w') | fail)
  refine (HW.out _ (Below.refl _ _)).mono ?_
  rintro e w3 ⟨rfl, g3⟩
  have HB3 := hide (HB2.out.trans (g3.mono HB2.out.size))
  cases h0 : rngB x with
  | true =>
    have HR : Hid (objF x = 0) := by show _ = _; rw [HV.out, h0]; rfl
    go_wp2
    go_ret
    exact ⟨ret_int HR.out.symm, HB3.out⟩
  | false =>
    have HR : Hid (objF x = 3) := by show _ = _; rw [HV.out, h0]; rfl
    go_wp2
    go_ret
    exact ⟨ret_int HR.out.symm, HB3.out⟩

end Go.Proofs.Ytipfaoecodclaaa
