import Derived.Test.YtcojgmecocjnkaaGreatG55
import Derived.Test.YtcojgmecocjnkaaGreatG56
import Derived.Test.YtcojgmecocjnkaaGreatG57
import Derived.Test.YtcojgmecocjnkaaGreatG51
import Derived.Test.YtcojgmecocjnkaaGreatG25
import Derived.WalkKit
import Derived.ProofKit
import Derived.OpenShut
import Derived.ShutString
import Derived.ChangeOld
import Derived.Below
import Derived.WalkSpells
import Derived.Deep.QuietTactic
import Derived.BigQuiet
import Derived.Deep.RegionWith
import Derived.Deep.WholeRow
import Derived.Deep.DeepCutAuto
import Derived.Deep.RegionHeld2
import Derived.Deep.AppendLies
import Derived.Deep.RegionLaw
namespace Go.Proofs.YtcojgmecocjnkaaGreat
open Go.ChangeShapes Go.WideShapes Go.ChangeAt Go.RowKit

theorem hg_nx {D : SD} {k : Nat} (hl : k < D.cs.length) : gx (nxD D k).cs k = ((gx D.cs k).1, wrp ((gx D.cs k).2.1 + 1), (gx D.cs k).2.2) := by unfold nxD; rw [gx_set _ hl]; simp

theorem se_nx {D : SD} {k : Nat} {r : List Int} {p : Int} {h : Bool} : seX (nxD D k) k r p h = seX D k r p h := by unfold seX nxD; simp only [List.set_set]

theorem ty_do {D : SD} {k : Nat} (hk0 : k0X D k = 1) : tyK D k = kdX D k ∧ tyT D k = (if kdX D k = 2 then doT (nxD D k) k (opX D k) (ibX D k) (imX D k) else 0) ∧ tyC D k = (if kdX D k = 4 then imX D k else 0) ∧ tyD D k = (if kdX D k = 2 ∨ kdX D k = 3 then D else doD (nxD D k) k (opX D k) (iaX D k) (ibX D k) (imX D k)) := ⟨if_pos hk0, if_pos hk0, if_pos hk0, if_pos hk0⟩

/-- an instruction that is done. -/
theorem ty_one {D : SD} {k : Nat} {op im : Int} {ia ib : Nat} {E : SD} (hk0 : k0X D k = 1) (ho : opX D k = op) (h1 : iaX D k = ia) (h2 : ibX D k = ib) (h3 : imX D k = im) (hk : doK (nxD D k) k op ib im = 1) (hE : doD (nxD D k) k op ia ib im = E) : tyK D k = 1 ∧ tyT D k = 0 ∧ tyC D k = 0 ∧ tyD D k = E := by
  have hd : kdX D k = 1 := by unfold kdX; rw [ho, h2, h3]; exact hk
  obtain ⟨a, b, c, d⟩ := ty_do hk0
  rw [hd] at a b c d
  exact ⟨a, b, c, d.trans (by rw [ho, h1, h2, h3]; exact hE)⟩

/-- one that is not allowed, or missed. -/
theorem ty_not {D : SD} {k : Nat} {op im kd t : Int} {ib : Nat} (hk0 : k0X D k = 1) (ho : opX D k = op) (h2 : ibX D k = ib) (h3 : imX D k = im) (hk : doK (nxD D k) k op ib im = kd) (hd : kd = 2 ∨ kd = 3) (hT : kd = 2 → doT (nxD D k) k op ib im = t) : tyK D k = kd ∧ tyT D k = msX kd t 0 ∧ tyC D k = 0 ∧ tyD D k = D := by
  have he : kdX D k = kd := by unfold kdX; rw [ho, h2, h3]; exact hk
  obtain ⟨a, b, c, d⟩ := ty_do hk0
  rw [he] at a b c d
  refine ⟨a, ?_, c.trans (if_neg (by omega)), d.trans (if_pos hd)⟩
  rw [b]
  unfold msX
  by_cases e : kd = 2
  · rw [if_pos e, if_pos e, ho, h2, h3]; exact hT e
  · rw [if_neg e, if_neg e]

/-- the same, with what was missed before. -/
theorem ty_oneM (m0 : Int) {D : SD} {k : Nat} {op im : Int} {ia ib : Nat} {E : SD} (hk0 : k0X D k = 1) (ho : opX D k = op) (h1 : iaX D k = ia) (h2 : ibX D k = ib) (h3 : imX D k = im) (hk : doK (nxD D k) k op ib im = 1) (hE : doD (nxD D k) k op ia ib im = E) : tyK D k = 1 ∧ msX (tyK D k) (tyT D k) m0 = m0 ∧ tyC D k = 0 ∧ tyD D k = E := by
  obtain ⟨a, b, c, d⟩ := ty_one hk0 ho h1 h2 h3 hk hE
  exact ⟨a, by rw [a]; rfl, c, d⟩
theorem ty_notM (m0 : Int) {D : SD} {k : Nat} {op im kd t : Int} {ib : Nat} (hk0 : k0X D k = 1) (ho : opX D k = op) (h2 : ibX D k = ib) (h3 : imX D k = im) (hk : doK (nxD D k) k op ib im = kd) (hd : kd = 2 ∨ kd = 3) (hT : kd = 2 → doT (nxD D k) k op ib im = t) : tyK D k = kd ∧ msX (tyK D k) (tyT D k) m0 = msX kd t m0 ∧ tyC D k = 0 ∧ tyD D k = D := by
  obtain ⟨a, b, c, d⟩ := ty_not hk0 ho h2 h3 hk hd hT
  refine ⟨a, ?_, c, d⟩
  rw [a, b]
  unfold msX
  by_cases e : kd = 2
  · simp only [if_pos e]
  · simp only [if_neg e]
theorem ty_msX (D : SD) (k : Nat) : msX (tyK D k) (tyT D k) 0 = tyT D k := by
  unfold msX
  by_cases e : tyK D k = 2
  · rw [if_pos e]
  · rw [if_neg e]
    by_cases h0 : k0X D k = 1
    · obtain ⟨a, b, _, _⟩ := ty_do h0
      rw [a] at e
      rw [b, if_neg e]
    · obtain ⟨a, b, _, _⟩ := ty_no h0
      rw [a] at e
      rw [b]
      unfold t0X
      unfold k0X at e
      by_cases hh : (gx D.cs k).2.2 = true
      · rw [if_pos hh]
      · rw [if_neg hh] at e
        rw [if_neg hh, if_neg e]

theorem cf_halt (args : Array Value) (W : World) : Sem.run Tryz.prog (callFunc 168 args) W = .ok (.enter 168 args) W := by kernel_rfl

theorem cf_set (args : Array Value) (W : World) : Sem.run Tryz.prog (callFunc 169 args) W = .ok (.enter 169 args) W := by kernel_rfl

theorem cf_add (args : Array Value) (W : World) : Sem.run Tryz.prog (callFunc 170 args) W = .ok (.enter 170 args) W := by kernel_rfl

theorem cf_load (args : Array Value) (W : World) : Sem.run Tryz.prog (callFunc 171 args) W = .ok (.enter 171 args) W := by kernel_rfl

theorem cf_store (args : Array Value) (W : World) : Sem.run Tryz.prog (callFunc 172 args) W = .ok (.enter 172 args) W := by kernel_rfl

theorem cf_jump (args : Array Value) (W : World) : Sem.run Tryz.prog (callFunc 173 args) W = .ok (.enter 173 args) W := by kernel_rfl

theorem cf_call (args : Array Value) (W : World) : Sem.run Tryz.prog (callFunc 174 args) W = .ok (.enter 174 args) W := by kernel_rfl

theorem cf_out (args : Array Value) (W : World) : Sem.run Tryz.prog (callFunc 175 args) W = .ok (.enter 175 args) W := by kernel_rfl

theorem cf_copyOver (args : Array Value) (W : World) : Sem.run Tryz.prog (callFunc 176 args) W = .ok (.enter 176 args) W := by kernel_rfl

theorem cf_refuse (args : Array Value) (W : World) : Sem.run Tryz.prog (callFunc 177 args) W = .ok (.enter 177 args) W := by kernel_rfl

set_option maxRecDepth 100000 in
set_option maxHeartbeats 2000000 in
theorem step_gen (P : Nat) (S : Nat → Prop) (A : SA) (D : SD) (k : Nat) (m0 : Int) (w : World) (h : MC P S A D m0 0 w) (H : SysR A D k) (hS : ∀ q, S q → q < w.heap.size) :
    Calls Tryz.prog 44 #[.pointer (some ⟨P, 0, none⟩)] w (AcP P S (tyD D k) (tyK D k) (msX (tyK D k) (tyT D k) m0) (tyC D k) w) := by
  have hr := h.y.y.oy.rs
  cases hh : (gx D.cs k).2.2 with
  | true =>
    have hk0 : k0X D k = 5 := if_pos hh
    have ht0 : t0X D k = 0 := if_pos hh
    obtain ⟨a, b, c, d⟩ := ty_no (D := D) (k := k) (by rw [hk0]; omega)
    rw [a, b, c, d, hk0, ht0, show msX 5 0 m0 = m0 from rfl]
    exact step_halted P S A D k m0 w h H hS hh
  | false =>
    by_cases h0 : plK D (gx D.cs k).2.1 4 = 1
    rotate_left
    · have hk0 : k0X D k = plK D (gx D.cs k).2.1 4 := if_neg (by rw [hh]; simp)
      have ht0 : msX (plK D (gx D.cs k).2.1 4) (t0X D k) m0 = msX (plK D (gx D.cs k).2.1 4) (plT D (gx D.cs k).2.1) m0 := by
        have e0 : t0X D k = msX (plK D (gx D.cs k).2.1 4) (plT D (gx D.cs k).2.1) 0 := if_neg (by rw [hh]; simp)
        rw [e0]; unfold msX; by_cases e : plK D (gx D.cs k).2.1 4 = 2
        · simp only [if_pos e]
        · simp only [if_neg e]
      obtain ⟨a, b, c, d⟩ := ty_no (D := D) (k := k) (by rw [hk0]; exact h0)
      rw [a, b, c, d, hk0, ht0]
      exact step_denied P S A D k m0 w h H hS hh h0
    have hk0 : k0X D k = 1 := (if_neg (by rw [hh]; simp)).trans h0
    have hlen := hr.len
    have hpw := plK_one h0
    have wx := mf_val H.mf (m := (gx D.cs k).2.1.toNat) (by omega)
    obtain ⟨x, hx⟩ : ∃ x, x = wdX D k := ⟨_, rfl⟩
    have hx2 : (gw D.ws (gx D.cs k).2.1.toNat).1 = x := hx.symm
    rw [hx2] at wx
    obtain ⟨ia, hia⟩ : ∃ j, j = iaX D k := ⟨_, rfl⟩
    obtain ⟨ib, hib⟩ : ∃ j, j = ibX D k := ⟨_, rfl⟩
    have via : x / 512 % 8 = (ia : Int) := by rw [hia]; unfold iaX; rw [← hx]; omega
    have vib : x / 64 % 8 = (ib : Int) := by rw [hib]; unfold ibX; rw [← hx]; omega
    have hop : opX D k = x / 4096 := by unfold opX; rw [← hx]
    have him : imX D k = x % 64 := by unfold imX; rw [← hx]
    obtain ⟨h8, hrg, hp0, hp1⟩ := H.cx k H.hk
    have hl : k < D.cs.length := by have := H.hk; have := H.xd; omega
    have hsz : szY A D + 1 ≤ 1048576 := by have := H.small hr; omega
    have AC : AcH A D k ia ib (x % 64) := ⟨H.ac, by have := H.hk; have := H.xd; omega, h8, hrg, ⟨hp0, hp1⟩, by omega, by omega, by omega, H.fc, hl⟩
    have hgn := hg_nx (D := D) (k := k) hl
    obtain ⟨p, hp⟩ : ∃ j : Nat, wrp (gt (gx D.cs k).1 ib + x % 64) = (j : Int) := ⟨(wrp (gt (gx D.cs k).1 ib + x % 64)).toNat, by have := wrp_in (gt (gx D.cs k).1 ib + x % 64); omega⟩
    have goal : ∀ (f : FuncId) (E : SD) (kd ms cl : Int), (tyK D k = kd ∧ msX (tyK D k) (tyT D k) m0 = ms ∧ tyC D k = cl ∧ tyD D k = E) → (∀ (args : Array Value) (W : World), Sem.run Tryz.prog (callFunc f args) W = .ok (.enter f args) W) → (∀ W : World, Calls Tryz.prog 105 #[.int .i64 (x / 4096)] W fun e w' => e = .returned (.func (.func f) #[] #[]) ∧ Below W.heap.size W w') → (∀ W : World, MC P S A D m0 0 W → (∀ q, S q → q < W.heap.size) → Calls Tryz.prog f #[.pointer (some ⟨P, 0, none⟩), .agg #[.int .i64 (x / 4096), .int .i64 (ia : Int), .int .i64 (ib : Int), .int .i64 (x % 64)]] W (AcP P S E kd ms cl W)) → Calls Tryz.prog 44 #[.pointer (some ⟨P, 0, none⟩)] w (AcP P S (tyD D k) (tyK D k) (msX (tyK D k) (tyT D k) m0) (tyC D k) w) := fun f E kd ms cl ht hcf hao hact => by
      rw [ht.2.1, ht.1, ht.2.2.1, ht.2.2.2]
      exact step_done P S A D k m0 w h H hS hh h0 x ia ib hx hia hib f E kd ms cl hcf hao hact
    have hplK : ∀ q b, plK (nxD D k) q b = plK D q b := fun _ _ => rfl
    rcases (by omega : x / 4096 = 0 ∨ x / 4096 = 1 ∨ x / 4096 = 2 ∨ x / 4096 = 3 ∨ x / 4096 = 4 ∨ x / 4096 = 5 ∨ x / 4096 = 6 ∨ x / 4096 = 7 ∨ x / 4096 = 8 ∨ x / 4096 = 9 ∨ x / 4096 = 10 ∨ 11 ≤ x / 4096) with e | e | e | e | e | e | e | e | e | e | e | e
    · rw [e] at goal
      exact goal 168 (seX D k (gx D.cs k).1 (gx D.cs k).2.1 true) 1 m0 0 (ty_oneM m0 hk0 (hop.trans e) hia.symm hib.symm him rfl (by show seX (nxD D k) k _ (wrp (_ - 1)) _ = _; rw [hgn, se_nx]; dsimp only; rw [show wrp (wrp ((gx D.cs k).2.1 + 1) - 1) = (gx D.cs k).2.1 by unfold wrp; omega])) cf_halt actionOf_0 (fun W hM hSW => halt_calls P S A D k ia ib m0 0 0 (x % 64) W hM AC)
    · rw [e] at goal
      exact goal 169 (seX D k ((gx D.cs k).1.set ia (x % 64)) (wrp ((gx D.cs k).2.1 + 1)) (gx D.cs k).2.2) 1 m0 0 (ty_oneM m0 hk0 (hop.trans e) hia.symm hib.symm him rfl (by show seX (nxD D k) k _ _ _ = _; rw [hgn]; exact se_nx)) cf_set actionOf_1 (fun W hM hSW => set_calls P S A D k ia ib m0 0 (x % 64) W hM AC hSW)
    · rw [e] at goal
      exact goal 170 (seX D k ((gx D.cs k).1.set ia (wrp (gt (gx D.cs k).1 ia + gt (gx D.cs k).1 ib))) (wrp ((gx D.cs k).2.1 + 1)) (gx D.cs k).2.2) 1 m0 0 (ty_oneM m0 hk0 (hop.trans e) hia.symm hib.symm him rfl (by show seX (nxD D k) k _ _ _ = _; rw [hgn]; exact se_nx)) cf_add actionOf_2 (fun W hM hSW => add_calls P S A D k ia ib m0 0 (x % 64) W hM AC)
    · rw [e] at goal
      exact goal 170 (seX D k ((gx D.cs k).1.set ia (wrp (gt (gx D.cs k).1 ia + -gt (gx D.cs k).1 ib))) (wrp ((gx D.cs k).2.1 + 1)) (gx D.cs k).2.2) 1 m0 0 (ty_oneM m0 hk0 (hop.trans e) hia.symm hib.symm him rfl (by show seX (nxD D k) k _ _ _ = _; rw [hgn]; exact se_nx)) cf_add actionOf_3 (fun W hM hSW => sub_calls P S A D k ia ib m0 0 (x % 64) W hM AC)
    · rw [e] at goal
      have hdk : doK (nxD D k) k 4 ib (x % 64) = plK D (wrp (gt (gx D.cs k).1 ib + x % 64)) 1 := by show plK (nxD D k) (wrp (gt (gx (nxD D k).cs k).1 ib + x % 64)) 1 = _; rw [hgn]; rfl
      by_cases hq : plK D (p : Int) 1 = 1
      · exact goal 171 (seX D k ((gx D.cs k).1.set ia (gw D.ws p).1) (wrp ((gx D.cs k).2.1 + 1)) (gx D.cs k).2.2) 1 m0 0 (ty_oneM m0 hk0 (hop.trans e) hia.symm hib.symm him (by rw [hdk, hp]; exact hq) (by show mvD (nxD D k) k 4 ia ib (x % 64) = _; unfold mvD; simp only [Int.toNat_natCast, hgn]; rw [if_pos (by show plK D (wrp (gt (gx D.cs k).1 ib + x % 64)) _ = 1; simpa [hp] using hq)]; rw [if_neg (by omega)]; simp only [hp, Int.toNat_natCast]; exact se_nx)) cf_load actionOf_4 (fun W hM hSW => load1_calls P S A D k ia ib m0 0 (x % 64) W hM AC p hp hq hSW)
      · have hq' : plK D (wrp (gt (gx D.cs k).1 ib + x % 64)) 1 ≠ 1 := by rw [hp]; exact hq
        exact goal 171 D _ _ 0 (ty_notM m0 (t := plT D (wrp (gt (gx D.cs k).1 ib + x % 64))) hk0 (hop.trans e) hib.symm him hdk (by have := plK_cases D (wrp (gt (gx D.cs k).1 ib + x % 64)) 1; omega) (fun _ => (by show plT (nxD D k) (wrp (gt (gx (nxD D k).cs k).1 ib + x % 64)) = plT (nxD D k) _; rw [hgn]))) cf_load actionOf_4 (fun W hM hSW => load0_calls P S A D k ia ib m0 0 (x % 64) W hM AC hq')
    · rw [e] at goal
      have hdk : doK (nxD D k) k 5 ib (x % 64) = plK D (wrp (gt (gx D.cs k).1 ib + x % 64)) 2 := by show plK (nxD D k) (wrp (gt (gx (nxD D k).cs k).1 ib + x % 64)) 2 = _; rw [hgn]; rfl
      by_cases hq : plK D (p : Int) 2 = 1
      · exact goal 172 (seX { D with ws := D.ws.set p (gt (gx D.cs k).1 ia, (gw D.ws p).2) } k (gx D.cs k).1 (wrp ((gx D.cs k).2.1 + 1)) (gx D.cs k).2.2) 1 m0 0 (ty_oneM m0 hk0 (hop.trans e) hia.symm hib.symm him (by rw [hdk, hp]; exact hq) (by show mvD (nxD D k) k 5 ia ib (x % 64) = _; unfold mvD; simp only [Int.toNat_natCast, hgn]; rw [if_pos (by show plK D (wrp (gt (gx D.cs k).1 ib + x % 64)) _ = 1; simpa [hp] using hq)]; rw [if_pos trivial]; simp only [hp, Int.toNat_natCast]; rfl)) cf_store actionOf_5 (fun W hM hSW => store1_calls P S A D k ia ib m0 0 (x % 64) W hM AC p hp hq hSW)
      · have hq' : plK D (wrp (gt (gx D.cs k).1 ib + x % 64)) 2 ≠ 1 := by rw [hp]; exact hq
        exact goal 172 D _ _ 0 (ty_notM m0 (t := plT D (wrp (gt (gx D.cs k).1 ib + x % 64))) hk0 (hop.trans e) hib.symm him hdk (by have := plK_cases D (wrp (gt (gx D.cs k).1 ib + x % 64)) 2; omega) (fun _ => (by show plT (nxD D k) (wrp (gt (gx (nxD D k).cs k).1 ib + x % 64)) = plT (nxD D k) _; rw [hgn]))) cf_store actionOf_5 (fun W hM hSW => store0_calls P S A D k ia ib m0 0 (x % 64) W hM AC hq')
    · rw [e] at goal
      exact goal 173 (seX D k (gx D.cs k).1 (x % 64) (gx D.cs k).2.2) 1 m0 0 (ty_oneM m0 hk0 (hop.trans e) hia.symm hib.symm him rfl (by show seX (nxD D k) k _ _ _ = _; rw [hgn]; exact se_nx)) cf_jump actionOf_6 (fun W hM hSW => jump_calls P S A D k ia ib m0 0 (x % 64) W hM AC)
    · rw [e] at goal
      by_cases hz : gt (gx D.cs k).1 ia = 0
      · exact goal 173 (seX D k (gx D.cs k).1 (x % 64) (gx D.cs k).2.2) 1 m0 0 (ty_oneM m0 hk0 (hop.trans e) hia.symm hib.symm him rfl (by (have ed : doD (nxD D k) k 7 ia ib (x % 64) = _ := if_pos (show gt (gx (nxD D k).cs k).1 ia = 0 by rw [hgn]; exact hz)); rw [ed]; show seX (nxD D k) k _ _ _ = _; rw [hgn]; exact se_nx)) cf_jump actionOf_7 (fun W hM hSW => zero0_calls P S A D k ia ib m0 0 (x % 64) W hM AC hz)
      · exact goal 173 (seX D k (gx D.cs k).1 (wrp ((gx D.cs k).2.1 + 1)) (gx D.cs k).2.2) 1 m0 0 (ty_oneM m0 hk0 (hop.trans e) hia.symm hib.symm him rfl (by (have ed : doD (nxD D k) k 7 ia ib (x % 64) = _ := if_neg (show ¬ gt (gx (nxD D k).cs k).1 ia = 0 by rw [hgn]; exact hz)); rw [ed]; rfl)) cf_jump actionOf_7 (fun W hM hSW => zero1_calls P S A D k ia ib m0 0 (x % 64) W hM AC hz)
    · rw [e] at goal
      have hd : kdX D k = 4 := by unfold kdX; rw [hop, e]; rfl
      obtain ⟨a, b, c, d⟩ := ty_do hk0
      rw [hd] at a b c d
      exact goal 174 (seX D k (gx D.cs k).1 (wrp ((gx D.cs k).2.1 + 1)) (gx D.cs k).2.2) 4 m0 (x % 64) ⟨a, (by rw [a]; rfl), c.trans him, d.trans (by rw [hop, e]; rfl)⟩ cf_call actionOf_8 (fun W hM hSW => call_calls P S A D k ia ib m0 0 (x % 64) W hM AC)
    · rw [e] at goal
      by_cases h40 : 40 ≤ A.on
      · have hs : sdK (nxD D k) = 3 := if_pos (by show 40 ≤ D.os.length; omega)
        exact goal 175 D 3 m0 0 (ty_notM m0 (t := 0) hk0 (hop.trans e) hib.symm him hs (.inr rfl) (fun q => by omega)) cf_out actionOf_9 (fun W hM hSW => out0_calls P S A D k ia ib m0 0 (x % 64) W hM AC h40)
      · have hs : sdK (nxD D k) = askK D D.dv 2 := if_neg (by show ¬ 40 ≤ D.os.length; omega)
        have hsT : sdT (nxD D k) = D.dv := if_neg (by show ¬ 40 ≤ D.os.length; omega)
        by_cases hk1 : askK D D.dv 2 = 1
        · exact goal 175 (seX { D with os := D.os ++ [gt (gx D.cs k).1 ia] } k (gx D.cs k).1 (wrp ((gx D.cs k).2.1 + 1)) (gx D.cs k).2.2) 1 m0 0 (ty_oneM m0 hk0 (hop.trans e) hia.symm hib.symm him (hs.trans hk1) (by show sdD (nxD D k) (gt (gx (nxD D k).cs k).1 ia) = _; rw [hgn]; unfold sdD; rw [if_pos (hs.trans hk1)]; rfl)) cf_out actionOf_9 (fun W hM hSW => out2_calls P S A D k ia ib m0 0 (x % 64) W hM AC h40 hk1 hSW hsz)
        · exact goal 175 D _ _ 0 (ty_notM m0 hk0 (hop.trans e) hib.symm him hs (by have := askK_cases D D.dv 2; omega) (fun _ => hsT)) cf_out actionOf_9 (fun W hM hSW => out1_calls P S A D k ia ib m0 0 (x % 64) W hM AC h40 hk1)
    · rw [e] at goal
      exact goal 176 (seX D k ((gx D.cs k).1.set ia (gt (gx D.cs k).1 ib)) (wrp ((gx D.cs k).2.1 + 1)) (gx D.cs k).2.2) 1 m0 0 (ty_oneM m0 hk0 (hop.trans e) hia.symm hib.symm him rfl (by show seX (nxD D k) k _ _ _ = _; rw [hgn]; exact se_nx)) cf_copyOver actionOf_10 (fun W hM hSW => copyOver_calls P S A D k ia ib m0 0 (x % 64) W hM AC)
    · have hd : doK (nxD D k) k (x / 4096) ib (x % 64) = 3 := by unfold doK; rw [if_neg (by omega), if_neg (by omega), if_neg (by omega), if_neg (by omega), if_pos (.inr (by omega))]
      exact goal 177 D 3 m0 0 (ty_notM m0 (t := 0) hk0 hop hib.symm him hd (.inr rfl) (fun q => by omega)) cf_refuse (fun W => actionOf_bad _ W e) (fun W hM hSW => refuse_calls P S A D m0 0 (x / 4096) (x % 64) ia ib W hM)

theorem step_calls (P : Nat) (S : Nat → Prop) (A : SA) (D : SD) (k : Nat) (w : World) (h : MC P S A D 0 0 w) (H : SysR A D k) (hS : ∀ q, S q → q < w.heap.size) :
    Calls Tryz.prog 44 #[.pointer (some ⟨P, 0, none⟩)] w (AcP P S (tyD D k) (tyK D k) (tyT D k) (tyC D k) w) := by
  have h1 := step_gen P S A D k 0 w h H hS
  rw [ty_msX] at h1
  exact h1

theorem CsO.of13 {P : Nat} {v0 v1 v2 v3 v4 v5 v6 v7 v8 v9 v10 v11 v12 : Value} {w : World} (h : Cs P [v0, v1, v2, v3, v4, v5, v6, v7, v8, v9, v10, v11, v12] w) : CsO P 0 [v0, v1, v2, v3, v4, v5, v6, v7, v8, v9, v10] w := fun i hi => by
  rw [Nat.zero_add]
  simp only [List.length_cons, List.length_nil] at hi
  rcases (by omega : i = 0 ∨ i = 1 ∨ i = 2 ∨ i = 3 ∨ i = 4 ∨ i = 5 ∨ i = 6 ∨ i = 7 ∨ i = 8 ∨ i = 9 ∨ i = 10) with rfl | rfl | rfl | rfl | rfl | rfl | rfl | rfl | rfl | rfl | rfl
  · exact h.cell 0 rfl
  · exact h.cell 1 rfl
  · exact h.cell 2 rfl
  · exact h.cell 3 rfl
  · exact h.cell 4 rfl
  · exact h.cell 5 rfl
  · exact h.cell 6 rfl
  · exact h.cell 7 rfl
  · exact h.cell 8 rfl
  · exact h.cell 9 rfl
  · exact h.cell 10 rfl

set_option maxRecDepth 100000 in
set_option maxHeartbeats 4000000 in
theorem implTryStep_calls (A : SA) (D : SD) (w : World) (hr : RS w A D) (hk : A.ln ≤ A.lc) (hz : szY A D ≤ 1048576) :
    Calls Tryz.prog 11 #[.agg #[.slice A.a A.n A.c, .slice A.ta A.tn A.tc, .slice A.da A.dn A.dc, .slice A.wa A.wn A.wc, .slice A.xa A.xn A.xc, .int .i64 D.ac, .int .i64 D.cz, .slice A.la A.ln A.lc, .int .i64 D.dv, .slice A.oa A.on A.oc, .slice A.ga A.gn A.gc]] w fun e w' => ∃ B : SA, e = .returned (.agg #[.int .i64 (sysF D), .int .i64 (tsK D), .int .i64 (tsT D), .int .i64 (tsC D), .slice B.a B.n B.c, .slice B.ta B.tn B.tc, .slice B.da B.dn B.dc, .slice B.wa B.wn B.wc, .slice B.xa B.xn B.xc, .int .i64 (tsD D).ac, .int .i64 (tsD D).cz, .slice B.la B.ln B.lc, .int .i64 (tsD D).dv, .slice B.oa B.on B.oc, .slice B.ga B.gn B.gc]) ∧ OY (InR w.heap.size w'.heap.size) B (tsD D) w' ∧ Below w.heap.size w w' := by
  have M0 := ((Mm.start w).allocC [.slice A.a A.n A.c, .slice A.ta A.tn A.tc, .slice A.da A.dn A.dc, .slice A.wa A.wn A.wc, .slice A.xa A.xn A.xc, .int .i64 D.ac, .int .i64 D.cz, .slice A.la A.ln A.lc, .int .i64 D.dv, .slice A.oa A.on A.oc, .slice A.ga A.gn A.gc] 53).allocC [.int .i64 0, .int .i64 0, .int .i64 0, .int .i64 0, .slice none 0 0, .slice none 0 0, .slice none 0 0, .slice none 0 0, .slice none 0 0, .int .i64 0, .int .i64 0, .slice none 0 0, .int .i64 0, .slice none 0 0, .slice none 0 0] 55
  simp only [World.size_alloc] at M0
  go_enter Tryz.func11, Tryz.ntmps11
  go_wp2_with fail
  refine (implSystemFault_calls A D _ (hr.below M0.bel (Nat.le_refl _)) hk).mono ?_
  rintro e w1 ⟨rfl, g1⟩
  have M1 := M0.below g1
  have z1 : w.heap.size + 2 ≤ w1.heap.size := by have := g1.size; simpa using this
  clear g1 M0
  by_cases hf : sysF D = 0
  rotate_left
  · have HC := hide (ts_bad hf)
    have hne : (sysF D != 0) = true := by simpa using hf
    clear hf
    have c0 := (M1.get 0 rfl).cell 0 rfl
    have f0 := (M1.get 0 rfl).fz 0 (by simp)
    have c1 := (M1.get 0 rfl).cell 1 rfl
    have f1 := (M1.get 0 rfl).fz 1 (by simp)
    have c2 := (M1.get 0 rfl).cell 2 rfl
    have f2 := (M1.get 0 rfl).fz 2 (by simp)
    have c3 := (M1.get 0 rfl).cell 3 rfl
    have f3 := (M1.get 0 rfl).fz 3 (by simp)
    have c4 := (M1.get 0 rfl).cell 4 rfl
    have f4 := (M1.get 0 rfl).fz 4 (by simp)
    have c5 := (M1.get 0 rfl).cell 5 rfl
    have f5 := (M1.get 0 rfl).fz 5 (by simp)
    have c6 := (M1.get 0 rfl).cell 6 rfl
    have f6 := (M1.get 0 rfl).fz 6 (by simp)
    have c7 := (M1.get 0 rfl).cell 7 rfl
    have f7 := (M1.get 0 rfl).fz 7 (by simp)
    have c8 := (M1.get 0 rfl).cell 8 rfl
    have f8 := (M1.get 0 rfl).fz 8 (by simp)
    have c9 := (M1.get 0 rfl).cell 9 rfl
    have f9 := (M1.get 0 rfl).fz 9 (by simp)
    have c10 := (M1.get 0 rfl).cell 10 rfl
    have f10 := (M1.get 0 rfl).fz 10 (by simp)
    have c11 := (M1.get 0 rfl).cell 11 rfl
    have f11 := (M1.get 0 rfl).fz 11 (by simp)
    have c12 := (M1.get 0 rfl).cell 12 rfl
    have f12 := (M1.get 0 rfl).fz 12 (by simp)
    have c13 := (M1.get 0 rfl).cell 13 rfl
    have f13 := (M1.get 0 rfl).fz 13 (by simp)
    have c14 := (M1.get 0 rfl).cell 14 rfl
    have f14 := (M1.get 0 rfl).fz 14 (by simp)
    have HB := hide (below_set15 M1.bel (P := w.heap.size + 1) (by omega) (.int .i64 (sysF D)) (.int .i64 0) (.int .i64 0) (.int .i64 0) (.slice none 0 0) (.slice none 0 0) (.slice none 0 0) (.slice none 0 0) (.slice none 0 0) (.int .i64 0) (.int .i64 0) (.slice none 0 0) (.int .i64 0) (.slice none 0 0) (.slice none 0 0))
    clear M1
    go_wp2
    have r0 := set15_at0 _ _ (.int .i64 (sysF D)) (.int .i64 0) (.int .i64 0) (.int .i64 0) (.slice none 0 0) (.slice none 0 0) (.slice none 0 0) (.slice none 0 0) (.slice none 0 0) (.int .i64 0) (.int .i64 0) (.slice none 0 0) (.int .i64 0) (.slice none 0 0) (.slice none 0 0) ⟨_, c0⟩
    have r1 := set15_at1 _ _ (.int .i64 (sysF D)) (.int .i64 0) (.int .i64 0) (.int .i64 0) (.slice none 0 0) (.slice none 0 0) (.slice none 0 0) (.slice none 0 0) (.slice none 0 0) (.int .i64 0) (.int .i64 0) (.slice none 0 0) (.int .i64 0) (.slice none 0 0) (.slice none 0 0) ⟨_, c1⟩
    have r2 := set15_at2 _ _ (.int .i64 (sysF D)) (.int .i64 0) (.int .i64 0) (.int .i64 0) (.slice none 0 0) (.slice none 0 0) (.slice none 0 0) (.slice none 0 0) (.slice none 0 0) (.int .i64 0) (.int .i64 0) (.slice none 0 0) (.int .i64 0) (.slice none 0 0) (.slice none 0 0) ⟨_, c2⟩
    have r3 := set15_at3 _ _ (.int .i64 (sysF D)) (.int .i64 0) (.int .i64 0) (.int .i64 0) (.slice none 0 0) (.slice none 0 0) (.slice none 0 0) (.slice none 0 0) (.slice none 0 0) (.int .i64 0) (.int .i64 0) (.slice none 0 0) (.int .i64 0) (.slice none 0 0) (.slice none 0 0) ⟨_, c3⟩
    have r4 := set15_at4 _ _ (.int .i64 (sysF D)) (.int .i64 0) (.int .i64 0) (.int .i64 0) (.slice none 0 0) (.slice none 0 0) (.slice none 0 0) (.slice none 0 0) (.slice none 0 0) (.int .i64 0) (.int .i64 0) (.slice none 0 0) (.int .i64 0) (.slice none 0 0) (.slice none 0 0) ⟨_, c4⟩
    have r5 := set15_at5 _ _ (.int .i64 (sysF D)) (.int .i64 0) (.int .i64 0) (.int .i64 0) (.slice none 0 0) (.slice none 0 0) (.slice none 0 0) (.slice none 0 0) (.slice none 0 0) (.int .i64 0) (.int .i64 0) (.slice none 0 0) (.int .i64 0) (.slice none 0 0) (.slice none 0 0) ⟨_, c5⟩
    have r6 := set15_at6 _ _ (.int .i64 (sysF D)) (.int .i64 0) (.int .i64 0) (.int .i64 0) (.slice none 0 0) (.slice none 0 0) (.slice none 0 0) (.slice none 0 0) (.slice none 0 0) (.int .i64 0) (.int .i64 0) (.slice none 0 0) (.int .i64 0) (.slice none 0 0) (.slice none 0 0) ⟨_, c6⟩
    have r7 := set15_at7 _ _ (.int .i64 (sysF D)) (.int .i64 0) (.int .i64 0) (.int .i64 0) (.slice none 0 0) (.slice none 0 0) (.slice none 0 0) (.slice none 0 0) (.slice none 0 0) (.int .i64 0) (.int .i64 0) (.slice none 0 0) (.int .i64 0) (.slice none 0 0) (.slice none 0 0) ⟨_, c7⟩
    have r8 := set15_at8 _ _ (.int .i64 (sysF D)) (.int .i64 0) (.int .i64 0) (.int .i64 0) (.slice none 0 0) (.slice none 0 0) (.slice none 0 0) (.slice none 0 0) (.slice none 0 0) (.int .i64 0) (.int .i64 0) (.slice none 0 0) (.int .i64 0) (.slice none 0 0) (.slice none 0 0) ⟨_, c8⟩
    have r9 := set15_at9 _ _ (.int .i64 (sysF D)) (.int .i64 0) (.int .i64 0) (.int .i64 0) (.slice none 0 0) (.slice none 0 0) (.slice none 0 0) (.slice none 0 0) (.slice none 0 0) (.int .i64 0) (.int .i64 0) (.slice none 0 0) (.int .i64 0) (.slice none 0 0) (.slice none 0 0) ⟨_, c9⟩
    have r10 := set15_at10 _ _ (.int .i64 (sysF D)) (.int .i64 0) (.int .i64 0) (.int .i64 0) (.slice none 0 0) (.slice none 0 0) (.slice none 0 0) (.slice none 0 0) (.slice none 0 0) (.int .i64 0) (.int .i64 0) (.slice none 0 0) (.int .i64 0) (.slice none 0 0) (.slice none 0 0) ⟨_, c10⟩
    have r11 := set15_at11 _ _ (.int .i64 (sysF D)) (.int .i64 0) (.int .i64 0) (.int .i64 0) (.slice none 0 0) (.slice none 0 0) (.slice none 0 0) (.slice none 0 0) (.slice none 0 0) (.int .i64 0) (.int .i64 0) (.slice none 0 0) (.int .i64 0) (.slice none 0 0) (.slice none 0 0) ⟨_, c11⟩
    have r12 := set15_at12 _ _ (.int .i64 (sysF D)) (.int .i64 0) (.int .i64 0) (.int .i64 0) (.slice none 0 0) (.slice none 0 0) (.slice none 0 0) (.slice none 0 0) (.slice none 0 0) (.int .i64 0) (.int .i64 0) (.slice none 0 0) (.int .i64 0) (.slice none 0 0) (.slice none 0 0) ⟨_, c12⟩
    have r13 := set15_at13 _ _ (.int .i64 (sysF D)) (.int .i64 0) (.int .i64 0) (.int .i64 0) (.slice none 0 0) (.slice none 0 0) (.slice none 0 0) (.slice none 0 0) (.slice none 0 0) (.int .i64 0) (.int .i64 0) (.slice none 0 0) (.int .i64 0) (.slice none 0 0) (.slice none 0 0) ⟨_, c13⟩
    have r14 := set15_at14 _ _ (.int .i64 (sysF D)) (.int .i64 0) (.int .i64 0) (.int .i64 0) (.slice none 0 0) (.slice none 0 0) (.slice none 0 0) (.slice none 0 0) (.slice none 0 0) (.int .i64 0) (.int .i64 0) (.slice none 0 0) (.int .i64 0) (.slice none 0 0) (.slice none 0 0) ⟨_, c14⟩
    refine bodyPost_ret (v := .agg #[.int .i64 (sysF D), .int .i64 0, .int .i64 0, .int .i64 0, .slice none 0 0, .slice none 0 0, .slice none 0 0, .slice none 0 0, .slice none 0 0, .int .i64 0, .int .i64 0, .slice none 0 0, .int .i64 0, .slice none 0 0, .slice none 0 0]) (by simp [results, Tryz.results11, go_sem, r0, r1, r2, r3, r4, r5, r6, r7, r8, r9, r10, r11, r12, r13, r14]) rfl ⟨zeroA, ?_, ?_, HB.out⟩
    · rw [HC.out.1, HC.out.2.1, HC.out.2.2.1, HC.out.2.2.2]; rfl
    · rw [HC.out.2.2.2]; exact OY.zero _ _
  obtain ⟨k, H⟩ := hr.right hf
  have HC := hide (ts_ok hf H.ac)
  have Hf := hide hf
  have hne : (sysF D != 0) = false := by simp [hf]
  have a0 := (M1.get 1 rfl).cell 0 rfl
  have a1 := (M1.get 1 rfl).cell 1 rfl
  have a2 := (M1.get 1 rfl).cell 2 rfl
  have a3 := (M1.get 1 rfl).cell 3 rfl
  have a4 := (M1.get 1 rfl).cell 4 rfl
  have a5 := (M1.get 1 rfl).cell 5 rfl
  have a6 := (M1.get 1 rfl).cell 6 rfl
  have a7 := (M1.get 1 rfl).cell 7 rfl
  have a8 := (M1.get 1 rfl).cell 8 rfl
  have a9 := (M1.get 1 rfl).cell 9 rfl
  have a10 := (M1.get 1 rfl).cell 10 rfl
  have HR := hide hr
  clear hf hr
  go_wp2_with fail
  refine (copiedSystem_O A D _ hz (HR.out.below M1.bel (Nat.le_refl _))).mono ?_
  rintro e w2 ⟨B, rfl, oy, g2⟩
  have z2 := g2.size
  have M2 := M1.below g2
  obtain ⟨u, hu⟩ : ∃ x, x = w2.alloc (.cells #[.slice B.a B.n B.c, .slice B.ta B.tn B.tc, .slice B.da B.dn B.dc, .slice B.wa B.wn B.wc, .slice B.xa B.xn B.xc, .int .i64 D.ac, .int .i64 D.cz, .slice B.la B.ln B.lc, .int .i64 D.dv, .slice B.oa B.on B.oc, .slice B.ga B.gn B.gc, .int .i64 0, .int .i64 0] 90) := ⟨_, rfl⟩
  have al : Below w2.heap.size w2 u := by rw [hu]; exact (Below.refl _ _).alloc (Nat.le_refl _) _
  have zu : u.heap.size = w2.heap.size + 1 := by rw [hu]; simp
  have hcs : Cs w2.heap.size [.slice B.a B.n B.c, .slice B.ta B.tn B.tc, .slice B.da B.dn B.dc, .slice B.wa B.wn B.wc, .slice B.xa B.xn B.xc, .int .i64 D.ac, .int .i64 D.cz, .slice B.la B.ln B.lc, .int .i64 D.dv, .slice B.oa B.on B.oc, .slice B.ga B.gn B.gc, .int .i64 0, .int .i64 0] u := by rw [hu]; exact Cs.alloc w2 _ _
  have Y0 : MC w2.heap.size (InR w1.heap.size w2.heap.size) B D 0 0 u := ⟨⟨CsO.of13 hcs, fun j => by rw [hu]; simp, fun h => by have := h.2; omega, by omega, OYR.loc.below al oy⟩, hcs.cell 11 rfl, hcs.cell 12 rfl⟩
  have M3 := M2.below al
  have Hu := hide hu
  clear M1 M2 g2 oy hu hcs a0 a1 a2 a3 a4 a5 a6 a7 a8 a9 a10
  go_wp2_with fail
  rw [← Hu.out]
  refine (step_calls _ _ B D k _ Y0 (H.move HR.out Y0.y.y.oy.rs) (fun q hq => by have := hq.2; omega)).mono ?_
  rintro e w3 ⟨rfl, ⟨B2, y3⟩, ho⟩
  have z3 := ho.size
  have M4 := (M3.out (B := w1.heap.size) (T := w2.heap.size + 1) (ho.mono (fun q hq => by rcases hq with hq | hq; exact ⟨hq.1, by have := hq.2; omega⟩; subst hq; exact ⟨by omega, by omega⟩)) (by omega) (by simp) (by simp; omega)).fact OY.loc (B := w1.heap.size) (T := w3.heap.size) (y3.y.y.oy.mono (fun q hq => by rcases hq with hq | hq; exact ⟨hq.1, by have := hq.2; omega⟩; exact ⟨by have := hq.1; omega, hq.2⟩))
  obtain ⟨E, hE⟩ : ∃ x, x = tyD D k := ⟨_, rfl⟩
  obtain ⟨K, hK⟩ : ∃ x, x = tyK D k := ⟨_, rfl⟩
  obtain ⟨T, hT⟩ : ∃ x, x = tyT D k := ⟨_, rfl⟩
  obtain ⟨C, hC⟩ : ∃ x, x = tyC D k := ⟨_, rfl⟩
  rw [← hE, ← hT, ← hC] at y3
  rw [← hE] at M4
  rw [← hK]
  have HE := hide (And.intro hE (And.intro hK (And.intro hT hC)))
  have a0 := y3.y.cs.cell 0 rfl
  have a1 := y3.y.cs.cell 1 rfl
  have a2 := y3.y.cs.cell 2 rfl
  have a3 := y3.y.cs.cell 3 rfl
  have a4 := y3.y.cs.cell 4 rfl
  have a5 := y3.y.cs.cell 5 rfl
  have a6 := y3.y.cs.cell 6 rfl
  have a7 := y3.y.cs.cell 7 rfl
  have a8 := y3.y.cs.cell 8 rfl
  have a9 := y3.y.cs.cell 9 rfl
  have a10 := y3.y.cs.cell 10 rfl
  simp only [Nat.zero_add] at a0 a1 a2 a3 a4 a5 a6 a7 a8 a9 a10
  have a11 := y3.m
  have a12 := y3.c
  have c0 := (M4.get 1 rfl).cell 0 rfl
  have f0 := (M4.get 1 rfl).fz 0 (by simp)
  have c1 := (M4.get 1 rfl).cell 1 rfl
  have f1 := (M4.get 1 rfl).fz 1 (by simp)
  have c2 := (M4.get 1 rfl).cell 2 rfl
  have f2 := (M4.get 1 rfl).fz 2 (by simp)
  have c3 := (M4.get 1 rfl).cell 3 rfl
  have f3 := (M4.get 1 rfl).fz 3 (by simp)
  have c4 := (M4.get 1 rfl).cell 4 rfl
  have f4 := (M4.get 1 rfl).fz 4 (by simp)
  have c5 := (M4.get 1 rfl).cell 5 rfl
  have f5 := (M4.get 1 rfl).fz 5 (by simp)
  have c6 := (M4.get 1 rfl).cell 6 rfl
  have f6 := (M4.get 1 rfl).fz 6 (by simp)
  have c7 := (M4.get 1 rfl).cell 7 rfl
  have f7 := (M4.get 1 rfl).fz 7 (by simp)
  have c8 := (M4.get 1 rfl).cell 8 rfl
  have f8 := (M4.get 1 rfl).fz 8 (by simp)
  have c9 := (M4.get 1 rfl).cell 9 rfl
  have f9 := (M4.get 1 rfl).fz 9 (by simp)
  have c10 := (M4.get 1 rfl).cell 10 rfl
  have f10 := (M4.get 1 rfl).fz 10 (by simp)
  have c11 := (M4.get 1 rfl).cell 11 rfl
  have f11 := (M4.get 1 rfl).fz 11 (by simp)
  have c12 := (M4.get 1 rfl).cell 12 rfl
  have f12 := (M4.get 1 rfl).fz 12 (by simp)
  have c13 := (M4.get 1 rfl).cell 13 rfl
  have f13 := (M4.get 1 rfl).fz 13 (by simp)
  have c14 := (M4.get 1 rfl).cell 14 rfl
  have f14 := (M4.get 1 rfl).fz 14 (by simp)
  have HB := hide (below_set15 M4.bel (P := w.heap.size + 1) (by omega) (.int .i64 0) (.int .i64 K) (.int .i64 T) (.int .i64 C) (.slice B2.a B2.n B2.c) (.slice B2.ta B2.tn B2.tc) (.slice B2.da B2.dn B2.dc) (.slice B2.wa B2.wn B2.wc) (.slice B2.xa B2.xn B2.xc) (.int .i64 E.ac) (.int .i64 E.cz) (.slice B2.la B2.ln B2.lc) (.int .i64 E.dv) (.slice B2.oa B2.on B2.oc) (.slice B2.ga B2.gn B2.gc))
  have HO := hide (loc_set15 OY.loc (M4.get 0 rfl) (P := w.heap.size + 1) (fun h => by have := h.1; omega) (.int .i64 0) (.int .i64 K) (.int .i64 T) (.int .i64 C) (.slice B2.a B2.n B2.c) (.slice B2.ta B2.tn B2.tc) (.slice B2.da B2.dn B2.dc) (.slice B2.wa B2.wn B2.wc) (.slice B2.xa B2.xn B2.xc) (.int .i64 E.ac) (.int .i64 E.cz) (.slice B2.la B2.ln B2.lc) (.int .i64 E.dv) (.slice B2.oa B2.on B2.oc) (.slice B2.ga B2.gn B2.gc))
  clear hE hK hT hC M3 M4 y3 ho Y0 al Hu
  go_wp2
  have r0 := set15_at0 _ _ (.int .i64 0) (.int .i64 K) (.int .i64 T) (.int .i64 C) (.slice B2.a B2.n B2.c) (.slice B2.ta B2.tn B2.tc) (.slice B2.da B2.dn B2.dc) (.slice B2.wa B2.wn B2.wc) (.slice B2.xa B2.xn B2.xc) (.int .i64 E.ac) (.int .i64 E.cz) (.slice B2.la B2.ln B2.lc) (.int .i64 E.dv) (.slice B2.oa B2.on B2.oc) (.slice B2.ga B2.gn B2.gc) ⟨_, c0⟩
  have r1 := set15_at1 _ _ (.int .i64 0) (.int .i64 K) (.int .i64 T) (.int .i64 C) (.slice B2.a B2.n B2.c) (.slice B2.ta B2.tn B2.tc) (.slice B2.da B2.dn B2.dc) (.slice B2.wa B2.wn B2.wc) (.slice B2.xa B2.xn B2.xc) (.int .i64 E.ac) (.int .i64 E.cz) (.slice B2.la B2.ln B2.lc) (.int .i64 E.dv) (.slice B2.oa B2.on B2.oc) (.slice B2.ga B2.gn B2.gc) ⟨_, c1⟩
  have r2 := set15_at2 _ _ (.int .i64 0) (.int .i64 K) (.int .i64 T) (.int .i64 C) (.slice B2.a B2.n B2.c) (.slice B2.ta B2.tn B2.tc) (.slice B2.da B2.dn B2.dc) (.slice B2.wa B2.wn B2.wc) (.slice B2.xa B2.xn B2.xc) (.int .i64 E.ac) (.int .i64 E.cz) (.slice B2.la B2.ln B2.lc) (.int .i64 E.dv) (.slice B2.oa B2.on B2.oc) (.slice B2.ga B2.gn B2.gc) ⟨_, c2⟩
  have r3 := set15_at3 _ _ (.int .i64 0) (.int .i64 K) (.int .i64 T) (.int .i64 C) (.slice B2.a B2.n B2.c) (.slice B2.ta B2.tn B2.tc) (.slice B2.da B2.dn B2.dc) (.slice B2.wa B2.wn B2.wc) (.slice B2.xa B2.xn B2.xc) (.int .i64 E.ac) (.int .i64 E.cz) (.slice B2.la B2.ln B2.lc) (.int .i64 E.dv) (.slice B2.oa B2.on B2.oc) (.slice B2.ga B2.gn B2.gc) ⟨_, c3⟩
  have r4 := set15_at4 _ _ (.int .i64 0) (.int .i64 K) (.int .i64 T) (.int .i64 C) (.slice B2.a B2.n B2.c) (.slice B2.ta B2.tn B2.tc) (.slice B2.da B2.dn B2.dc) (.slice B2.wa B2.wn B2.wc) (.slice B2.xa B2.xn B2.xc) (.int .i64 E.ac) (.int .i64 E.cz) (.slice B2.la B2.ln B2.lc) (.int .i64 E.dv) (.slice B2.oa B2.on B2.oc) (.slice B2.ga B2.gn B2.gc) ⟨_, c4⟩
  have r5 := set15_at5 _ _ (.int .i64 0) (.int .i64 K) (.int .i64 T) (.int .i64 C) (.slice B2.a B2.n B2.c) (.slice B2.ta B2.tn B2.tc) (.slice B2.da B2.dn B2.dc) (.slice B2.wa B2.wn B2.wc) (.slice B2.xa B2.xn B2.xc) (.int .i64 E.ac) (.int .i64 E.cz) (.slice B2.la B2.ln B2.lc) (.int .i64 E.dv) (.slice B2.oa B2.on B2.oc) (.slice B2.ga B2.gn B2.gc) ⟨_, c5⟩
  have r6 := set15_at6 _ _ (.int .i64 0) (.int .i64 K) (.int .i64 T) (.int .i64 C) (.slice B2.a B2.n B2.c) (.slice B2.ta B2.tn B2.tc) (.slice B2.da B2.dn B2.dc) (.slice B2.wa B2.wn B2.wc) (.slice B2.xa B2.xn B2.xc) (.int .i64 E.ac) (.int .i64 E.cz) (.slice B2.la B2.ln B2.lc) (.int .i64 E.dv) (.slice B2.oa B2.on B2.oc) (.slice B2.ga B2.gn B2.gc) ⟨_, c6⟩
  have r7 := set15_at7 _ _ (.int .i64 0) (.int .i64 K) (.int .i64 T) (.int .i64 C) (.slice B2.a B2.n B2.c) (.slice B2.ta B2.tn B2.tc) (.slice B2.da B2.dn B2.dc) (.slice B2.wa B2.wn B2.wc) (.slice B2.xa B2.xn B2.xc) (.int .i64 E.ac) (.int .i64 E.cz) (.slice B2.la B2.ln B2.lc) (.int .i64 E.dv) (.slice B2.oa B2.on B2.oc) (.slice B2.ga B2.gn B2.gc) ⟨_, c7⟩
  have r8 := set15_at8 _ _ (.int .i64 0) (.int .i64 K) (.int .i64 T) (.int .i64 C) (.slice B2.a B2.n B2.c) (.slice B2.ta B2.tn B2.tc) (.slice B2.da B2.dn B2.dc) (.slice B2.wa B2.wn B2.wc) (.slice B2.xa B2.xn B2.xc) (.int .i64 E.ac) (.int .i64 E.cz) (.slice B2.la B2.ln B2.lc) (.int .i64 E.dv) (.slice B2.oa B2.on B2.oc) (.slice B2.ga B2.gn B2.gc) ⟨_, c8⟩
  have r9 := set15_at9 _ _ (.int .i64 0) (.int .i64 K) (.int .i64 T) (.int .i64 C) (.slice B2.a B2.n B2.c) (.slice B2.ta B2.tn B2.tc) (.slice B2.da B2.dn B2.dc) (.slice B2.wa B2.wn B2.wc) (.slice B2.xa B2.xn B2.xc) (.int .i64 E.ac) (.int .i64 E.cz) (.slice B2.la B2.ln B2.lc) (.int .i64 E.dv) (.slice B2.oa B2.on B2.oc) (.slice B2.ga B2.gn B2.gc) ⟨_, c9⟩
  have r10 := set15_at10 _ _ (.int .i64 0) (.int .i64 K) (.int .i64 T) (.int .i64 C) (.slice B2.a B2.n B2.c) (.slice B2.ta B2.tn B2.tc) (.slice B2.da B2.dn B2.dc) (.slice B2.wa B2.wn B2.wc) (.slice B2.xa B2.xn B2.xc) (.int .i64 E.ac) (.int .i64 E.cz) (.slice B2.la B2.ln B2.lc) (.int .i64 E.dv) (.slice B2.oa B2.on B2.oc) (.slice B2.ga B2.gn B2.gc) ⟨_, c10⟩
  have r11 := set15_at11 _ _ (.int .i64 0) (.int .i64 K) (.int .i64 T) (.int .i64 C) (.slice B2.a B2.n B2.c) (.slice B2.ta B2.tn B2.tc) (.slice B2.da B2.dn B2.dc) (.slice B2.wa B2.wn B2.wc) (.slice B2.xa B2.xn B2.xc) (.int .i64 E.ac) (.int .i64 E.cz) (.slice B2.la B2.ln B2.lc) (.int .i64 E.dv) (.slice B2.oa B2.on B2.oc) (.slice B2.ga B2.gn B2.gc) ⟨_, c11⟩
  have r12 := set15_at12 _ _ (.int .i64 0) (.int .i64 K) (.int .i64 T) (.int .i64 C) (.slice B2.a B2.n B2.c) (.slice B2.ta B2.tn B2.tc) (.slice B2.da B2.dn B2.dc) (.slice B2.wa B2.wn B2.wc) (.slice B2.xa B2.xn B2.xc) (.int .i64 E.ac) (.int .i64 E.cz) (.slice B2.la B2.ln B2.lc) (.int .i64 E.dv) (.slice B2.oa B2.on B2.oc) (.slice B2.ga B2.gn B2.gc) ⟨_, c12⟩
  have r13 := set15_at13 _ _ (.int .i64 0) (.int .i64 K) (.int .i64 T) (.int .i64 C) (.slice B2.a B2.n B2.c) (.slice B2.ta B2.tn B2.tc) (.slice B2.da B2.dn B2.dc) (.slice B2.wa B2.wn B2.wc) (.slice B2.xa B2.xn B2.xc) (.int .i64 E.ac) (.int .i64 E.cz) (.slice B2.la B2.ln B2.lc) (.int .i64 E.dv) (.slice B2.oa B2.on B2.oc) (.slice B2.ga B2.gn B2.gc) ⟨_, c13⟩
  have r14 := set15_at14 _ _ (.int .i64 0) (.int .i64 K) (.int .i64 T) (.int .i64 C) (.slice B2.a B2.n B2.c) (.slice B2.ta B2.tn B2.tc) (.slice B2.da B2.dn B2.dc) (.slice B2.wa B2.wn B2.wc) (.slice B2.xa B2.xn B2.xc) (.int .i64 E.ac) (.int .i64 E.cz) (.slice B2.la B2.ln B2.lc) (.int .i64 E.dv) (.slice B2.oa B2.on B2.oc) (.slice B2.ga B2.gn B2.gc) ⟨_, c14⟩
  refine bodyPost_ret (v := .agg #[.int .i64 0, .int .i64 K, .int .i64 T, .int .i64 C, .slice B2.a B2.n B2.c, .slice B2.ta B2.tn B2.tc, .slice B2.da B2.dn B2.dc, .slice B2.wa B2.wn B2.wc, .slice B2.xa B2.xn B2.xc, .int .i64 E.ac, .int .i64 E.cz, .slice B2.la B2.ln B2.lc, .int .i64 E.dv, .slice B2.oa B2.on B2.oc, .slice B2.ga B2.gn B2.gc]) (by simp [results, Tryz.results11, go_sem, r0, r1, r2, r3, r4, r5, r6, r7, r8, r9, r10, r11, r12, r13, r14]) rfl ⟨B2, ?_, ?_, HB.out⟩
  · rw [Hf.out, HC.out.1, HC.out.2.1, HC.out.2.2.1, HC.out.2.2.2, ← HE.out.1, ← HE.out.2.1, ← HE.out.2.2.1, ← HE.out.2.2.2]
  · rw [HC.out.2.2.2, ← HE.out.1]; exact HO.out.mono (fun q hq => ⟨by have := hq.1; omega, by have := hq.2; simp only [size_set15]; omega⟩)

end Go.Proofs.YtcojgmecocjnkaaGreat
