import Derived.Test.YtcojgmecocjnkabGreatG24
import Derived.Test.YtcojgmecocjnkabGreatG12
import Derived.Test.YtcojgmecocjnkabGreatG34
import Derived.Test.YtcojgmecocjnkabGreatG13
import Derived.WalkKit
import Derived.ProofKit
import Derived.OpenShut
import Derived.ShutString
import Derived.ChangeOld
import Derived.Below
import Derived.WalkSpells
import Derived.Deep.QuietTactic
import Derived.BigQuiet
import Derived.Deep.RegionWith
import Derived.Deep.WholeRow
import Derived.Deep.DeepCutAuto
import Derived.Deep.RegionHeld2
import Derived.Deep.AppendLies
import Derived.Deep.RegionLaw
namespace Go.Proofs.YtcojgmecocjnkabGreat
open Go.ChangeShapes Go.WideShapes Go.ChangeAt Go.RowKit

theorem own_sln {w : World} {B n : Nat} {e : TypeId} {a : Option Addr} {c : Nat} {ls : List (Int × Int × Int)} (h : w.ownsRow B e 3 (.slice a n c) n (vs3 ls)) (hl : ls.length = n) : Sln w a n ls := by
  refine ⟨hl, fun hp => ?_⟩
  obtain ⟨g, cap, hv, _, hlt⟩ := h.form hp
  simp only [Value.slice.injEq] at hv
  obtain ⟨rfl, _, rfl⟩ := hv
  exact ⟨g, 0, rfl, hlt, fun i hi => by rw [Nat.zero_add]; exact own_cell h hi⟩

theorem three_newL {W : World} {N : Nat} {x : Int × Int × Int} (h0 : W.cell? ⟨N, 0, none⟩ = some (.int .i64 x.1)) (h1 : W.cell? ⟨N, 1, none⟩ = some (.int .i64 x.2.1)) (h2 : W.cell? ⟨N, 2, none⟩ = some (.int .i64 x.2.2)) : ∀ j u, (vs3 [x])[j]? = some u → W.cell? ((Addr.mk N 0 none).add j) = some u := by
  intro j u hj
  match j, hj with
  | 0, hj => simp [fl3] at hj; subst hj; simpa [Addr.add] using h0
  | 1, hj => simp [fl3] at hj; subst hj; simpa [Addr.add] using h1
  | 2, hj => simp [fl3] at hj; subst hj; simpa [Addr.add] using h2
  | j + 3, hj => simp [fl3] at hj

theorem vs3_append (xs ys : List (Int × Int × Int)) : vs3 (xs ++ ys) = vs3 xs ++ vs3 ys := by rw [vs3, fl3_append, List.map_append]

/-- the line at the place that their number leaves of p is gone. -/
def evL (ls : List (Int × Int × Int)) (p : Int) : List (Int × Int × Int) := if ls.length = 0 then ls else ls.eraseIdx (p % (ls.length : Int)).toNat

theorem evL_nil {ls : List (Int × Int × Int)} {p : Int} (h : ls.length = 0) : evL ls p = ls := if_pos h

theorem evL_at {ls : List (Int × Int × Int)} {p : Int} {i : Nat} (h : 0 < ls.length) (hi : p % (ls.length : Int) = (i : Int)) : evL ls p = ls.eraseIdx i := by
  unfold evL
  rw [if_neg (by omega), hi]
  rfl

theorem length_evL (ls : List (Int × Int × Int)) (p : Int) : (evL ls p).length ≤ ls.length := by
  unfold evL
  split
  · exact Nat.le_refl _
  · exact List.length_eraseIdx_le _ _

theorem rem_nat (p : Int) (n : Nat) (h : 0 < n) : ∃ i : Nat, p % (n : Int) = (i : Int) ∧ i < n := by
  have h1 := Int.emod_nonneg p (b := (n : Int)) (by omega)
  have h2 := Int.emod_lt_of_pos p (b := (n : Int)) (by omega)
  exact ⟨(p % (n : Int)).toNat, by omega, by omega⟩

/-- a line is of d and t, where -1 is of any. -/
def gone (d t : Int) (x : Int × Int × Int) : Bool := (decide (d = -1) || decide (x.1 = d)) && (decide (t = -1) || decide (x.2.1 = t))

def flL (ls : List (Int × Int × Int)) (d t : Int) : List (Int × Int × Int) := ls.filter (fun x => !gone d t x)

theorem take_snoc3 (ls : List (Int × Int × Int)) (k : Nat) (h : k < ls.length) : ls.take (k + 1) = ls.take k ++ [g3 ls k] := by
  rw [List.take_succ_eq_append_getElem h]
  simp [g3, h]

theorem flL_keep {ls : List (Int × Int × Int)} {d t : Int} {k : Nat} (h : k < ls.length) (hg : gone d t (g3 ls k) = false) : flL (ls.take (k + 1)) d t = flL (ls.take k) d t ++ [g3 ls k] := by
  rw [take_snoc3 ls k h]
  simp [flL, hg]

theorem flL_drop {ls : List (Int × Int × Int)} {d t : Int} {k : Nat} (h : k < ls.length) (hg : gone d t (g3 ls k) = true) : flL (ls.take (k + 1)) d t = flL (ls.take k) d t := by
  rw [take_snoc3 ls k h]
  simp [flL, hg]

theorem length_flL (ls : List (Int × Int × Int)) (d t : Int) (k : Nat) : (flL (ls.take k) d t).length ≤ k := by
  have h1 := List.length_filter_le (fun x => !gone d t x) (ls.take k)
  have h2 := List.length_take_le k ls
  unfold flL
  omega

theorem length_flL' (ls : List (Int × Int × Int)) (d t : Int) : (flL ls d t).length ≤ ls.length := List.length_filter_le _ _

/-- without the line of d and t. -/
def dropL (ls : List (Int × Int × Int)) (d t : Int) : List (Int × Int × Int) := if atK ls d t < 0 then ls else ls.eraseIdx (atK ls d t).toNat

/-- a line is put behind the others, one is gone where there is no room. -/
def fiL (s : Int) (ls : List (Int × Int × Int)) (x : Int × Int × Int) (p : Int) : List (Int × Int × Int) :=
  if s = 0 then [] else (if s ≤ ((dropL ls x.1 x.2.1).length : Int) then evL (dropL ls x.1 x.2.1) p else dropL ls x.1 x.2.1) ++ [x]

def fiC (s : Int) (ls : List (Int × Int × Int)) (x : Int × Int × Int) (p : Int) : Int :=
  if faultC s ls = 0 then (if okL x = false ∨ p < 0 then 3 else 0) else faultC s ls

theorem mem_g3 {ls : List (Int × Int × Int)} {y : Int × Int × Int} (h : y ∈ ls) : ∃ j, j < ls.length ∧ g3 ls j = y := by
  obtain ⟨j, hj, rfl⟩ := List.getElem_of_mem h
  exact ⟨j, hj, by simp [g3, hj]⟩

theorem gone_hit {d t : Int} (hd : 0 ≤ d) (ht : 0 ≤ t) (x : Int × Int × Int) : gone d t x = hitL d t x := by
  unfold gone hitL
  have h1 : decide (d = -1) = false := by simp; omega
  have h2 : decide (t = -1) = false := by simp; omega
  rw [h1, h2]
  simp

theorem hitL_eq {d t : Int} {x : Int × Int × Int} (h : hitL d t x = true) : x.1 = d ∧ x.2.1 = t := by simpa [hitL] using h

theorem flL_dropL {ls : List (Int × Int × Int)} {d t : Int} (hall : ∀ j, j < ls.length → atK ls (g3 ls j).1 (g3 ls j).2.1 = (j : Int)) (hd : 0 ≤ d) (ht : 0 ≤ t) : flL ls d t = dropL ls d t := by
  rcases hit_or ls d t ls.length with h | ⟨i, h1, h2, h3⟩
  · unfold dropL
    rw [atK_none h, if_pos (by omega)]
    unfold flL
    rw [List.filter_eq_self]
    intro y hy
    obtain ⟨j, hj, rfl⟩ := mem_g3 hy
    rw [gone_hit hd ht, h j hj]
    rfl
  · have hi : atK ls d t = (i : Int) := atK_hit h1 h2 h3
    have huniq : ∀ j, j < ls.length → hitL d t (g3 ls j) = true → j = i := fun j hj hh => by
      have := hall j hj
      rw [(hitL_eq hh).1, (hitL_eq hh).2, hi] at this
      omega
    unfold dropL
    rw [hi, if_neg (by omega), Int.toNat_natCast, List.eraseIdx_eq_take_drop_succ]
    have hsplit : ls = ls.take i ++ (g3 ls i :: ls.drop (i + 1)) := by
      have : g3 ls i = ls[i] := by simp [g3, h1]
      rw [this, List.getElem_cons_drop, List.take_append_drop]
    have hno : ∀ y ∈ ls.take i, (!gone d t y) = true := fun y hy => by
      obtain ⟨j, hj, rfl⟩ := mem_g3 hy
      rw [List.length_take] at hj
      rw [g3_take ls (by omega), gone_hit hd ht, h2 j (by omega)]
      rfl
    have hno2 : ∀ y ∈ ls.drop (i + 1), (!gone d t y) = true := fun y hy => by
      obtain ⟨j, hj, rfl⟩ := mem_g3 hy
      rw [List.length_drop] at hj
      have e : g3 (ls.drop (i + 1)) j = g3 ls (i + 1 + j) := by simp [g3]
      rw [e, gone_hit hd ht]
      cases hh : hitL d t (g3 ls (i + 1 + j)) with
      | false => rfl
      | true => have := huniq _ (by omega) hh; omega
    have hg : (!gone d t (g3 ls i)) = false := by rw [gone_hit hd ht, h3]; rfl
    show ls.filter _ = _
    conv => lhs; rw [hsplit]
    rw [List.filter_append, List.filter_cons, if_neg (by rw [hg]; simp), List.filter_eq_self.2 hno, List.filter_eq_self.2 hno2]

theorem length_dropL (ls : List (Int × Int × Int)) (d t : Int) : (dropL ls d t).length ≤ ls.length := by
  unfold dropL
  split
  · exact Nat.le_refl _
  · exact List.length_eraseIdx_le _ _

theorem dropL_no {ls : List (Int × Int × Int)} {d t : Int} (h : atK ls d t < 0) : dropL ls d t = ls := if_pos h

theorem dropL_at {ls : List (Int × Int × Int)} {d t : Int} {i : Nat} (h : atK ls d t = (i : Int)) : dropL ls d t = ls.eraseIdx i := by
  unfold dropL
  rw [h, if_neg (by omega)]
  rfl

theorem fiL_zero {s : Int} {ls : List (Int × Int × Int)} {x : Int × Int × Int} {p : Int} (h : s = 0) : fiL s ls x p = [] := if_pos h

theorem fiL_full {s : Int} {ls ks : List (Int × Int × Int)} {x : Int × Int × Int} {p : Int} (h : s ≠ 0) (hk : dropL ls x.1 x.2.1 = ks) (hf : s ≤ (ks.length : Int)) : fiL s ls x p = evL ks p ++ [x] := by
  unfold fiL
  rw [if_neg h, hk, if_pos hf]

theorem fiL_room {s : Int} {ls ks : List (Int × Int × Int)} {x : Int × Int × Int} {p : Int} (h : s ≠ 0) (hk : dropL ls x.1 x.2.1 = ks) (hf : ¬ s ≤ (ks.length : Int)) : fiL s ls x p = ks ++ [x] := by
  unfold fiL
  rw [if_neg h, hk, if_neg hf]

theorem fiC_fault {s : Int} {ls : List (Int × Int × Int)} {x : Int × Int × Int} {p : Int} (h : faultC s ls ≠ 0) : fiC s ls x p = faultC s ls := if_neg h

theorem fiC_bad {s : Int} {ls : List (Int × Int × Int)} {x : Int × Int × Int} {p : Int} (h : faultC s ls = 0) (h2 : okL x = false ∨ p < 0) : fiC s ls x p = 3 := by
  unfold fiC
  rw [if_pos h, if_pos h2]

theorem fiC_ok {s : Int} {ls : List (Int × Int × Int)} {x : Int × Int × Int} {p : Int} (h : faultC s ls = 0) (h2 : okL x = true) (h3 : 0 ≤ p) : fiC s ls x p = 0 := by
  unfold fiC
  rw [if_pos h, if_neg (by rw [h2]; simp; omega)]

theorem okL_nonneg {x : Int × Int × Int} (h : okL x = true) : 0 ≤ x.1 ∧ 0 ≤ x.2.1 := by
  simp [okL] at h
  exact ⟨h.1.1.1, h.1.2.1⟩

theorem length_fiL {s : Int} {ls : List (Int × Int × Int)} (x : Int × Int × Int) (p : Int) (hn : ls.length ≤ 6) : (fiL s ls x p).length ≤ 7 := by
  have h1 := length_dropL ls x.1 x.2.1
  have h2 := length_evL (dropL ls x.1 x.2.1) p
  unfold fiL
  split
  · simp
  · split <;> simp <;> omega

/-- the cache of a system that lies in block P (its size in cell 6, its lines in cell 7), as it is turned from w0 on: the lines' row lies in blocks of S, or in new ones. -/
structure CW (w0 : World) (S : Nat → Prop) (P : Nat) (s : Int) (v : Value) (n : Nat) (ls : List (Int × Int × Int)) (w : World) : Prop where
  lt : P < w0.heap.size
  c6 : w0.cell? ⟨P, 6, none⟩ = some (.int .i64 s)
  kp : ∀ q, q ≠ 7 → w.cell? ⟨P, q, none⟩ = w0.cell? ⟨P, q, none⟩
  c1 : w.cell? ⟨P, 7, none⟩ = some v
  fz : ∀ q, w.frozen? ⟨P, q, none⟩ = false
  own : w.ownsRow 0 118 3 v n (vs3 ls)
  len : ls.length = n
  hS : ∀ g, v.ownBlock = some g → (S g ∨ w0.heap.size ≤ g) ∧ g < w.heap.size
  nS : ¬ S P
  out : OutS (fun k => S k ∨ k = P) w0 w

theorem CW.ltw {w0 w : World} {S : Nat → Prop} {P : Nat} {s : Int} {v : Value} {n : Nat} {ls : List (Int × Int × Int)} (h : CW w0 S P s v n ls w) : P < w.heap.size := Nat.lt_of_lt_of_le h.lt h.out.size

theorem CW.c0 {w0 w : World} {S : Nat → Prop} {P : Nat} {s : Int} {v : Value} {n : Nat} {ls : List (Int × Int × Int)} (h : CW w0 S P s v n ls w) : w.cell? ⟨P, 6, none⟩ = some (.int .i64 s) := (h.kp 6 (by decide)).trans h.c6

theorem CW.ne {w0 w : World} {S : Nat → Prop} {P : Nat} {s : Int} {v : Value} {n : Nat} {ls : List (Int × Int × Int)} (h : CW w0 S P s v n ls w) : v.ownBlock ≠ some P := fun e => by
  rcases (h.hS P e).1 with h1 | h1
  · exact h.nS h1
  · have := h.lt; omega

theorem own_belowZ {w w' : World} {n : Nat} {e : TypeId} {v : Value} {xs : List Value} (h : w.ownsRow 0 e 3 v n xs) (hl : ∀ g, v.ownBlock = some g → g < w.heap.size) (hb : Below w.heap.size w w') : w'.ownsRow 0 e 3 v n xs :=
  owns_loc (S := fun g => g < w.heap.size) hl (fun k hk _ => hb.block k hk) h

theorem CW.below {w0 w w' : World} {S : Nat → Prop} {P : Nat} {s : Int} {v : Value} {n : Nat} {ls : List (Int × Int × Int)} (h : CW w0 S P s v n ls w) (hb : Below w.heap.size w w') : CW w0 S P s v n ls w' :=
  ⟨h.lt, h.c6, fun q hq => (hb.cell (p := ⟨P, q, none⟩) h.ltw).trans (h.kp q hq), (hb.cell (p := ⟨P, 7, none⟩) h.ltw).trans h.c1, fun q => (hb.frozen (p := ⟨P, q, none⟩) h.ltw).trans (h.fz q), own_belowZ h.own (fun g e => (h.hS g e).2) hb, h.len, fun g e => ⟨(h.hS g e).1, Nat.lt_of_lt_of_le (h.hS g e).2 hb.size⟩, h.nS, h.out.trans (OutS.of_below hb)⟩

/-- the field of lines is stored anew, behind a world in which all but new blocks and the old row's is as it was. -/
theorem CW.put {w0 w u : World} {S : Nat → Prop} {P : Nat} {s : Int} {v v' : Value} {n m : Nat} {ls rs : List (Int × Int × Int)} (h : CW w0 S P s v n ls w) (hu : OutS (fun k => v.ownBlock = some k) w u)
    (ho : u.ownsRow 0 118 3 v' m (vs3 rs)) (hl : rs.length = m) (hn : ∀ g, v'.ownBlock = some g → (v.ownBlock = some g ∨ w.heap.size ≤ g) ∧ g < u.heap.size) :
    u.cell? ⟨P, 7, none⟩ = some v ∧ u.frozen? ⟨P, 7, none⟩ = false ∧ CW w0 S P s v' m rs (u.setCell ⟨P, 7, none⟩ v') ∧ OutS (fun k => v.ownBlock = some k ∨ k = P) w (u.setCell ⟨P, 7, none⟩ v') := by
  have pb : u.heap[P]? = w.heap[P]? := hu.block P h.ltw (fun e => h.ne e)
  have k1 := (World.cell?_of_block (a := ⟨P, 7, none⟩) pb).trans h.c1
  have kf : ∀ q, u.frozen? ⟨P, q, none⟩ = false := fun q => (World.frozen?_of_block (a := ⟨P, q, none⟩) pb).trans (h.fz q)
  have hz := h.out.size
  have hne : v'.ownBlock ≠ some P := fun e => by
    rcases (hn P e).1 with h1 | h1
    · exact h.ne h1
    · have := h.ltw; omega
  refine ⟨k1, kf 7, ⟨h.lt, h.c6, fun q hq => ?_, World.cell?_setCell_same _ _ _ k1, fun q => by simpa using kf q, ownsRow_setCell_other ho (by exact hne) _, hl, fun g e => ⟨?_, by simpa using (hn g e).2⟩, h.nS, ?_⟩, ?_⟩
  · rw [World.cell?_setCell_other _ _ _ _ (fun e => by injection e with _ e2; exact hq e2.symm)]
    exact (World.cell?_of_block (a := ⟨P, q, none⟩) pb).trans (h.kp q hq)
  · rcases (hn g e).1 with h1 | h1
    · exact (h.hS g h1).1
    · exact .inr (by omega)
  · refine OutS.setCell ?_ (by exact .inr rfl) _
    refine ⟨hu.os.trans h.out.os, hu.tape.trans h.out.tape, hu.output.trans h.out.output, Nat.le_trans h.out.size hu.size, fun k hk hn' => ?_⟩
    rw [hu.block k (by omega) (fun e => ?_), h.out.block k hk hn']
    rcases (h.hS k e).1 with h1 | h1
    · exact hn' (.inl h1)
    · omega
  · exact OutS.setCell (hu.mono (fun k e => .inl e)) (by exact .inr rfl) _

set_option maxRecDepth 100000 in
set_option maxHeartbeats 2000000 in
theorem l4Drop_W (w0 : World) (S : Nat → Prop) (P : Nat) (s : Int) (a : Option Addr) (n c i : Nat) (ls : List (Int × Int × Int)) (w : World) (hn : n ≤ 1048576) (hin : i < n) (hv : CW w0 S P s (.slice a n c) n ls w) :
    Calls Tryz.prog 124 #[.pointer (some ⟨P, 6, none⟩), .int .i64 i] w fun e w' => e = .returned (.tuple #[]) ∧ ∃ ra rc, CW w0 S P s (.slice ra (n - 1) rc) (n - 1) (ls.eraseIdx i) w' ∧ OutS (fun k => k = P) w w' := by
  obtain ⟨i0, hi0, hz0, hz1, hz2⟩ := info_parts infoLine
  have hlen := hv.len
  have hP := hv.ltw
  have c1 := hv.c1
  obtain ⟨g, c', hgv, _, hgw⟩ := hv.own.form (by omega)
  simp only [Value.slice.injEq] at hgv
  obtain ⟨rfl, _, rfl⟩ := hgv
  have hrm := own_room hv.own
  obtain ⟨hnc, hcm, _, _⟩ := hrm
  unfold maxLen at hcm
  have hvl : (fl3 ls).length = n * 3 := by rw [length_fl3, hlen]
  have HV := hide hv
  have O0 := own_lit0 w 118 (B := w.heap.size) (Nat.le_refl _)
  have N0 : Hid (∀ j u, (vs3 (ls.take i))[j]? = some u → (w.alloc (.cells #[] 118)).cell? ((Addr.mk g 0 none).add j) = some u) := by
    refine news_sln (n := i) (by simp; omega) (fun j hj => ?_)
    rw [Nat.zero_add, ← fl3_take, (((Below.refl w.heap.size w).alloc (Nat.le_refl _) (.cells #[] 118)).cell (p := ⟨g, j, none⟩) hgw).trans (own_cell hv.own (j := j) (by omega))]
    simp [gt, hj]
  have HL : Hid ((vs3 (ls.take i)).length = i * 3) := by show _ = _; rw [length_vs3, List.length_take, hlen, Nat.min_eq_left (by omega)]
  have HM1 : Hid (0 + i ≤ maxLen) := by show _ ≤ _; unfold maxLen; omega
  have HM2 : Hid ((0 + i) * 24 ≤ 140737488355328) := by show _ ≤ _; omega
  have HBS : Hid (w.heap.size ≤ (w.alloc (.cells #[] 118)).heap.size) := by show _ ≤ _; simp
  have HO := hide O0
  have b0 : (0 : Int) ≤ (i : Int) := by omega
  have b1 : (i : Int) ≤ (c : Int) := by omega
  have b2 : (0 : Int) ≤ (i : Int) + 1 := by omega
  have b3 : (i : Int) + 1 ≤ (n : Int) := by omega
  have b4 : i ≤ c := by omega
  clear O0 hv
  go_enter Tryz.func124, Tryz.ntmps124
  go_wp2_with (first
    | (at_builtin; refine wpList_append_own _ rfl _ _ 48 rfl w.heap.size 118 i0 (.agg #[.int .i64 0, .int .i64 0, .int .i64 0]) 3 24 Tryz.underlying48 hi0 hz0 hz1 hz2 rfl (by decide) _ 0 [] rfl HO.out ⟨g, 0, none⟩ i c (vs3 (ls.take i)) rfl HL.out N0.out ints_one HM1.out HM2.out HBS.out ?_)
    | go_in)
  intro v1 w1 hown1 hgrow1 _
  have G1 : Below w.heap.size w w1 := ((Below.refl _ _).alloc (Nat.le_refl _) _).grown hgrow1 (by simp) (fun k hk => by simp [Value.ownBlock] at hk; omega)
  have z1 := G1.size
  have c1' := (G1.cell (p := ⟨P, 7, none⟩) hP).trans c1
  have own1 : w1.ownsRow w.heap.size 118 3 v1 i (vs3 (ls.take i)) := by simpa using hown1
  obtain ⟨A, hA, hsrc⟩ : ∃ A : Addr, (if c = i + 1 then some (⟨g, 0, none⟩ : Addr) else some ⟨g, (i + 1) * 3, none⟩) = some A ∧ Hid (∀ t u, (vs3 (ls.drop (i + 1)))[t]? = some u → w1.cell? (A.add t) = some u) := by
    have hdl : (vs3 (ls.drop (i + 1))).length = (n - (i + 1)) * 3 := by rw [length_vs3, List.length_drop, hlen]
    by_cases h : c = i + 1
    · refine ⟨⟨g, 0, none⟩, by simp [h], fun t u hu => ?_⟩
      have := (List.getElem?_eq_some_iff.1 hu).1
      omega
    · refine ⟨⟨g, (i + 1) * 3, none⟩, by simp [h], fun t u hu => ?_⟩
      have ht := (List.getElem?_eq_some_iff.1 hu).1
      have hadd : (Addr.mk g ((i + 1) * 3) none).add t = ⟨g, (i + 1) * 3 + t, none⟩ := by cases t <;> simp [Addr.add]
      rw [hadd, (G1.cell (p := ⟨g, (i + 1) * 3 + t, none⟩) hgw).trans (own_cell HV.out.own (j := (i + 1) * 3 + t) (by omega)), ← hu, vs3, ← fl3_drop]
      simp [gt, show (i + 1) * 3 + t < (fl3 ls).length by omega]
  have HL2 : Hid ((vs3 (ls.drop (i + 1))).length = (n - (i + 1)) * 3) := by show _ = _; rw [length_vs3, List.length_drop, hlen]
  have HM3 : Hid (i + (n - (i + 1)) ≤ maxLen) := by show _ ≤ _; unfold maxLen; omega
  have HM4 : Hid ((i + (n - (i + 1))) * 24 ≤ 140737488355328) := by show _ ≤ _; omega
  have HO1 := hide own1
  have HG1 := hide G1
  clear hown1 hgrow1 own1 G1 HO N0 c1
  go_wp2_with (first
    | (at_builtin; refine wpList_append_own _ rfl _ _ 48 rfl w.heap.size 118 i0 (.agg #[.int .i64 0, .int .i64 0, .int .i64 0]) 3 24 Tryz.underlying48 hi0 hz0 hz1 hz2 rfl (by decide) v1 i (vs3 (ls.take i)) rfl HO1.out A (n - (i + 1)) (c - (i + 1)) (vs3 (ls.drop (i + 1))) rfl HL2.out hsrc.out ints_one HM3.out HM4.out z1 ?_)
    | go_in)
  intro v2 w2 hown2 hgrow2 _
  have G2 : Below w.heap.size w w2 := HG1.out.grown hgrow2 z1 (fun k hk => (HO1.out.lt k hk).1)
  have own2 : w2.ownsRow w.heap.size 118 3 v2 (n - 1) (vs3 (ls.eraseIdx i)) := by
    rw [List.eraseIdx_eq_take_drop_succ, vs3_append, show n - 1 = i + (n - (i + 1)) by omega]
    exact hown2
  have hel : (ls.eraseIdx i).length = n - 1 := by rw [List.length_eraseIdx_of_lt (by omega), hlen]
  obtain ⟨ra, rc, rfl, _⟩ := own_ol (by omega) hel own2
  obtain ⟨y1, y2, y3, y4⟩ := HV.out.put (OutS.of_below G2) (owns_base own2) hel (fun g e => ⟨.inr (own2.lt g e).1, (own2.lt g e).2⟩)
  have HR := hide y3
  have HU := hide (OutS.setCell (S := fun k => k = P) (OutS.of_below G2) (p := ⟨P, 7, none⟩) (by rfl) (.slice ra (n - 1) rc))
  clear hown2 hgrow2 own2 G2 HO1 HG1 c1' y3 y4
  go_wp2
  exact bodyPost_end (v := .tuple #[]) (by simp [results, Tryz.results124, go_sem]) rfl ⟨rfl, _, _, HR.out, HU.out⟩

set_option maxRecDepth 100000 in
theorem l4Evict_W (w0 : World) (S : Nat → Prop) (P : Nat) (s : Int) (a : Option Addr) (n c : Nat) (ls : List (Int × Int × Int)) (p : Int) (w : World) (hn : n ≤ 1048576) (hp : 0 ≤ p) (hv : CW w0 S P s (.slice a n c) n ls w) :
    Calls Tryz.prog 95 #[.pointer (some ⟨P, 6, none⟩), .int .i64 p] w fun e w' => e = .returned (.tuple #[]) ∧ ∃ ra rc, CW w0 S P s (.slice ra (evL ls p).length rc) (evL ls p).length (evL ls p) w' ∧ OutS (fun k => k = P) w w' := by
  have hlen := hv.len
  have c1 := hv.c1
  have HV := hide hv
  clear hv
  by_cases h0 : 0 < n
  · obtain ⟨i, hpi, hin⟩ := rem_nat p n h0
    have HE := hide (evL_at (ls := ls) (by omega) (by rw [hlen]; exact hpi))
    have HLL : Hid ((ls.eraseIdx i).length = n - 1) := by show _ = _; rw [List.length_eraseIdx_of_lt (by omega), hlen]
    have hnz : (0 : Int) < (n : Int) := by omega
    go_enter Tryz.func95, Tryz.ntmps95
    go_wp2_with fail
    refine (l4Drop_W w0 S P s a n c i ls _ hn hin HV.out).mono ?_
    rintro e w2 ⟨rfl, ra, rc, V2, u2⟩
    have HR : Hid (CW w0 S P s (.slice ra (evL ls p).length rc) (evL ls p).length (evL ls p) w2) := by
      show CW _ _ _ _ _ _ _ _
      rw [HE.out, HLL.out]
      exact V2
    have HU := hide u2
    clear V2 u2
    go_wp2
    exact bodyPost_end (v := .tuple #[]) (by simp [results, Tryz.results95, go_sem]) rfl ⟨rfl, _, _, HR.out, HU.out⟩
  · have hn0 : n = 0 := by omega
    subst hn0
    have HE := hide (evL_nil (p := p) hlen)
    have HR : Hid (CW w0 S P s (.slice a (evL ls p).length c) (evL ls p).length (evL ls p) w) := by
      show CW _ _ _ _ _ _ _ _
      rw [HE.out, hlen]
      exact HV.out
    go_enter Tryz.func95, Tryz.ntmps95
    go_wp2
    exact bodyPost_end (v := .tuple #[]) (by simp [results, Tryz.results95, go_sem]) rfl ⟨rfl, _, _, HR.out, OutS.refl _ _⟩

theorem CW.app {w0 X w1 : World} {S : Nat → Prop} {P : Nat} {s : Int} {v : Value} {n g cp : Nat} {ks : List (Int × Int × Int)} {x : Int × Int × Int} {o : Obj} (V : CW w0 S P s v n ks X) (hg : (X.alloc o).drew.grownBy w1 v.ownBlock)
    (hown : w1.ownsRow 0 118 3 (.slice (some ⟨g, 0, none⟩) (n + 1) cp) (n + 1) (vs3 ks ++ vs3 [x])) (hat : v.ownBlock = some g ∨ g = X.heap.size + 1) :
    w1.cell? ⟨P, 7, none⟩ = some v ∧ w1.frozen? ⟨P, 7, none⟩ = false ∧ CW w0 S P s (.slice (some ⟨g, 0, none⟩) (n + 1) cp) (n + 1) (ks ++ [x]) (w1.setCell ⟨P, 7, none⟩ (.slice (some ⟨g, 0, none⟩) (n + 1) cp)) := by
  have al := (Below.refl X.heap.size X).alloc (Nat.le_refl _) o
  have hz := hg.size
  have hzz : (X.alloc o).drew.heap.size = X.heap.size + 1 := by show (X.alloc o).heap.size = _; simp
  have hu : OutS (fun k => v.ownBlock = some k) X w1 := (OutS.of_below al.drew).trans ⟨hg.os, hg.tape, hg.output, hg.size, fun k hk hn => hg.block k hk (fun e => hn e.symm)⟩
  rw [← vs3_append] at hown
  have hlt := (hown.lt g rfl).2
  obtain ⟨a, b, c, _⟩ := V.put hu hown (by simp [V.len]) (fun g' e => by
    simp only [Value.ownBlock, Option.some.injEq] at e
    subst e
    exact ⟨by rcases hat with h | h; exact .inl h; exact .inr (by omega), hlt⟩)
  exact ⟨a, b, c⟩

set_option maxRecDepth 100000 in
set_option maxHeartbeats 4000000 in
theorem l4Fill_W (w0 : World) (S : Nat → Prop) (P : Nat) (s : Int) (a : Option Addr) (n c : Nat) (ls : List (Int × Int × Int)) (d t q p : Int) (w : World) (hn : n ≤ 8) (hns : (n : Int) ≤ s) (hp : 0 ≤ p) (hv : CW w0 S P s (.slice a n c) n ls w) :
    Calls Tryz.prog 63 #[.pointer (some ⟨P, 6, none⟩), .agg #[.int .i64 d, .int .i64 t, .int .i64 q], .int .i64 p] w fun e w' => e = .returned (.tuple #[]) ∧ ∃ ra rc, CW w0 S P s (.slice ra (fiL s ls (d, t, q) p).length rc) (fiL s ls (d, t, q) p).length (fiL s ls (d, t, q) p) w' := by
  obtain ⟨i0, hi0, hz0, hz1, hz2⟩ := info_parts infoLine
  have hlen := hv.len
  have al := (Below.refl w.heap.size w).alloc (Nat.le_refl _) (.cells #[.int .i64 d, .int .i64 t, .int .i64 q] 118)
  have V1 := hv.below al
  have hl := atK_lt ls d t
  have hPw := hv.ltw
  go_enter Tryz.func63, Tryz.ntmps63
  go_wp2_with fail
  refine (l4At7_calls P a n c ls d t _ (by unfold maxLen; omega) V1.c1 (own_sln V1.own V1.len)).mono ?_
  rintro e w1 ⟨rfl, g1⟩
  have V2 := V1.below g1
  have GB : Below w.heap.size w w1 := al.trans (g1.mono (by simp))
  have z1 := g1.size
  simp only [World.size_alloc] at z1
  have x0 : w1.cell? ⟨w.heap.size, 0, none⟩ = some (.int .i64 d) := (g1.cell (p := ⟨w.heap.size, 0, none⟩) (by simp)).trans (by go_simp)
  have x1 : w1.cell? ⟨w.heap.size, 1, none⟩ = some (.int .i64 t) := (g1.cell (p := ⟨w.heap.size, 1, none⟩) (by simp)).trans (by go_simp)
  have x2 : w1.cell? ⟨w.heap.size, 2, none⟩ = some (.int .i64 q) := (g1.cell (p := ⟨w.heap.size, 2, none⟩) (by simp)).trans (by go_simp)
  clear g1 V1 al hv
  by_cases hat : atK ls d t < 0
  · have hge : ¬ (0 ≤ atK ls d t) := by omega
    have HD := hide (dropL_no hat)
    have p0 := V2.c0
    by_cases hs0 : s = 0
    · have hse : (s == 0) = true := by simpa using hs0
      have HE := hide (fiL_zero (s := s) (ls := ls) (x := (d, t, q)) (p := p) hs0)
      have hl0 : ls = [] := List.length_eq_zero_iff.1 (by omega)
      have HR : Hid (CW w0 S P s (.slice a (fiL s ls (d, t, q) p).length c) (fiL s ls (d, t, q) p).length (fiL s ls (d, t, q) p) w1) := by
        have hn0 : n = 0 := by omega
        show CW _ _ _ _ _ _ _ _
        rw [HE.out]
        rw [hl0, hn0] at V2
        exact V2
      clear V2 GB hs0 hat x0 x1 x2 hl0
      go_wp2
      exact bodyPost_ret (v := .tuple #[]) (by simp [results, Tryz.results63, go_sem]) rfl ⟨rfl, _, _, HR.out⟩
    · have hse : (s == 0) = false := by simpa using hs0
      by_cases hful : s ≤ (n : Int)
      · have HE := hide (fiL_full (p := p) (x := (d, t, q)) hs0 HD.out (by rw [hlen]; exact hful))
        have p1 := V2.c1
        have HV2 := hide V2
        have hel := length_evL ls p
        clear V2 GB hat hs0
        go_wp2_with fail
        go_quiet (fail)
        obtain ⟨Y, hY⟩ : ∃ Y, Y = w1.drewN nq := ⟨_, rfl⟩
        have GY : Below w1.heap.size w1 Y := by rw [hY]; exact bdrewN (Below.refl _ _) nq
        rw [← hY]
        clear hY
        have zY := GY.size
        have VY := HV2.out.below GY
        have HGY := hide GY
        have n0 := (GY.cell (p := ⟨w.heap.size, 0, none⟩) (by show w.heap.size < _; omega)).trans x0
        have n1 := (GY.cell (p := ⟨w.heap.size, 1, none⟩) (by show w.heap.size < _; omega)).trans x1
        have n2 := (GY.cell (p := ⟨w.heap.size, 2, none⟩) (by show w.heap.size < _; omega)).trans x2
        clear p0 p1 x0 x1 x2 GY
        have hnP : w.heap.size ≠ P := by omega
        go_wp2_with fail
        refine (l4Evict_W w0 S P s a n c ls p _ (by omega) hp VY).mono ?_
        rintro e X ⟨rfl, ea, ec, V, uX⟩
        have zX := uX.size
        have x0 := (World.cell?_of_block (a := ⟨w.heap.size, 0, none⟩) (uX.block _ (by show w.heap.size < _; omega) hnP)).trans n0
        have x1 := (World.cell?_of_block (a := ⟨w.heap.size, 1, none⟩) (uX.block _ (by show w.heap.size < _; omega) hnP)).trans n1
        have x2 := (World.cell?_of_block (a := ⟨w.heap.size, 2, none⟩) (uX.block _ (by show w.heap.size < _; omega) hnP)).trans n2
        have hm : (evL ls p).length ≤ 8 := by omega
        have hNX : w.heap.size < X.heap.size := by omega
        clear uX VY n0 n1 n2
        have p0 := V.c0
        have p1 := V.c1
        have HV := hide V
        have HO := hide (own_drew (own_belowZ V.own (fun g e => (V.hS g e).2) ((Below.refl _ _).alloc (Nat.le_refl _) (.cells #[.int .i64 d, .int .i64 t, .int .i64 q] 118))))
        have hPX := V.ltw
        clear V
        go_wp2_with fail
        go_region_law (refine step_append_lies _ rfl _ _ 48 rfl 0 118 i0 (.agg #[.int .i64 0, .int .i64 0, .int .i64 0]) 3 24 Tryz.underlying48 hi0 hz0 hz1 hz2 rfl (by decide) _ (evL ls p).length (vs3 (evL ls p)) rfl HO.out ⟨X.heap.size, 0, none⟩ 1 1 (vs3 [(d, t, q)]) rfl rfl (three_newL (by go_simp) (by go_simp) (by go_simp)) ints_one (by omega) (by unfold maxLen; omega) (by omega) (Nat.zero_le _) (X.heap.size + 1) (by simp) ?_; intro g cp w4 hown4 hgrow4 hat4 hlt4; obtain ⟨y1, y2, y3⟩ := HV.out.app (x := (d, t, q)) hgrow4 hown4 hat4; have HR := hide y3; clear hown4 hgrow4 hat4 hlt4 y3)
        all_goals (
          have HR2 : Hid (CW w0 S P s (.slice (some ⟨g, 0, none⟩) (fiL s ls (d, t, q) p).length cp) (fiL s ls (d, t, q) p).length (fiL s ls (d, t, q) p) (w4.setCell ⟨P, 7, none⟩ (.slice (some ⟨g, 0, none⟩) ((evL ls p).length + 1) cp))) := by
            show CW _ _ _ _ _ _ _ _
            rw [HE.out, List.length_append]
            exact HR.out
          have HL : Hid ((evL ls p).length + 1 = (fiL s ls (d, t, q) p).length) := by show _ = _; rw [HE.out, List.length_append]; rfl
          go_wp2
          rw [HL.out] at HR2 ⊢
          exact bodyPost_end (v := .tuple #[]) (by simp [results, Tryz.results63, go_sem]) rfl ⟨rfl, _, _, HR2.out⟩)
      · have HE := hide (fiL_room (p := p) (x := (d, t, q)) hs0 HD.out (by rw [hlen]; exact hful))
        have HK := hide hlen
        have p1 := V2.c1
        have HV2 := hide V2
        clear V2 GB hat hs0
        go_wp2_with fail
        go_quiet (fail)
        obtain ⟨X, hY⟩ : ∃ Y, Y = w1.drewN nq := ⟨_, rfl⟩
        have GY : Below w1.heap.size w1 X := by rw [hY]; exact bdrewN (Below.refl _ _) nq
        rw [← hY]
        clear hY
        have zX := GY.size
        have V := HV2.out.below GY
        have m0 := (GY.cell (p := ⟨w.heap.size, 0, none⟩) (by show w.heap.size < _; omega)).trans x0
        have m1 := (GY.cell (p := ⟨w.heap.size, 1, none⟩) (by show w.heap.size < _; omega)).trans x1
        have m2 := (GY.cell (p := ⟨w.heap.size, 2, none⟩) (by show w.heap.size < _; omega)).trans x2
        have hNX : w.heap.size < X.heap.size := by omega
        clear p0 p1 x0 x1 x2 GY
        have p0 := V.c0
        have p1 := V.c1
        have HV := hide V
        have HO := hide (own_drew (own_belowZ V.own (fun g e => (V.hS g e).2) ((Below.refl _ _).alloc (Nat.le_refl _) (.cells #[.int .i64 d, .int .i64 t, .int .i64 q] 118))))
        have hPX := V.ltw
        clear V
        go_wp2_with fail
        go_region_law (refine step_append_lies _ rfl _ _ 48 rfl 0 118 i0 (.agg #[.int .i64 0, .int .i64 0, .int .i64 0]) 3 24 Tryz.underlying48 hi0 hz0 hz1 hz2 rfl (by decide) _ n (vs3 (ls)) rfl HO.out ⟨X.heap.size, 0, none⟩ 1 1 (vs3 [(d, t, q)]) rfl rfl (three_newL (by go_simp) (by go_simp) (by go_simp)) ints_one (by omega) (by unfold maxLen; omega) (by omega) (Nat.zero_le _) (X.heap.size + 1) (by simp) ?_; intro g cp w4 hown4 hgrow4 hat4 hlt4; obtain ⟨y1, y2, y3⟩ := HV.out.app (x := (d, t, q)) hgrow4 hown4 hat4; have HR := hide y3; clear hown4 hgrow4 hat4 hlt4 y3)
        all_goals (
          have HR2 : Hid (CW w0 S P s (.slice (some ⟨g, 0, none⟩) (fiL s ls (d, t, q) p).length cp) (fiL s ls (d, t, q) p).length (fiL s ls (d, t, q) p) (w4.setCell ⟨P, 7, none⟩ (.slice (some ⟨g, 0, none⟩) (n + 1) cp))) := by
            show CW _ _ _ _ _ _ _ _
            rw [HE.out, List.length_append, HK.out]
            exact HR.out
          have HL : Hid (n + 1 = (fiL s ls (d, t, q) p).length) := by show _ = _; rw [HE.out, List.length_append, HK.out]; rfl
          go_wp2
          rw [HL.out] at HR2 ⊢
          exact bodyPost_end (v := .tuple #[]) (by simp [results, Tryz.results63, go_sem]) rfl ⟨rfl, _, _, HR2.out⟩)
  · obtain ⟨i, hi⟩ : ∃ i : Nat, atK ls d t = (i : Int) := ⟨(atK ls d t).toNat, by omega⟩
    have HD := hide (dropL_at hi)
    have hin : i < n := by omega
    have hel : (ls.eraseIdx i).length = n - 1 := by rw [List.length_eraseIdx_of_lt (by omega), hlen]
    have hs0 : s ≠ 0 := by omega
    have hse : (s == 0) = false := by simpa using hs0
    have hful : ¬ s ≤ ((n - 1 : Nat) : Int) := by omega
    have HE := hide (fiL_room (p := p) (x := (d, t, q)) hs0 HD.out (by rw [hel]; exact hful))
    have HK := hide hel
    have hnP : w.heap.size ≠ P := by omega
    rw [hi]
    have hge : (0 : Int) ≤ (i : Int) := by omega
    have HV2 := hide V2
    clear V2 GB hat hs0 hi hl hel
    go_wp2_with fail
    refine (l4Drop_W w0 S P s a n c i ls _ (by omega) hin HV2.out).mono ?_
    rintro e w2 ⟨rfl, ea, ec, V3, uX⟩
    have z2 := uX.size
    have n0 := (World.cell?_of_block (a := ⟨w.heap.size, 0, none⟩) (uX.block _ (by show w.heap.size < _; omega) hnP)).trans x0
    have n1 := (World.cell?_of_block (a := ⟨w.heap.size, 1, none⟩) (uX.block _ (by show w.heap.size < _; omega) hnP)).trans x1
    have n2 := (World.cell?_of_block (a := ⟨w.heap.size, 2, none⟩) (uX.block _ (by show w.heap.size < _; omega) hnP)).trans x2
    have p0 := V3.c0
    have p1 := V3.c1
    have HV3 := hide V3
    clear uX V3 x0 x1 x2
    go_wp2_with fail
    go_quiet (fail)
    obtain ⟨X, hY⟩ : ∃ Y, Y = w2.drewN nq := ⟨_, rfl⟩
    have GY : Below w2.heap.size w2 X := by rw [hY]; exact bdrewN (Below.refl _ _) nq
    rw [← hY]
    clear hY
    have zX := GY.size
    have V := HV3.out.below GY
    have m0 := (GY.cell (p := ⟨w.heap.size, 0, none⟩) (by show w.heap.size < _; omega)).trans n0
    have m1 := (GY.cell (p := ⟨w.heap.size, 1, none⟩) (by show w.heap.size < _; omega)).trans n1
    have m2 := (GY.cell (p := ⟨w.heap.size, 2, none⟩) (by show w.heap.size < _; omega)).trans n2
    have hNX : w.heap.size < X.heap.size := by omega
    clear p0 p1 n0 n1 n2 GY
    have p0 := V.c0
    have p1 := V.c1
    have HV := hide V
    have HO := hide (own_drew (own_belowZ V.own (fun g e => (V.hS g e).2) ((Below.refl _ _).alloc (Nat.le_refl _) (.cells #[.int .i64 d, .int .i64 t, .int .i64 q] 118))))
    have hPX := V.ltw
    clear V
    go_wp2_with fail
    go_region_law (refine step_append_lies _ rfl _ _ 48 rfl 0 118 i0 (.agg #[.int .i64 0, .int .i64 0, .int .i64 0]) 3 24 Tryz.underlying48 hi0 hz0 hz1 hz2 rfl (by decide) _ (n - 1) (vs3 (ls.eraseIdx i)) rfl HO.out ⟨X.heap.size, 0, none⟩ 1 1 (vs3 [(d, t, q)]) rfl rfl (three_newL (by go_simp) (by go_simp) (by go_simp)) ints_one (by omega) (by unfold maxLen; omega) (by omega) (Nat.zero_le _) (X.heap.size + 1) (by simp) ?_; intro g cp w4 hown4 hgrow4 hat4 hlt4; obtain ⟨y1, y2, y3⟩ := HV.out.app (x := (d, t, q)) hgrow4 hown4 hat4; have HR := hide y3; clear hown4 hgrow4 hat4 hlt4 y3)
    all_goals (
      have HR2 : Hid (CW w0 S P s (.slice (some ⟨g, 0, none⟩) (fiL s ls (d, t, q) p).length cp) (fiL s ls (d, t, q) p).length (fiL s ls (d, t, q) p) (w4.setCell ⟨P, 7, none⟩ (.slice (some ⟨g, 0, none⟩) ((n - 1) + 1) cp))) := by
        show CW _ _ _ _ _ _ _ _
        rw [HE.out, List.length_append, HK.out]
        exact HR.out
      have HL : Hid ((n - 1) + 1 = (fiL s ls (d, t, q) p).length) := by show _ = _; rw [HE.out, List.length_append, HK.out]; rfl
      go_wp2
      rw [HL.out] at HR2 ⊢
      exact bodyPost_end (v := .tuple #[]) (by simp [results, Tryz.results63, go_sem]) rfl ⟨rfl, _, _, HR2.out⟩)

set_option maxRecDepth 100000 in
set_option maxHeartbeats 2000000 in
theorem l4Flush_W (w0 : World) (S : Nat → Prop) (P : Nat) (s : Int) (a : Option Addr) (n c : Nat) (ls : List (Int × Int × Int)) (d t : Int) (w : World) (hn : n ≤ 1048576) (hv : CW w0 S P s (.slice a n c) n ls w) :
    Calls Tryz.prog 194 #[.pointer (some ⟨P, 6, none⟩), .int .i64 d, .int .i64 t] w fun e w' => e = .returned (.tuple #[]) ∧ ∃ ra rc, CW w0 S P s (.slice ra (flL ls d t).length rc) (flL ls d t).length (flL ls d t) w' := by
  have hs := own_sln hv.own hv.len
  have hlen := hv.len
  have hP := hv.ltw
  have HV := hide hv
  have c1 := hv.c1
  have HP1 := hide c1
  obtain ⟨i0, hi, hz0, hz1, hz2⟩ := info_parts infoLine
  have HO0 := hide (own_lit0 w 118 (B := w.heap.size) (Nat.le_refl _))
  clear hv
  go_enter Tryz.func194, Tryz.ntmps194
  go_wp2
  clear c1
  go_loopw [6, 7] (fun l0 i wr => ∃ (k q : Nat) (lv : Value), k ≤ n ∧ q ≤ k ∧ lv = l0 ∧ i = .int .i64 k ∧ (flL (ls.take k) d t).length = q ∧ wr.ownsRow w.heap.size 118 3 lv q (vs3 (flL (ls.take k) d t)) ∧ Below w.heap.size w wr) (fun _ i _ => n - (intOf i).toNat)
  case atStart => exact ⟨0, 0, _, Nat.zero_le _, Nat.le_refl _, rfl, rfl, rfl, HO0.out, (Below.refl _ _).alloc (Nat.le_refl _) _⟩
  case round =>
    clear HO0
    obtain ⟨k, q, lv, hk, hqk, rfl, rfl, hq, ho, hbel⟩ := hrel
    have c1 := (hbel.cell (p := ⟨P, 7, none⟩) hP).trans HP1.out
    by_cases hlt : k < n
    · obtain ⟨_, hs'⟩ := hs
      obtain ⟨b, off, rfl, hb, hc⟩ := hs' (by omega)
      obtain ⟨r0, r1, r2⟩ := cells3 hc hlt
      have p0 := (hbel.cell (p := ⟨b, off + k * 3, none⟩) hb).trans r0
      have p1 := (hbel.cell (p := ⟨b, off + k * 3 + 1, none⟩) hb).trans r1
      have p2 := (hbel.cell (p := ⟨b, off + k * 3 + 2, none⟩) hb).trans r2
      clear hc r0 r1 r2
      have hbr : b < wr.heap.size := by have := hbel.size; omega
      have hPr : P < wr.heap.size := by have := hbel.size; omega
      have hzr := hbel.size
      have HO := hide ho
      have HB := hide hbel
      have HQ := hide hq
      have i0' : (0 : Int) ≤ (k : Int) := by omega
      have i1' : (k : Int) < (n : Int) := by omega
      clear ho hbel hq
      by_cases h1 : d = -1
      · have e1 : (d == -1) = true := by simpa using h1
        by_cases h3 : t = -1
        · have e3 : (t == -1) = true := by simpa using h3
          have HN := hide (flL_drop (d := d) (t := t) (by omega : k < ls.length) (by simp [gone, h1, h3]))
          clear h1 h3
          go_wp2
          go_roundw
          case rel => exact ⟨k + 1, q, _, by omega, by omega, rfl, by go_num, by rw [HN.out]; exact HQ.out, by rw [HN.out]; exact own_below HO.out ((Below.refl _ _).alloc (Nat.le_refl _) _), (HB.out.alloc hzr _)⟩
          case measure => simp [intOf]; omega
        · have e3 : (t == -1) = false := by simpa using h3
          by_cases h4 : (g3 ls k).2.1 = t
          · have e4 : ((g3 ls k).2.1 == t) = true := by simpa using h4
            have HN := hide (flL_drop (d := d) (t := t) (by omega : k < ls.length) (by simp [gone, h1, h4]))
            clear h1 h3 h4
            go_wp2
            go_roundw
            case rel => exact ⟨k + 1, q, _, by omega, by omega, rfl, by go_num, by rw [HN.out]; exact HQ.out, by rw [HN.out]; exact own_below HO.out ((Below.refl _ _).alloc (Nat.le_refl _) _), (HB.out.alloc hzr _)⟩
            case measure => simp [intOf]; omega
          · have e4 : ((g3 ls k).2.1 == t) = false := by simpa using h4
            have HN := hide (flL_keep (d := d) (t := t) (by omega : k < ls.length) (by simp [gone, h3, h4]))
            clear h1 h3 h4
            have HW := hide (own_below (own_below HO.out ((Below.refl _ _).alloc (Nat.le_refl _) (.cells #[.int .i64 (g3 ls k).1, .int .i64 (g3 ls k).2.1, .int .i64 (g3 ls k).2.2] 118))) ((Below.refl _ _).alloc (Nat.le_refl _) (.cells #[.int .i64 (g3 ls k).1, .int .i64 (g3 ls k).2.1, .int .i64 (g3 ls k).2.2] 118)))
            have HM1 : Hid (q + 1 ≤ maxLen) := by show _ ≤ _; unfold maxLen; omega
            have HM2 : Hid ((q + 1) * 24 ≤ 140737488355328) := by show _ ≤ _; omega
            have HBS : Hid (w.heap.size ≤ ((wr.alloc (.cells #[.int .i64 (g3 ls k).1, .int .i64 (g3 ls k).2.1, .int .i64 (g3 ls k).2.2] 118)).alloc (.cells #[.int .i64 (g3 ls k).1, .int .i64 (g3 ls k).2.1, .int .i64 (g3 ls k).2.2] 118)).heap.size) := by show _ ≤ _; simp; omega
            go_wp2_with (first
              | (at_builtin; refine wpList_append_own _ rfl _ _ 48 rfl w.heap.size 118 i0 (.agg #[.int .i64 0, .int .i64 0, .int .i64 0]) 3 24 Tryz.underlying48 hi hz0 hz1 hz2 rfl (by decide) lv q (vs3 (flL (ls.take k) d t)) rfl HW.out ⟨wr.heap.size + 1, 0, none⟩ 1 1 (vs3 [g3 ls k]) rfl rfl (three_newL (by go_simp) (by go_simp) (by go_simp)) ints_one HM1.out HM2.out HBS.out ?_)
              | go_in)
            intro v' w1 hown' hgrow _
            have HF : Hid (w1.ownsRow w.heap.size 118 3 v' (q + 1) (vs3 (flL (ls.take (k + 1)) d t)) ∧ (flL (ls.take (k + 1)) d t).length = q + 1) := ⟨by rw [HN.out, vs3_append]; exact hown', by rw [HN.out, List.length_append, HQ.out]; rfl⟩
            have HB1 := hide (((HB.out.alloc hzr _).alloc (by simp; omega) _).grown hgrow (by simp; omega) (fun g hg => by have := (HO.out.lt g hg).1; omega))
            clear hown' hgrow HW
            go_wp2
            go_roundw
            case rel => exact ⟨k + 1, q + 1, _, by omega, by omega, rfl, by go_num, HF.out.2, HF.out.1, HB1.out⟩
            case measure => simp [intOf]; omega
      · have e1 : (d == -1) = false := by simpa using h1
        by_cases h2 : (g3 ls k).1 = d
        · have e2 : ((g3 ls k).1 == d) = true := by simpa using h2
          by_cases h3 : t = -1
          · have e3 : (t == -1) = true := by simpa using h3
            have HN := hide (flL_drop (d := d) (t := t) (by omega : k < ls.length) (by simp [gone, h2, h3]))
            clear h1 h2 h3
            go_wp2
            go_roundw
            case rel => exact ⟨k + 1, q, _, by omega, by omega, rfl, by go_num, by rw [HN.out]; exact HQ.out, by rw [HN.out]; exact own_below HO.out ((Below.refl _ _).alloc (Nat.le_refl _) _), (HB.out.alloc hzr _)⟩
            case measure => simp [intOf]; omega
          · have e3 : (t == -1) = false := by simpa using h3
            by_cases h4 : (g3 ls k).2.1 = t
            · have e4 : ((g3 ls k).2.1 == t) = true := by simpa using h4
              have HN := hide (flL_drop (d := d) (t := t) (by omega : k < ls.length) (by simp [gone, h2, h4]))
              clear h1 h2 h3 h4
              go_wp2
              go_roundw
              case rel => exact ⟨k + 1, q, _, by omega, by omega, rfl, by go_num, by rw [HN.out]; exact HQ.out, by rw [HN.out]; exact own_below HO.out ((Below.refl _ _).alloc (Nat.le_refl _) _), (HB.out.alloc hzr _)⟩
              case measure => simp [intOf]; omega
            · have e4 : ((g3 ls k).2.1 == t) = false := by simpa using h4
              have HN := hide (flL_keep (d := d) (t := t) (by omega : k < ls.length) (by simp [gone, h3, h4]))
              clear h1 h2 h3 h4
              have HW := hide (own_below (own_below HO.out ((Below.refl _ _).alloc (Nat.le_refl _) (.cells #[.int .i64 (g3 ls k).1, .int .i64 (g3 ls k).2.1, .int .i64 (g3 ls k).2.2] 118))) ((Below.refl _ _).alloc (Nat.le_refl _) (.cells #[.int .i64 (g3 ls k).1, .int .i64 (g3 ls k).2.1, .int .i64 (g3 ls k).2.2] 118)))
              have HM1 : Hid (q + 1 ≤ maxLen) := by show _ ≤ _; unfold maxLen; omega
              have HM2 : Hid ((q + 1) * 24 ≤ 140737488355328) := by show _ ≤ _; omega
              have HBS : Hid (w.heap.size ≤ ((wr.alloc (.cells #[.int .i64 (g3 ls k).1, .int .i64 (g3 ls k).2.1, .int .i64 (g3 ls k).2.2] 118)).alloc (.cells #[.int .i64 (g3 ls k).1, .int .i64 (g3 ls k).2.1, .int .i64 (g3 ls k).2.2] 118)).heap.size) := by show _ ≤ _; simp; omega
              go_wp2_with (first
                | (at_builtin; refine wpList_append_own _ rfl _ _ 48 rfl w.heap.size 118 i0 (.agg #[.int .i64 0, .int .i64 0, .int .i64 0]) 3 24 Tryz.underlying48 hi hz0 hz1 hz2 rfl (by decide) lv q (vs3 (flL (ls.take k) d t)) rfl HW.out ⟨wr.heap.size + 1, 0, none⟩ 1 1 (vs3 [g3 ls k]) rfl rfl (three_newL (by go_simp) (by go_simp) (by go_simp)) ints_one HM1.out HM2.out HBS.out ?_)
                | go_in)
              intro v' w1 hown' hgrow _
              have HF : Hid (w1.ownsRow w.heap.size 118 3 v' (q + 1) (vs3 (flL (ls.take (k + 1)) d t)) ∧ (flL (ls.take (k + 1)) d t).length = q + 1) := ⟨by rw [HN.out, vs3_append]; exact hown', by rw [HN.out, List.length_append, HQ.out]; rfl⟩
              have HB1 := hide (((HB.out.alloc hzr _).alloc (by simp; omega) _).grown hgrow (by simp; omega) (fun g hg => by have := (HO.out.lt g hg).1; omega))
              clear hown' hgrow HW
              go_wp2
              go_roundw
              case rel => exact ⟨k + 1, q + 1, _, by omega, by omega, rfl, by go_num, HF.out.2, HF.out.1, HB1.out⟩
              case measure => simp [intOf]; omega
        · have e2 : ((g3 ls k).1 == d) = false := by simpa using h2
          have HN := hide (flL_keep (d := d) (t := t) (by omega : k < ls.length) (by simp [gone, h1, h2]))
          clear h1 h2
          have HW := hide (own_below (own_below HO.out ((Below.refl _ _).alloc (Nat.le_refl _) (.cells #[.int .i64 (g3 ls k).1, .int .i64 (g3 ls k).2.1, .int .i64 (g3 ls k).2.2] 118))) ((Below.refl _ _).alloc (Nat.le_refl _) (.cells #[.int .i64 (g3 ls k).1, .int .i64 (g3 ls k).2.1, .int .i64 (g3 ls k).2.2] 118)))
          have HM1 : Hid (q + 1 ≤ maxLen) := by show _ ≤ _; unfold maxLen; omega
          have HM2 : Hid ((q + 1) * 24 ≤ 140737488355328) := by show _ ≤ _; omega
          have HBS : Hid (w.heap.size ≤ ((wr.alloc (.cells #[.int .i64 (g3 ls k).1, .int .i64 (g3 ls k).2.1, .int .i64 (g3 ls k).2.2] 118)).alloc (.cells #[.int .i64 (g3 ls k).1, .int .i64 (g3 ls k).2.1, .int .i64 (g3 ls k).2.2] 118)).heap.size) := by show _ ≤ _; simp; omega
          go_wp2_with (first
            | (at_builtin; refine wpList_append_own _ rfl _ _ 48 rfl w.heap.size 118 i0 (.agg #[.int .i64 0, .int .i64 0, .int .i64 0]) 3 24 Tryz.underlying48 hi hz0 hz1 hz2 rfl (by decide) lv q (vs3 (flL (ls.take k) d t)) rfl HW.out ⟨wr.heap.size + 1, 0, none⟩ 1 1 (vs3 [g3 ls k]) rfl rfl (three_newL (by go_simp) (by go_simp) (by go_simp)) ints_one HM1.out HM2.out HBS.out ?_)
            | go_in)
          intro v' w1 hown' hgrow _
          have HF : Hid (w1.ownsRow w.heap.size 118 3 v' (q + 1) (vs3 (flL (ls.take (k + 1)) d t)) ∧ (flL (ls.take (k + 1)) d t).length = q + 1) := ⟨by rw [HN.out, vs3_append]; exact hown', by rw [HN.out, List.length_append, HQ.out]; rfl⟩
          have HB1 := hide (((HB.out.alloc hzr _).alloc (by simp; omega) _).grown hgrow (by simp; omega) (fun g hg => by have := (HO.out.lt g hg).1; omega))
          clear hown' hgrow HW
          go_wp2
          go_roundw
          case rel => exact ⟨k + 1, q + 1, _, by omega, by omega, rfl, by go_num, HF.out.2, HF.out.1, HB1.out⟩
          case measure => simp [intOf]; omega
    · have hkn : k = n := by omega
      rw [hkn, ← hlen, List.take_length] at hq ho
      have hzr := hbel.size
      obtain ⟨ra, rc, rfl, _⟩ := own_ol (by omega) hq ho
      obtain ⟨y1, y2, y3, y4⟩ := HV.out.put (OutS.of_below hbel) (owns_base ho) hq (fun g e => ⟨.inr (ho.lt g e).1, (ho.lt g e).2⟩)
      have HR := hide y3
      clear y3 y4
      subst hq
      clear ho hbel
      go_wp2
      exact bodyPost_end (v := .tuple #[]) (by simp [results, Tryz.results194, go_sem]) rfl ⟨rfl, _, _, HR.out⟩

end Go.Proofs.YtcojgmecocjnkabGreat
