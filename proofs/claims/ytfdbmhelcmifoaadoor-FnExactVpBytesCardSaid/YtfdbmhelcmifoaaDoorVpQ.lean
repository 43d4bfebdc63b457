/- The program's parser: its state as a word, what a method without an answer leaves; the classes of bytes; a digit, an argument. -/
import Derived.Test.YtfdbmhelcmifoaaDoorVpA
import Derived.Test.YtfdbmhelcmifoaaDoorVpM
import Derived.Deep.QuietTactic
import Derived.BigQuiet
namespace Go.Proofs.YtfdbmhelcmifoaaDoor.Vp
open Go.RowKit Go.Proofs.YtfdbmhelcmifoaaDoor.Bytes Go.Proofs.YtfdbmhelcmifoaaDoor.DOk Go.Proofs.YtfdbmhelcmifoaaDoor.Rune Go.Proofs.YtfdbmhelcmifoaaDoor.RowK Go.Proofs.YtfdbmhelcmifoaaDoor.Gr
set_option linter.unusedVariables false
def Blk (A : Option Addr) (n c : Nat) (i : Nat) : Prop := (Value.slice A n c).ownBlock = some i
def SP (g : Nat) (A : Option Addr) (na ca : Nat) (P : Option Addr) (np cp : Nat) (i : Nat) : Prop := i = g ∨ Blk A na ca i ∨ Blk P np cp i
structure Par (w : World) (base g : Nat) (s : VS) (A : Option Addr) (na ca : Nat) (P : Option Addr) (np cp : Nat) : Prop where
  bx : BoxP w g (parV g s.st s.q A na ca P np cp)
  i : OwnI w base A na ca s.zs
  b : Own w base P np cp s.bs
theorem boxP_ne {w : World} {b base K n : Nat} {cs : Array Value} {E : TypeId} {v : Value} {xs : List Value} (h : BoxP w b cs) (hr : w.ownsRow base E K v n xs) (hE : 85 ≠ E) : v.ownBlock ≠ some b := by
  intro e
  rcases hr.2 with ⟨rfl, _⟩ | ⟨g, _, _, rfl, _, hg, _⟩
  · cases e
  · simp only [Value.ownBlock, Option.some.injEq] at e
    subst e
    unfold BoxP at h
    rw [h] at hg
    simp only [Option.some.injEq, Obj.cells.injEq] at hg
    exact hE hg.2.1
theorem Par.nA {w : World} {base g : Nat} {s : VS} {A : Option Addr} {na ca : Nat} {P : Option Addr} {np cp : Nat} (h : Par w base g s A na ca P np cp) : ¬ Blk A na ca g := boxP_ne h.bx h.i (by decide)
theorem Par.nP {w : World} {base g : Nat} {s : VS} {A : Option Addr} {na ca : Nat} {P : Option Addr} {np cp : Nat} (h : Par w base g s A na ca P np cp) : ¬ Blk P np cp g := boxP_ne h.bx h.b (by decide)
theorem Par.ltA {w : World} {base g : Nat} {s : VS} {A : Option Addr} {na ca : Nat} {P : Option Addr} {np cp : Nat} (h : Par w base g s A na ca P np cp) : ∀ i, Blk A na ca i → base ≤ i ∧ i < w.heap.size := h.i.blk
theorem Par.ltP {w : World} {base g : Nat} {s : VS} {A : Option Addr} {na ca : Nat} {P : Option Addr} {np cp : Nat} (h : Par w base g s A na ca P np cp) : ∀ i, Blk P np cp i → base ≤ i ∧ i < w.heap.size := h.b.blk
/-- what a method of the parser leaves that answers nothing -/
def Mth (w : World) (base g : Nat) (A : Option Addr) (na ca : Nat) (P : Option Addr) (np cp : Nat) (s' : VS) (e : Ending) (w' : World) : Prop :=
  ∃ A' na' ca' P' np' cp', e = .returned (.tuple #[]) ∧ Par w' base g s' A' na' ca' P' np' cp' ∧ (∀ i, Blk A' na' ca' i → Blk A na ca i ∨ w.heap.size ≤ i) ∧ (∀ i, Blk P' np' cp' i → Blk P np cp i ∨ w.heap.size ≤ i) ∧ Only (SP g A na ca P np cp) w w'
theorem isControl_yes (b : Int) (w : World) (h : b < 32 ∨ b = 127) : Calls Tryd.prog 105 #[.int .i64 b] w fun e w' => e = .returned (.bool true) ∧ w = w' := by
  by_cases h1 : b < 32
  · clear h
    go_enter Tryd.func105, Tryd.ntmps105
    go_wp2_with fail
    go_ret
    exact ⟨rfl, rfl⟩
  · obtain rfl : b = 127 := by omega
    clear h h1
    go_enter Tryd.func105, Tryd.ntmps105
    go_wp2_with fail
    go_ret
    exact ⟨rfl, rfl⟩
theorem isControl_no (b : Int) (w : World) (h : 32 ≤ b) (h2 : b ≠ 127) : Calls Tryd.prog 105 #[.int .i64 b] w fun e w' => e = .returned (.bool false) ∧ w = w' := by
  have h1 : ¬ b < 32 := by omega
  have h3 : (b == 127) = false := by simpa using h2
  clear h h2
  go_enter Tryd.func105, Tryd.ntmps105
  go_wp2_with fail
  go_ret
  exact ⟨rfl, rfl⟩
theorem isByte_yes (b : Int) (w : World) (h : 0 ≤ b) (h2 : b ≤ 255) : Calls Tryd.prog 42 #[.int .i64 b] w fun e w' => e = .returned (.bool true) ∧ w = w' := by
  go_enter Tryd.func42, Tryd.ntmps42
  go_wp2_with fail
  go_ret
  exact ⟨rfl, rfl⟩
theorem isByte_no (b : Int) (w : World) (h : ¬ (0 ≤ b ∧ b ≤ 255)) : Calls Tryd.prog 42 #[.int .i64 b] w fun e w' => e = .returned (.bool false) ∧ w = w' := by
  by_cases h1 : 0 ≤ b
  · have h2 : decide (b ≤ 255) = false := by simp; omega
    clear h
    go_enter Tryd.func42, Tryd.ntmps42
    go_wp2_with fail
    go_ret
    exact ⟨rfl, rfl⟩
  · have h2 : b < 0 := by omega
    clear h h1
    go_enter Tryd.func42, Tryd.ntmps42
    go_wp2_with fail
    go_ret
    exact ⟨rfl, rfl⟩
theorem isDigit_yes (b : Int) (w : World) (h : 48 ≤ b) (h2 : b ≤ 57) : Calls Tryd.prog 100 #[.int .i64 b] w fun e w' => e = .returned (.bool true) ∧ w = w' := by
  go_enter Tryd.func100, Tryd.ntmps100
  go_wp2_with fail
  go_ret
  exact ⟨rfl, rfl⟩
theorem isDigit_no (b : Int) (w : World) (h : ¬ (48 ≤ b ∧ b ≤ 57)) : Calls Tryd.prog 100 #[.int .i64 b] w fun e w' => e = .returned (.bool false) ∧ w = w' := by
  by_cases h1 : 48 ≤ b
  · have h2 : decide (b ≤ 57) = false := by simp; omega
    clear h
    go_enter Tryd.func100, Tryd.ntmps100
    go_wp2_with fail
    go_ret
    exact ⟨rfl, rfl⟩
  · have h2 : b < 48 := by omega
    clear h h1
    go_enter Tryd.func100, Tryd.ntmps100
    go_wp2_with fail
    go_ret
    exact ⟨rfl, rfl⟩
theorem endsEsc_yes (b : Int) (w : World) (h : 48 ≤ b) (h2 : b ≤ 126) : Calls Tryd.prog 99 #[.int .i64 b] w fun e w' => e = .returned (.bool true) ∧ w = w' := by
  go_enter Tryd.func99, Tryd.ntmps99
  go_wp2_with fail
  go_ret
  exact ⟨rfl, rfl⟩
theorem endsEsc_no (b : Int) (w : World) (h : ¬ (48 ≤ b ∧ b ≤ 126)) : Calls Tryd.prog 99 #[.int .i64 b] w fun e w' => e = .returned (.bool false) ∧ w = w' := by
  by_cases h1 : 48 ≤ b
  · have h2 : decide (b ≤ 126) = false := by simp; omega
    clear h
    go_enter Tryd.func99, Tryd.ntmps99
    go_wp2_with fail
    go_ret
    exact ⟨rfl, rfl⟩
  · have h2 : b < 48 := by omega
    clear h h1
    go_enter Tryd.func99, Tryd.ntmps99
    go_wp2_with fail
    go_ret
    exact ⟨rfl, rfl⟩
theorem endsCsi_yes (b : Int) (w : World) (h : 64 ≤ b) (h2 : b ≤ 126) : Calls Tryd.prog 103 #[.int .i64 b] w fun e w' => e = .returned (.bool true) ∧ w = w' := by
  go_enter Tryd.func103, Tryd.ntmps103
  go_wp2_with fail
  go_ret
  exact ⟨rfl, rfl⟩
theorem endsCsi_no (b : Int) (w : World) (h : ¬ (64 ≤ b ∧ b ≤ 126)) : Calls Tryd.prog 103 #[.int .i64 b] w fun e w' => e = .returned (.bool false) ∧ w = w' := by
  by_cases h1 : 64 ≤ b
  · have h2 : decide (b ≤ 126) = false := by simp; omega
    clear h
    go_enter Tryd.func103, Tryd.ntmps103
    go_wp2_with fail
    go_ret
    exact ⟨rfl, rfl⟩
  · have h2 : b < 64 := by omega
    clear h h1
    go_enter Tryd.func103, Tryd.ntmps103
    go_wp2_with fail
    go_ret
    exact ⟨rfl, rfl⟩
theorem mth_new {w : World} {base g : Nat} {st : Int} {mk : Bool} {zs bs : List Int} {A : Option Addr} {na ca : Nat} {P : Option Addr} {np cp : Nat} {d : Int} (h : Par w base g ⟨st, mk, zs, bs⟩ A na ca P np cp) (hb : base ≤ w.heap.size) :
    Mth w base g A na ca P np cp ⟨st, mk, [d], bs⟩ (.returned (.tuple #[])) ((w.setCell ⟨g, 2, none⟩ (.slice (some ⟨w.heap.size, 0, none⟩) 1 1)).alloc (.cells #[.int .i64 d] 3)) := by
  have hx : BoxP w g #[.int .i64 st, .bool mk, .slice A na ca, .slice P np cp, fnOf g st] := h.bx
  have hs := hx.set2 (.slice (some ⟨w.heap.size, 0, none⟩) 1 1)
  have hlit := World.ownsRow_lit (w.setCell ⟨g, 2, none⟩ (.slice (some ⟨w.heap.size, 0, none⟩) 1 1)) (base := base) (e := 3) (size := 1) #[.int .i64 d] 1 (by simpa using hb) (by decide) rfl
  simp only [World.size_setCell] at hlit
  refine ⟨some ⟨w.heap.size, 0, none⟩, 1, 1, P, np, cp, rfl, ⟨hs.below ((Below.refl _ _).alloc (Nat.le_refl _) _) hs.lt, hlit, World.ownsRow.alloc (own_setNe h.b g 2 _ h.nP) _⟩, fun i hi => .inr ?_, fun i hi => .inl hi, ?_⟩
  · simp only [Blk, Value.ownBlock, Option.some.injEq] at hi; omega
  · exact Only.trans (Only.cell_ w g 2 _ (.inl rfl)) (Only.below ((Below.refl _ _).alloc (Nat.le_refl _) _) (Nat.le_refl _))
theorem mth_set {w : World} {base g : Nat} {st : Int} {mk : Bool} {zs bs : List Int} {ga na ca : Nat} {P : Option Addr} {np cp : Nat} (h : Par w base g ⟨st, mk, zs, bs⟩ (some ⟨ga, 0, none⟩) na ca P np cp) (j m : Nat) (z : Int) :
    Mth w base g (some ⟨ga, 0, none⟩) na ca P np cp ⟨st, mk, zs.set m z, bs⟩ (.returned (.tuple #[])) ((w.drewN j).setCell ⟨ga, m, none⟩ (.int .i64 z)) := by
  have hi : OwnI (w.drewN j) base (some ⟨ga, 0, none⟩) na ca zs := h.i
  have hbx : BoxP (w.drewN j) g (parV g st mk (some ⟨ga, 0, none⟩) na ca P np cp) := h.bx
  have hp : Own (w.drewN j) base P np cp bs := h.b
  have hne : g ≠ ga := fun e => h.nA (by rw [e]; rfl)
  have hpp : (Value.slice P np cp).ownBlock ≠ some ga := fun e => own_ne hi hp (by decide) ga rfl e
  refine ⟨some ⟨ga, 0, none⟩, na, ca, P, np, cp, rfl, ⟨hbx.other hne, (hi.stored m z).1, own_setNe hp ga m _ hpp⟩, fun i hi => .inl hi, fun i hi => .inl hi, ?_⟩
  have h0 : Only (SP g (some ⟨ga, 0, none⟩) na ca P np cp) w (w.drewN j) := ⟨rfl, rfl, rfl, Nat.le_refl _, fun _ _ _ => rfl⟩
  exact h0.trans (Only.cell_ _ ga m _ (.inr (.inl rfl)))
theorem digV_nil {zs : List Int} (h : zs.length = 0) (d : Int) : digV zs d = [d] := by unfold digV; rw [if_pos (List.eq_nil_of_length_eq_zero h)]
theorem digV_some {zs : List Int} {m : Nat} (h : zs.length = m + 1) {z : Int} (hz : zs.getD (m + 1 - 1) 0 = z) (d : Int) : digV zs d = zs.set m (min (10 * z + d) 9999) := by
  unfold digV; rw [if_neg (fun e => by rw [e] at h; simp at h), h, hz]; rfl
set_option maxRecDepth 100000 in
set_option maxHeartbeats 800000 in
theorem addDigit_0 (g : Nat) (base : Nat) (st : Int) (mk : Bool) (A : Option Addr) (ca : Nat) (zs bs : List Int) (P : Option Addr) (np cp : Nat) (d : Int) (w : World) (h : Par w base g ⟨st, mk, zs, bs⟩ A 0 ca P np cp) (hb : base ≤ w.heap.size) (h0 : 0 ≤ d) (h1 : d ≤ 9) :
    Calls Tryd.prog 101 #[.pointer (some ⟨g, 0, none⟩), .int .i64 d] w (Mth w base g A 0 ca P np cp ⟨st, mk, digV zs d, bs⟩) := by
  have hg := h.bx.lt
  have c2 : w.cell? ⟨g, 2, none⟩ = some (.slice A 0 ca) := h.bx.cell 2
  have f2 := h.bx.free 2
  have H := Lib.hid h
  have HE := Lib.hid (digV_nil h.i.len d)
  clear h
  rw [HE.out]
  go_enter Tryd.func101, Tryd.ntmps101
  go_wp2_with fail
  refine bodyPost_ret (v := .tuple #[]) (results_none rfl _ _ _) rfl ?_
  exact mth_new H.out hb
set_option maxRecDepth 100000 in
set_option maxHeartbeats 800000 in
theorem addDigit_1 (g : Nat) (base : Nat) (st : Int) (mk : Bool) (ga : Nat) (na ca : Nat) (zs bs : List Int) (P : Option Addr) (np cp : Nat) (d : Int) (w : World) (h : Par w base g ⟨st, mk, zs, bs⟩ (some ⟨ga, 0, none⟩) na ca P np cp) (hb : base ≤ w.heap.size) (hn0 : ¬ na = 0) (hn8 : na ≤ 8) (h0 : 0 ≤ d) (h1 : d ≤ 9) (z : Int) (hz0 : 0 ≤ z) (hz1 : z ≤ 9999) (hz : zs.getD (na - 1) 0 = z) :
    Calls Tryd.prog 101 #[.pointer (some ⟨g, 0, none⟩), .int .i64 d] w (Mth w base g (some ⟨ga, 0, none⟩) na ca P np cp ⟨st, mk, digV zs d, bs⟩) := by
  have hg := h.bx.lt
  have hl := h.i.len
  have c2 : w.cell? ⟨g, 2, none⟩ = some (.slice (some ⟨ga, 0, none⟩) na ca) := h.bx.cell 2
  obtain ⟨m, rfl⟩ : ∃ m, na = m + 1 := ⟨na - 1, by omega⟩
  have ci : w.cell? ⟨ga, m, none⟩ = some (.int .i64 z) := by
    rw [World.ownsRow.cellAt (h := h.i) m (by omega)]
    simp only at hl
    have e : zs.getD m 0 = z := hz
    simp [iv, List.getElem?_eq_getElem (show m < zs.length by omega)]
    rw [← e]; simp [List.getD, List.getElem?_eq_getElem (show m < zs.length by omega)]
  have fi := World.ownsRow.frozenAt (h := h.i) m
  have H := Lib.hid h
  have HL := Lib.hid hl
  have HE := Lib.hid (digV_some hl hz d)
  have hla : 0 < m + 1 := by omega
  clear h hl hz
  rw [HE.out]
  go_enter Tryd.func101, Tryd.ntmps101
  go_wp2_with fail
  go_quiet (fail)
  go_wp2_with fail
  go_end0
  exact mth_set H.out _ m _
end Go.Proofs.YtfdbmhelcmifoaaDoor.Vp
