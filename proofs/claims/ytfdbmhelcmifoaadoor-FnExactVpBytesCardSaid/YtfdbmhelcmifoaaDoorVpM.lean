/- A parser's step as a plain function; a valid state stays valid. -/
import Derived.Test.YtfdbmhelcmifoaaDoorVpB
namespace Go.Proofs.YtfdbmhelcmifoaaDoor.Vp
open Go.RowKit Go.Proofs.YtfdbmhelcmifoaaDoor.Bytes Go.Proofs.YtfdbmhelcmifoaaDoor.DOk Go.Proofs.YtfdbmhelcmifoaaDoor.Rune Go.Proofs.YtfdbmhelcmifoaaDoor.RunePl Go.Proofs.YtfdbmhelcmifoaaDoor.RowK Go.Proofs.YtfdbmhelcmifoaaDoor.Gr
set_option linter.unusedVariables false
structure VS where
  st : Int
  q : Bool
  zs : List Int
  bs : List Int
structure AS where
  k : Int
  r : Int
  q : Bool
  zs : List Int
def vz : VS := ⟨0, false, [], []⟩
def az : AS := ⟨0, 0, false, []⟩
def VS.ok (s : VS) : Prop := okVp s.st s.q s.zs s.bs = true ∧ Rng s.bs
def digV (zs : List Int) (d : Int) : List Int := if zs = [] then [d] else zs.set (zs.length - 1) (min (10 * zs.getD (zs.length - 1) 0 + d) 9999)
def argV (zs : List Int) : List Int := (if zs = [] then [0] else zs) ++ [0]
def runeV (p : List Int) : Int := if (rdV p 0).2 = (p.length : Int) then (rdV p 0).1 else 65533
def plainV (bs : List Int) (b : Int) : VS × AS :=
  if b < 32 ∨ b = 127 then (vz, ⟨2, b, false, []⟩)
  else if b < 127 then (vz, ⟨1, b, false, []⟩)
  else if begB (bs ++ [b]) = true then (⟨0, false, [], bs ++ [b]⟩, az)
  else (vz, ⟨1, runeV (bs ++ [b]), false, []⟩)
def csiV (mk : Bool) (zs : List Int) (b : Int) : VS × AS :=
  if b = 63 ∧ hpB mk zs.length = false then (⟨2, true, zs, []⟩, az)
  else if 48 ≤ b ∧ b ≤ 57 then (⟨2, mk, digV zs (b - 48), []⟩, az)
  else if b = 59 then (if zs.length = 8 then (⟨3, mk, zs, []⟩, az) else (⟨2, mk, argV zs, []⟩, az))
  else if 64 ≤ b ∧ b ≤ 126 then (vz, ⟨4, b, mk, zs⟩)
  else if b < 32 ∨ b = 127 then (⟨2, mk, zs, []⟩, ⟨2, b, false, []⟩)
  else (⟨3, mk, zs, []⟩, az)
def escV (b : Int) : VS × AS :=
  if b = 91 then (⟨2, false, [], []⟩, az) else if 48 ≤ b ∧ b ≤ 126 then (vz, ⟨3, b, false, []⟩) else (vz, az)
def skipV (mk : Bool) (zs : List Int) (b : Int) : VS × AS := if 64 ≤ b ∧ b ≤ 126 then (vz, az) else (⟨3, mk, zs, []⟩, az)
def stepV (s : VS) (b : Int) : VS × AS :=
  if b = 27 then (⟨1, false, [], []⟩, az) else if b = 24 ∨ b = 26 then (vz, az)
  else if s.st = 0 then plainV s.bs b else if s.st = 1 then escV b else if s.st = 2 then csiV s.q s.zs b else skipV s.q s.zs b
theorem begB_rd {p : List Int} (hg : Rng p) (h : begB p = true) : ¬ (rdV p 0).2 = (p.length : Int) := by
  unfold begB at h
  have h := of_decide_eq_true h
  have hp : begP p := h
  rcases p with _ | ⟨b0, _ | ⟨b1, _ | ⟨b2, rest⟩⟩⟩
  · unfold begP at h; simp at h
  · obtain ⟨g0, g1⟩ := hg b0 (by simp)
    obtain ⟨m, rfl, hm⟩ := natb g0 g1
    have e : rdV [(m : Int)] 0 = rrS 1 m 0 0 := rfl
    rw [e]
    have : ¬ one (m : Int) := by
      unfold begP at h; unfold one; simp at h; omega
    rw [rrS_no this (by omega) (by omega)]
    simp
  · obtain ⟨g0, g1⟩ := hg b0 (by simp)
    obtain ⟨i0, i1⟩ := hg b1 (by simp)
    obtain ⟨m, rfl, hm⟩ := natb g0 g1
    obtain ⟨q, rfl, hq⟩ := natb i0 i1
    have e : rdV [(m : Int), (q : Int)] 0 = rrS 2 m q 0 := rfl
    rw [e]
    have h2 : ¬ (2 ≤ 2 ∧ two (m : Int) q) := by
      intro hx
      have hx := (two_iff m q hm hq).1 hx.2
      unfold begP at h; simp at h; omega
    have h1 : ¬ one (m : Int) := by
      unfold begP at h; unfold one; simp at h; omega
    rw [rrS_no h1 h2 (by omega)]
    simp
  · unfold begP at h; simp at h
theorem begB_len {p : List Int} (h : begB p = true) : 1 ≤ p.length ∧ p.length ≤ 2 := by
  by_cases hx : p.length < 1 ∨ 2 < p.length
  · rw [beg_len hx] at h; cases h
  · omega
theorem ok_parts {s : VS} (h : s.ok) : (s.st = 0 ∧ s.q = false ∧ s.zs = [] ∧ s.bs.length ≤ 2) ∨ (s.st = 1 ∧ s.q = false ∧ s.zs = [] ∧ s.bs = []) ∨ ((s.st = 2 ∨ s.st = 3) ∧ s.zs.length ≤ 8 ∧ s.bs = [] ∧ ∀ z ∈ s.zs, 0 ≤ z ∧ z ≤ 9999) := by
  obtain ⟨h, hg⟩ := h
  obtain ⟨st, mk, zs, bs⟩ := s
  simp only at h hg ⊢
  rcases st_cases st with rfl | rfl | rfl | rfl | hn
  · rw [okVp_0] at h
    simp only [hpB, Bool.and_eq_true, Bool.not_eq_true', Bool.or_eq_false_iff, decide_eq_false_iff_not, Bool.or_eq_true, decide_eq_true_eq] at h
    refine .inl ⟨rfl, h.1.1, List.eq_nil_of_length_eq_zero (by omega), ?_⟩
    rcases h.2 with h | h
    · omega
    · exact (begB_len h).2
  · rw [okVp_1] at h
    simp only [hpB, Bool.and_eq_true, Bool.not_eq_true', Bool.or_eq_false_iff, decide_eq_false_iff_not, decide_eq_true_eq] at h
    exact .inr (.inl ⟨rfl, h.1.1, List.eq_nil_of_length_eq_zero (by omega), List.eq_nil_of_length_eq_zero h.2⟩)
  · rw [okVp_2] at h
    simp only [argsB, okArg, Bool.and_eq_true, List.all_eq_true, decide_eq_true_eq] at h
    exact .inr (.inr ⟨.inl rfl, h.1.2, List.eq_nil_of_length_eq_zero h.2, h.1.1⟩)
  · rw [okVp_3] at h
    simp only [argsB, okArg, Bool.and_eq_true, List.all_eq_true, decide_eq_true_eq] at h
    exact .inr (.inr ⟨.inr rfl, h.1.2, List.eq_nil_of_length_eq_zero h.2, h.1.1⟩)
  · rw [okVp_no _ _ _ hn] at h; cases h
theorem rng_nil : Rng [] := fun z hz => by cases hz
theorem ok_vz : vz.ok := ⟨rfl, rng_nil⟩
theorem ok_mk {st : Int} {mk : Bool} {zs : List Int} (hs : st = 2 ∨ st = 3) (hl : zs.length ≤ 8) (hz : ∀ z ∈ zs, 0 ≤ z ∧ z ≤ 9999) : VS.ok ⟨st, mk, zs, []⟩ := by
  refine ⟨?_, rng_nil⟩
  have ha : argsB zs = true := by simp only [argsB, okArg, Bool.and_eq_true, List.all_eq_true, decide_eq_true_eq]; exact ⟨hz, hl⟩
  rcases hs with rfl | rfl
  · show okVp 2 mk zs [] = true
    rw [okVp_2, ha]; rfl
  · show okVp 3 mk zs [] = true
    rw [okVp_3, ha]; rfl
theorem digV_len (zs : List Int) (d : Int) : (digV zs d).length = if zs = [] then 1 else zs.length := by unfold digV; split <;> simp
theorem getD_mem_bd {zs : List Int} (hz : ∀ z ∈ zs, 0 ≤ z ∧ z ≤ 9999) (k : Nat) : 0 ≤ zs.getD k 0 ∧ zs.getD k 0 ≤ 9999 := by
  by_cases h : k < zs.length
  · have e : zs.getD k 0 = zs[k] := by simp [List.getD, h]
    rw [e]; exact hz _ (List.getElem_mem h)
  · have e : zs.getD k 0 = 0 := by simp [List.getD, h]
    rw [e]; omega
theorem digV_bd {zs : List Int} {d : Int} (hz : ∀ z ∈ zs, 0 ≤ z ∧ z ≤ 9999) (h0 : 0 ≤ d) (h1 : d ≤ 9) : ∀ z ∈ digV zs d, 0 ≤ z ∧ z ≤ 9999 := by
  intro z hm
  have hb := getD_mem_bd hz (zs.length - 1)
  unfold digV at hm
  split at hm
  · simp at hm; omega
  · rcases List.mem_or_eq_of_mem_set hm with h | h
    · exact hz z h
    · omega
theorem argV_bd {zs : List Int} (hz : ∀ z ∈ zs, 0 ≤ z ∧ z ≤ 9999) : ∀ z ∈ argV zs, 0 ≤ z ∧ z ≤ 9999 := by
  intro z hm
  unfold argV at hm
  rcases List.mem_append.1 hm with h | h
  · split at h
    · simp at h; omega
    · exact hz z h
  · simp at h; omega
theorem argV_len {zs : List Int} (h : zs.length ≤ 8) (h8 : ¬ zs.length = 8) : (argV zs).length ≤ 8 := by unfold argV; split <;> simp <;> omega
theorem plainV_ok {bs : List Int} {b : Int} (hg : Rng bs) (h0 : 0 ≤ b) (h1 : b ≤ 255) : (plainV bs b).1.ok := by
  unfold plainV
  split
  · exact ok_vz
  split
  · exact ok_vz
  split
  · rename_i h
    refine ⟨?_, fun z hz => ?_⟩
    · show okVp 0 false [] (bs ++ [b]) = true
      rw [okVp_0, h]; simp [hpB]
    · rcases List.mem_append.1 hz with h | h
      · exact hg z h
      · simp at h; omega
  · exact ok_vz
theorem csiV_ok {mk : Bool} {zs : List Int} {b : Int} (hl : zs.length ≤ 8) (hz : ∀ z ∈ zs, 0 ≤ z ∧ z ≤ 9999) : (csiV mk zs b).1.ok := by
  unfold csiV
  split
  · exact ok_mk (.inl rfl) hl hz
  split
  · rename_i h; exact ok_mk (.inl rfl) (by rw [digV_len]; split <;> omega) (digV_bd hz (by omega) (by omega))
  split
  · split
    · exact ok_mk (.inr rfl) hl hz
    · rename_i h; exact ok_mk (.inl rfl) (argV_len hl h) (argV_bd hz)
  split
  · exact ok_vz
  split
  · exact ok_mk (.inl rfl) hl hz
  · exact ok_mk (.inr rfl) hl hz
theorem stepV_ok {s : VS} {b : Int} (h : s.ok) (h0 : 0 ≤ b) (h1 : b ≤ 255) : (stepV s b).1.ok := by
  unfold stepV
  split
  · exact ⟨rfl, rng_nil⟩
  split
  · exact ok_vz
  split
  · exact plainV_ok h.2 h0 h1
  split
  · unfold escV
    split
    · exact ok_mk (.inl rfl) (by simp) (by simp)
    split <;> exact ok_vz
  have hp := ok_parts h
  split
  · exact csiV_ok (by omega) (by rcases hp with ⟨hs, _⟩ | ⟨hs, _⟩ | ⟨_, _, _, hz⟩ <;> first | omega | exact hz)
  · unfold skipV
    split
    · exact ok_vz
    · exact ok_mk (.inr rfl) (by omega) (by rcases hp with ⟨hs, _⟩ | ⟨hs, _⟩ | ⟨_, _, _, hz⟩ <;> first | omega | exact hz)
/-- the arguments never grow beyond nine, an act's neither -/
theorem stepV_small {s : VS} {b : Int} (h : s.ok) (h0 : 0 ≤ b) (h1 : b ≤ 255) : (stepV s b).1.zs.length ≤ 8 ∧ (stepV s b).1.bs.length ≤ 2 := by
  rcases ok_parts (stepV_ok h h0 h1) with ⟨_, _, e, l⟩ | ⟨_, _, e, l⟩ | ⟨_, l, e, _⟩
  · rw [e]; exact ⟨by simp, l⟩
  · rw [e, l]; exact ⟨by simp, by simp⟩
  · rw [e]; exact ⟨l, by simp⟩
theorem stepV_act {s : VS} {b : Int} (h : s.ok) : (stepV s b).2.zs.length ≤ 8 := by
  have hp := ok_parts h
  have hl : s.zs.length ≤ 8 := by rcases hp with ⟨_, _, e, _⟩ | ⟨_, _, e, _⟩ | ⟨_, l, _⟩ <;> first | (rw [e]; simp) | exact l
  have e0 : az.zs.length ≤ 8 := by simp [az]
  unfold stepV plainV escV csiV skipV
  repeat' split
  all_goals first | exact e0 | exact hl | simp
end Go.Proofs.YtfdbmhelcmifoaaDoor.Vp
