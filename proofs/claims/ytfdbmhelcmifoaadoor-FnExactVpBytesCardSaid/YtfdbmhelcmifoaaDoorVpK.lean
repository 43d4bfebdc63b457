/- The program's parser: the model's step within a sequence. -/
import Derived.Test.YtfdbmhelcmifoaaDoorVpJ
import Derived.Deep.RegionWith
import Derived.Deep.DrawnRows
namespace Go.Proofs.YtfdbmhelcmifoaaDoor.Vp
open Go.RowKit Go.Proofs.YtfdbmhelcmifoaaDoor.Bytes Go.Proofs.YtfdbmhelcmifoaaDoor.DOk Go.Proofs.YtfdbmhelcmifoaaDoor.Rune Go.Proofs.YtfdbmhelcmifoaaDoor.RowK Go.Proofs.YtfdbmhelcmifoaaDoor.Gr
set_option linter.unusedVariables false
attribute [local go_sem ↓] Go.wp_at_zero Go.wp_at_succ
theorem plain_any (P : Option Addr) (np cp : Nat) (bs : List Int) (b : Int) (w : World) (hp : Rd w w.heap.size P bs) (hP : P = none → np = 0 ∧ cp = 0) (hg : Rng bs) (hpl : bs.length = np) (hpn : np ≤ 100) (h0 : 0 ≤ b) (h1 : b ≤ 255) :
    Calls Tryd.prog 39 #[.slice P np cp, .int .i64 b] w (AnsVB w (plainV bs b)) := by
  by_cases hc : b < 32 ∨ b = 127
  · have e : plainV bs b = (vz, ⟨2, b, false, []⟩) := by unfold plainV; rw [if_pos hc]
    rw [e]; exact plain_ctl P np cp bs b w hc
  by_cases hd : b < 127
  · have e : plainV bs b = (vz, ⟨1, b, false, []⟩) := by unfold plainV; rw [if_neg hc, if_pos hd]
    rw [e]; exact plain_rune P np cp bs b w (by omega) hd
  have hgn : Rng (bs ++ [b]) := fun z hz => (List.mem_append.1 hz).elim (hg z) (fun h => by simp at h; omega)
  by_cases hrd : (rdV (bs ++ [b]) 0).2 = ((bs ++ [b]).length : Int)
  · have hb : begB (bs ++ [b]) = false := by
      cases h : begB (bs ++ [b]) with
      | false => rfl
      | true => exact absurd hrd (begB_rd hgn h)
    have e : plainV bs b = (vz, ⟨1, (rdV (bs ++ [b]) 0).1, false, []⟩) := by unfold plainV runeV; rw [if_neg hc, if_neg hd, hb, if_pos hrd]; rfl
    rw [e]; exact plain_eq P np cp bs b w hp hP hg hpl hpn (by omega) h1 hrd _ rfl
  have hk : ((rdV (bs ++ [b]) 0).2 == ((np + 1 : Nat) : Int)) = false := by
    have hl : (bs ++ [b]).length = np + 1 := by simp [hpl]
    rw [hl] at hrd; simpa using hrd
  cases hb : begB (bs ++ [b]) with
  | true =>
    have e : plainV bs b = (⟨0, false, [], bs ++ [b]⟩, az) := by unfold plainV; rw [if_neg hc, if_neg hd, hb]; rfl
    rw [e]; exact plain_beg P np cp bs b w hp hP hg hpl hpn (by omega) h1 _ _ rfl rfl hk hb
  | false =>
    have e : plainV bs b = (vz, ⟨1, 65533, false, []⟩) := by unfold plainV runeV; rw [if_neg hc, if_neg hd, hb, if_neg hrd]; rfl
    rw [e]; exact plain_bad P np cp bs b w hp hP hg hpl hpn (by omega) h1 _ _ rfl rfl hk hb
/-- what the model's step within a sequence answers; it may write into the arguments that it was given -/
def AnsC (w : World) (base : Nat) (A : Option Addr) (na ca : Nat) (r : VS × AS) (e : Ending) (w' : World) : Prop :=
  ∃ A' na' ca' P' np' cp' A2 n2 c2, e = .returned (.tuple #[.agg #[.int .i64 r.1.st, .bool r.1.q, .slice A' na' ca', .slice P' np' cp'], .agg #[.int .i64 r.2.k, .int .i64 r.2.r, .bool r.2.q, .slice A2 n2 c2]]) ∧
    OwnI w' base A' na' ca' r.1.zs ∧ Own w' base P' np' cp' r.1.bs ∧ OwnI w' base A2 n2 c2 r.2.zs ∧ (A2 = none ∨ A' = none) ∧ Only (fun i => Blk A na ca i) w w'
theorem ansC_same {w : World} {base : Nat} {A : Option Addr} {na ca : Nat} {P : Option Addr} {np cp : Nat} {zs bs : List Int} (hI : OwnI w base A na ca zs) (hP : Own w base P np cp bs) (o1 o2 o3 : Obj) (st k r : Int) (q q' : Bool) :
    AnsC w base A na ca (⟨st, q, zs, bs⟩, ⟨k, r, q', []⟩) (.returned (.tuple #[.agg #[.int .i64 st, .bool q, .slice A na ca, .slice P np cp], .agg #[.int .i64 k, .int .i64 r, .bool q', .slice none 0 0]])) (((w.alloc o1).alloc o2).alloc o3) :=
  ⟨A, na, ca, P, np, cp, none, 0, 0, rfl, ((hI.alloc _).alloc _).alloc _, World.ownsRow.alloc (World.ownsRow.alloc (World.ownsRow.alloc hP _) _) _, ownI_nil _ _, .inl rfl, ((alloc_only _ _).trans (alloc_only _ _)).trans (alloc_only _ _)⟩
theorem ansC_done {w : World} {base : Nat} {A : Option Addr} {na ca : Nat} {zs : List Int} (hI : OwnI w base A na ca zs) (o1 o2 o3 : Obj) (k r : Int) (q' : Bool) :
    AnsC w base A na ca (vz, ⟨k, r, q', zs⟩) (.returned (.tuple #[.agg #[.int .i64 0, .bool false, .slice none 0 0, .slice none 0 0], .agg #[.int .i64 k, .int .i64 r, .bool q', .slice A na ca]])) (((w.alloc o1).alloc o2).alloc o3).drew :=
  ⟨none, 0, 0, none, 0, 0, A, na, ca, rfl, ownI_nil _ _, own_nil _ _, own_drew_ (((hI.alloc _).alloc _).alloc _), .inr rfl, (((alloc_only _ _).trans (alloc_only _ _)).trans (alloc_only _ _)).trans (drew_only _)⟩
set_option maxRecDepth 100000 in
set_option maxHeartbeats 1600000 in
theorem csi_mark (base : Nat) (q : Bool) (A : Option Addr) (na ca : Nat) (zs bs : List Int) (Q : Option Addr) (np cp : Nat) (b : Int) (w : World) (hI : OwnI w base A na ca zs) (hQ : Own w base Q np cp bs) (hb : base ≤ w.heap.size) (hb63 : b = 63) (hq : q = false) (hna : na = 0) :
    Calls Tryd.prog 40 #[.agg #[.int .i64 2, .bool q, .slice A na ca, .slice Q np cp], .int .i64 b] w (AnsC w base A na ca (⟨2, true, zs, bs⟩, az)) := by
  have HI := Lib.hid hI
  have HQ := Lib.hid hQ
  subst hb63 hq hna
  clear hI hQ 
  go_enter Tryd.func40, Tryd.ntmps40
  go_wp2_with fail
  refine bodyPost_ret (v := .tuple #[.agg #[.int .i64 2, .bool true, .slice A 0 ca, .slice Q np cp], .agg #[.int .i64 0, .int .i64 0, .bool false, .slice none 0 0]]) (by simp [results, Tryd.results40, go_sem]) rfl ?_
  exact ansC_same HI.out HQ.out _ _ _ 2 0 0 true false
set_option maxRecDepth 100000 in
set_option maxHeartbeats 1600000 in
theorem csi_mark2a (base : Nat) (q : Bool) (A : Option Addr) (na ca : Nat) (zs bs : List Int) (Q : Option Addr) (np cp : Nat) (b : Int) (w : World) (hI : OwnI w base A na ca zs) (hQ : Own w base Q np cp bs) (hb : base ≤ w.heap.size) (hb63 : b = 63) (hna : ¬ na = 0) :
    Calls Tryd.prog 40 #[.agg #[.int .i64 2, .bool q, .slice A na ca, .slice Q np cp], .int .i64 b] w (AnsC w base A na ca (⟨3, q, zs, bs⟩, az)) := by
  have HI := Lib.hid hI
  have HQ := Lib.hid hQ
  subst hb63
  have ne : ((na : Int) == 0) = false := by simp; omega
  clear hI hQ 
  go_enter Tryd.func40, Tryd.ntmps40
  go_wp2_with fail
  refine bodyPost_ret (v := .tuple #[.agg #[.int .i64 3, .bool q, .slice A na ca, .slice Q np cp], .agg #[.int .i64 0, .int .i64 0, .bool false, .slice none 0 0]]) (by simp [results, Tryd.results40, go_sem]) rfl ?_
  exact ansC_same HI.out HQ.out _ _ _ 3 0 0 q false
set_option maxRecDepth 100000 in
set_option maxHeartbeats 1600000 in
theorem csi_mark2b (base : Nat) (q : Bool) (A : Option Addr) (na ca : Nat) (zs bs : List Int) (Q : Option Addr) (np cp : Nat) (b : Int) (w : World) (hI : OwnI w base A na ca zs) (hQ : Own w base Q np cp bs) (hb : base ≤ w.heap.size) (hb63 : b = 63) (hna : na = 0) (hq : q = true) :
    Calls Tryd.prog 40 #[.agg #[.int .i64 2, .bool q, .slice A na ca, .slice Q np cp], .int .i64 b] w (AnsC w base A na ca (⟨3, true, zs, bs⟩, az)) := by
  have HI := Lib.hid hI
  have HQ := Lib.hid hQ
  subst hb63 hq hna
  clear hI hQ 
  go_enter Tryd.func40, Tryd.ntmps40
  go_wp2_with fail
  refine bodyPost_ret (v := .tuple #[.agg #[.int .i64 3, .bool true, .slice A 0 ca, .slice Q np cp], .agg #[.int .i64 0, .int .i64 0, .bool false, .slice none 0 0]]) (by simp [results, Tryd.results40, go_sem]) rfl ?_
  exact ansC_same HI.out HQ.out _ _ _ 3 0 0 true false
set_option maxRecDepth 100000 in
set_option maxHeartbeats 1600000 in
theorem csi_sep8 (base : Nat) (q : Bool) (A : Option Addr) (na ca : Nat) (zs bs : List Int) (Q : Option Addr) (np cp : Nat) (b : Int) (w : World) (hI : OwnI w base A na ca zs) (hQ : Own w base Q np cp bs) (hb : base ≤ w.heap.size) (hb59 : b = 59) (h8 : na = 8) :
    Calls Tryd.prog 40 #[.agg #[.int .i64 2, .bool q, .slice A na ca, .slice Q np cp], .int .i64 b] w (AnsC w base A na ca (⟨3, q, zs, bs⟩, az)) := by
  have HI := Lib.hid hI
  have HQ := Lib.hid hQ
  subst hb59 h8
  clear hI hQ 
  go_enter Tryd.func40, Tryd.ntmps40
  go_wp2_with fail
  refine bodyPost_ret (v := .tuple #[.agg #[.int .i64 3, .bool q, .slice A 8 ca, .slice Q np cp], .agg #[.int .i64 0, .int .i64 0, .bool false, .slice none 0 0]]) (by simp [results, Tryd.results40, go_sem]) rfl ?_
  exact ansC_same HI.out HQ.out _ _ _ 3 0 0 q false
set_option maxRecDepth 100000 in
set_option maxHeartbeats 1600000 in
theorem csi_ctl1 (base : Nat) (q : Bool) (A : Option Addr) (na ca : Nat) (zs bs : List Int) (Q : Option Addr) (np cp : Nat) (b : Int) (w : World) (hI : OwnI w base A na ca zs) (hQ : Own w base Q np cp bs) (hb : base ≤ w.heap.size) (hc : b < 32) :
    Calls Tryd.prog 40 #[.agg #[.int .i64 2, .bool q, .slice A na ca, .slice Q np cp], .int .i64 b] w (AnsC w base A na ca (⟨2, q, zs, bs⟩, ⟨2, b, false, []⟩)) := by
  have HI := Lib.hid hI
  have HQ := Lib.hid hQ
  have n63 : (b == 63) = false := by simp; omega
  have n59 : (b == 59) = false := by simp; omega
  have n127 : (b == 127) = false := by simp; omega
  have l48 : ¬ 48 ≤ b := by omega
  have l64 : ¬ 64 ≤ b := by omega
  clear hI hQ 
  go_enter Tryd.func40, Tryd.ntmps40
  go_wp2_with fail
  refine bodyPost_ret (v := .tuple #[.agg #[.int .i64 2, .bool q, .slice A na ca, .slice Q np cp], .agg #[.int .i64 2, .int .i64 b, .bool false, .slice none 0 0]]) (by simp [results, Tryd.results40, go_sem]) rfl ?_
  exact ansC_same HI.out HQ.out _ _ _ 2 2 b q false
set_option maxRecDepth 100000 in
set_option maxHeartbeats 1600000 in
theorem csi_ctl2 (base : Nat) (q : Bool) (A : Option Addr) (na ca : Nat) (zs bs : List Int) (Q : Option Addr) (np cp : Nat) (b : Int) (w : World) (hI : OwnI w base A na ca zs) (hQ : Own w base Q np cp bs) (hb : base ≤ w.heap.size) (hc : b = 127) :
    Calls Tryd.prog 40 #[.agg #[.int .i64 2, .bool q, .slice A na ca, .slice Q np cp], .int .i64 b] w (AnsC w base A na ca (⟨2, q, zs, bs⟩, ⟨2, 127, false, []⟩)) := by
  have HI := Lib.hid hI
  have HQ := Lib.hid hQ
  subst hc
  clear hI hQ 
  go_enter Tryd.func40, Tryd.ntmps40
  go_wp2_with fail
  refine bodyPost_ret (v := .tuple #[.agg #[.int .i64 2, .bool q, .slice A na ca, .slice Q np cp], .agg #[.int .i64 2, .int .i64 127, .bool false, .slice none 0 0]]) (by simp [results, Tryd.results40, go_sem]) rfl ?_
  exact ansC_same HI.out HQ.out _ _ _ 2 2 127 q false
set_option maxRecDepth 100000 in
set_option maxHeartbeats 1600000 in
theorem csi_skip1 (base : Nat) (q : Bool) (A : Option Addr) (na ca : Nat) (zs bs : List Int) (Q : Option Addr) (np cp : Nat) (b : Int) (w : World) (hI : OwnI w base A na ca zs) (hQ : Own w base Q np cp bs) (hb : base ≤ w.heap.size) (hl : 32 ≤ b) (hu : b < 48) :
    Calls Tryd.prog 40 #[.agg #[.int .i64 2, .bool q, .slice A na ca, .slice Q np cp], .int .i64 b] w (AnsC w base A na ca (⟨3, q, zs, bs⟩, az)) := by
  have HI := Lib.hid hI
  have HQ := Lib.hid hQ
  have n63 : (b == 63) = false := by simp; omega
  have n59 : (b == 59) = false := by simp; omega
  have n127 : (b == 127) = false := by simp; omega
  have l48 : ¬ 48 ≤ b := by omega
  have l64 : ¬ 64 ≤ b := by omega
  have l32 : ¬ b < 32 := by omega
  clear hI hQ hl hu
  go_enter Tryd.func40, Tryd.ntmps40
  go_wp2_with fail
  refine bodyPost_ret (v := .tuple #[.agg #[.int .i64 3, .bool q, .slice A na ca, .slice Q np cp], .agg #[.int .i64 0, .int .i64 0, .bool false, .slice none 0 0]]) (by simp [results, Tryd.results40, go_sem]) rfl ?_
  exact ansC_same HI.out HQ.out _ _ _ 3 0 0 q false
set_option maxRecDepth 100000 in
set_option maxHeartbeats 1600000 in
theorem csi_skip2 (base : Nat) (q : Bool) (A : Option Addr) (na ca : Nat) (zs bs : List Int) (Q : Option Addr) (np cp : Nat) (b : Int) (w : World) (hI : OwnI w base A na ca zs) (hQ : Own w base Q np cp bs) (hb : base ≤ w.heap.size) (hl : 57 < b) (hu : b < 64) (hn63 : b ≠ 63) (hn59 : b ≠ 59) :
    Calls Tryd.prog 40 #[.agg #[.int .i64 2, .bool q, .slice A na ca, .slice Q np cp], .int .i64 b] w (AnsC w base A na ca (⟨3, q, zs, bs⟩, az)) := by
  have HI := Lib.hid hI
  have HQ := Lib.hid hQ
  have n63 : (b == 63) = false := by simp; omega
  have n59 : (b == 59) = false := by simp; omega
  have n127 : (b == 127) = false := by simp; omega
  have g48 : 48 ≤ b := by omega
  have l57 : decide (b ≤ 57) = false := by simp; omega
  have l64 : ¬ 64 ≤ b := by omega
  have l32 : ¬ b < 32 := by omega
  clear hI hQ hl hu hn63 hn59
  go_enter Tryd.func40, Tryd.ntmps40
  go_wp2_with fail
  refine bodyPost_ret (v := .tuple #[.agg #[.int .i64 3, .bool q, .slice A na ca, .slice Q np cp], .agg #[.int .i64 0, .int .i64 0, .bool false, .slice none 0 0]]) (by simp [results, Tryd.results40, go_sem]) rfl ?_
  exact ansC_same HI.out HQ.out _ _ _ 3 0 0 q false
set_option maxRecDepth 100000 in
set_option maxHeartbeats 1600000 in
theorem csi_skip3 (base : Nat) (q : Bool) (A : Option Addr) (na ca : Nat) (zs bs : List Int) (Q : Option Addr) (np cp : Nat) (b : Int) (w : World) (hI : OwnI w base A na ca zs) (hQ : Own w base Q np cp bs) (hb : base ≤ w.heap.size) (hl : 127 < b) :
    Calls Tryd.prog 40 #[.agg #[.int .i64 2, .bool q, .slice A na ca, .slice Q np cp], .int .i64 b] w (AnsC w base A na ca (⟨3, q, zs, bs⟩, az)) := by
  have HI := Lib.hid hI
  have HQ := Lib.hid hQ
  have n63 : (b == 63) = false := by simp; omega
  have n59 : (b == 59) = false := by simp; omega
  have n127 : (b == 127) = false := by simp; omega
  have g48 : 48 ≤ b := by omega
  have g64 : 64 ≤ b := by omega
  have l57 : decide (b ≤ 57) = false := by simp; omega
  have l64 : decide (b ≤ 126) = false := by simp; omega
  have l32 : ¬ b < 32 := by omega
  clear hI hQ hl
  go_enter Tryd.func40, Tryd.ntmps40
  go_wp2_with fail
  refine bodyPost_ret (v := .tuple #[.agg #[.int .i64 3, .bool q, .slice A na ca, .slice Q np cp], .agg #[.int .i64 0, .int .i64 0, .bool false, .slice none 0 0]]) (by simp [results, Tryd.results40, go_sem]) rfl ?_
  exact ansC_same HI.out HQ.out _ _ _ 3 0 0 q false
set_option maxRecDepth 100000 in
set_option maxHeartbeats 1600000 in
theorem csi_end (base : Nat) (q : Bool) (A : Option Addr) (na ca : Nat) (zs bs : List Int) (Q : Option Addr) (np cp : Nat) (b : Int) (w : World) (hI : OwnI w base A na ca zs) (hQ : Own w base Q np cp bs) (hb : base ≤ w.heap.size) (hl : 64 ≤ b) (hu : b ≤ 126) :
    Calls Tryd.prog 40 #[.agg #[.int .i64 2, .bool q, .slice A na ca, .slice Q np cp], .int .i64 b] w (AnsC w base A na ca (vz, ⟨4, b, q, zs⟩)) := by
  have HI := Lib.hid hI
  have HQ := Lib.hid hQ
  have n63 : (b == 63) = false := by simp; omega
  have n59 : (b == 59) = false := by simp; omega
  have l57 : decide (b ≤ 57) = false := by simp; omega
  clear hI hQ
  go_enter Tryd.func40, Tryd.ntmps40
  go_wp2_with fail
  go_region
  all_goals
    go_wp2_with fail
    refine bodyPost_ret (v := .tuple #[.agg #[.int .i64 0, .bool false, .slice none 0 0, .slice none 0 0], .agg #[.int .i64 4, .int .i64 b, .bool q, .slice A na ca]]) (by simp [results, Tryd.results40, go_sem]) rfl ?_
    exact ansC_done HI.out _ _ _ 4 b q
end Go.Proofs.YtfdbmhelcmifoaaDoor.Vp
