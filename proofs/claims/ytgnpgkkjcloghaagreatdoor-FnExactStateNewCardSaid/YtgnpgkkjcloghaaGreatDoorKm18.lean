/- Texts that lay in modules of their own: MadeC, WordOkC, SoD. -/
import Derived.Test.YtgnpgkkjcloghaaGreatDoorRows
import Derived.WalkKit
import Derived.ProofKit
import Derived.ShutString
import Derived.Shelf.Abstract
import Derived.Lib.Hide
import Derived.OpenShut
import Derived.Test.YtgnpgkkjcloghaaGreatDoorKm13
import Derived.Test.YtgnpgkkjcloghaaGreatDoorKm17
namespace Go.Proofs.YtgnpgkkjcloghaaGreatDoor.Made
open Go.RowKit
set_option linter.unusedVariables false

/-- the string has 1 to m bytes, each of which fits -/
def madeB (p : Int → Bool) (m : Nat) (l : List UInt8) : Bool := decide (1 ≤ l.length) && decide (l.length ≤ m) && l.all fun c => p (c.toNat : Int)
def wb (n : Int) : Bool := (decide (97 ≤ n) && decide (n ≤ 122)) || (decide (48 ≤ n) && decide (n ≤ 57))
theorem ret_bool {a b : Bool} (h : a = b) : Ending.returned (.bool a) = .returned (.bool b) := by rw [h]
theorem take_snoc (s : ByteArray) (k : Nat) (h : k < s.size) : s.data.toList.take (k + 1) = s.data.toList.take k ++ [s[k]] := by
  rw [List.take_succ_eq_append_getElem (by simpa using h)]; rfl
theorem all_snoc (p : Int → Bool) (s : ByteArray) (k : Nat) (h : k < s.size) (a : ((s.data.toList.take k).all fun c => p (c.toNat : Int)) = true) (b : p (s[k].toNat : Int) = true) :
    ((s.data.toList.take (k + 1)).all fun c => p (c.toNat : Int)) = true := by
  rw [take_snoc s k h, List.all_append, a]; simp [b]
theorem made_no (p : Int → Bool) (m : Nat) (s : ByteArray) (k : Nat) (h : k < s.size) (b : p (s[k].toNat : Int) = false) : madeB p m s.data.toList = false := by
  have : (s.data.toList.all fun c => p (c.toNat : Int)) = false := by
    rw [List.all_eq_false]
    exact ⟨s[k], by simp [ByteArray.getElem_eq_getElem_data], by simp [b]⟩
  unfold madeB; rw [this]; simp
theorem made_len (p : Int → Bool) (m : Nat) (s : ByteArray) (h : s.size < 1 ∨ m < s.size) : madeB p m s.data.toList = false := by
  have e : s.data.toList.length = s.size := by simp
  unfold madeB; rw [e]; rcases h with h | h
  · rw [decide_eq_false (by omega : ¬ 1 ≤ s.size)]; rfl
  · rw [decide_eq_false (by omega : ¬ s.size ≤ m)]; simp
theorem made_all (p : Int → Bool) (m : Nat) (s : ByteArray) (k : Nat) (hk : k = s.size) (a : ((s.data.toList.take k).all fun c => p (c.toNat : Int)) = true) :
    madeB p m s.data.toList = (decide (1 ≤ s.size) && decide (s.size ≤ m)) := by
  have e : s.data.toList.length = s.size := by simp
  rw [List.take_of_length_le (by simp; omega)] at a
  unfold madeB; rw [e, a]; simp
theorem all_zero (p : Int → Bool) (s : ByteArray) : ((s.data.toList.take 0).all fun c => p (c.toNat : Int)) = true := by simp
theorem wb_t {n : Int} (h : (97 ≤ n ∧ n ≤ 122) ∨ (48 ≤ n ∧ n ≤ 57)) : wb n = true := by unfold wb; simp; omega
theorem wb_f {n : Int} (h : ¬ ((97 ≤ n ∧ n ≤ 122) ∨ (48 ≤ n ∧ n ≤ 57))) : wb n = false := by
  unfold wb; rw [Bool.eq_false_iff]; intro e; apply h; simp at e; omega

set_option maxRecDepth 100000 in
set_option maxHeartbeats 400000 in
theorem isWordByte_any (n : Int) (w : World) (h0 : 0 ≤ n) (h1 : n < 256) :
    Calls Tryz.prog 112 #[.int .u8 n] w fun e w' => e = .returned (.bool (wb n)) ∧ w = w' := by
  go_enter Tryz.func112, Tryz.ntmps112
  go_wp2
  all_goals
    go_ret
    exact ⟨ret_bool (by unfold wb; rw [Bool.eq_iff_iff]; simp; omega), rfl⟩

theorem isMadeOf_any (g : Nat) (eg : ∀ args w, (callFunc g args).run Tryz.prog w = .ok (.enter g args) w) (p : Int → Bool)
    (hp : ∀ (n : Int) (W : World), 0 ≤ n → n < 256 → Calls Tryz.prog g #[.int .u8 n] W fun e w' => e = .returned (.bool (p n)) ∧ W = w')
    (s : ByteArray) (m : Nat) (w : World) (hs : s.size ≤ maxLen) (hm : m ≤ 1000) :
    Calls Tryz.prog 111 #[.string s, .int .i64 m, .func (.func g) #[] #[]] w fun e w' => e = .returned (.bool (madeB p m s.data.toList)) ∧ w = w' := by
  unfold maxLen at hs
  have HP := Lib.hid hp
  clear hp
  by_cases hl : s.size < 1 ∨ m < s.size
  · have HN := Lib.hid (made_len p m s hl)
    go_enter Tryz.func111, Tryz.ntmps111
    go_wp2_with fail
    all_goals
      first
        | (exfalso; omega)
        | (go_ret; exact ⟨ret_bool HN.out.symm, rfl⟩)
  · have h1 : 1 ≤ s.size := by omega
    have h2 : s.size ≤ m := by omega
    have hd0 : decide ((s.size : Int) < 1) = false := by simp; omega
    have hd1 : decide (m < s.size) = false := by simp; omega
    clear hl
    go_enter Tryz.func111, Tryz.ntmps111
    go_wp2_with fail
    go_loop [19] (fun i => ∃ k : Nat, k ≤ s.size ∧ i = .int .i64 k ∧ Hid (((s.data.toList.take k).all fun c => p (c.toNat : Int)) = true)) (fun i => s.size - (intOf i).toNat)
    case atStart => exact ⟨0, Nat.zero_le _, rfl, Lib.hid (all_zero p s)⟩
    case round =>
      obtain ⟨k, hk, rfl, HA⟩ := hrel
      by_cases hlt : k < s.size
      · have hb0 : (0 : Int) ≤ (s[k].toNat : Int) := by omega
        have hb1 : (s[k].toNat : Int) < 256 := by have := s[k].toNat_lt; omega
        cases hr : p (s[k].toNat : Int) <;> have HR := Lib.hid hr <;> clear hr
        · have HN := Lib.hid (made_no p m s k hlt HR.out)
          go_wp2_with fail
          refine (HP.out _ _ hb0 hb1).mono ?_
          rintro e w' ⟨rfl, rfl⟩
          rw [HR.out]
          go_wp2_with fail
          go_ret
          exact ⟨ret_bool HN.out.symm, rfl⟩
        · have HS := Lib.hid (all_snoc p s k hlt HA.out HR.out)
          go_wp2_with fail
          refine (HP.out _ _ hb0 hb1).mono ?_
          rintro e w' ⟨rfl, rfl⟩
          rw [HR.out]
          go_wp2_with fail
          exact ⟨⟨k + 1, by omega, by go_num, HS⟩, by simp [intOf]; omega⟩
      · obtain rfl : s.size = k := by omega
        have HE := Lib.hid (made_all p m s _ rfl HA.out)
        go_wp2_with fail
        go_ret
        exact ⟨ret_bool (by rw [HE.out, Bool.eq_iff_iff]; simp; omega), rfl⟩

theorem eWord : ∀ args w, (callFunc 112 args).run Tryz.prog w = .ok (.enter 112 args) w := enters_of Tryz.func112 (by kernel_rfl) rfl
end Go.Proofs.YtgnpgkkjcloghaaGreatDoor.Made
namespace Go.Proofs.YtgnpgkkjcloghaaGreatDoor.fnExactWordOk
open Go.ChangeShapes Go.WideShapes Go.ChangeAt Go.RowKit
open Go.ChangeMaps (open_string shut_string)
open Go.Proofs.YtgnpgkkjcloghaaGreatDoor.Made
set_option linter.unusedVariables false

theorem own : ownKnob Tryz.prog.godebug = none := by kernel_rfl

set_option maxRecDepth 100000 in
set_option maxHeartbeats 800000 in
theorem spec_any (s : ByteArray) (w : World) (hs : s.size ≤ maxLen) :
    Calls Tryz.prog 46 #[.string s] w fun e w' => e = .returned (.bool (madeB wb 12 s.data.toList)) ∧ w = w' := by
  unfold maxLen at hs
  go_enter Tryz.func46, Tryz.ntmps46
  go_wp2
  go_loop [3] (fun i => ∃ k : Nat, k ≤ s.size ∧ i = .int .i64 k ∧ Hid (((s.data.toList.take k).all fun c => wb (c.toNat : Int)) = true)) (fun i => s.size - (intOf i).toNat)
  case atStart => exact ⟨0, Nat.zero_le _, rfl, Lib.hid (all_zero wb s)⟩
  case round =>
    obtain ⟨k, hk, rfl, HA⟩ := hrel
    by_cases hlt : k < s.size
    · have hb0 : (0 : Int) ≤ (s[k].toNat : Int) := by omega
      have hb1 : (s[k].toNat : Int) < 256 := by have := s[k].toNat_lt; omega
      by_cases hr : (97 ≤ (s[k].toNat : Int) ∧ (s[k].toNat : Int) ≤ 122) ∨ (48 ≤ (s[k].toNat : Int) ∧ (s[k].toNat : Int) ≤ 57)
      · have HS := Lib.hid (all_snoc wb s k hlt HA.out (wb_t hr))
        go_wp2
        all_goals exact ⟨⟨k + 1, by omega, by go_num, HS⟩, by simp [intOf]; omega⟩
      · have HN := Lib.hid (made_no wb 12 s k hlt (wb_f hr))
        go_wp2
        all_goals
          go_ret
          exact ⟨ret_bool HN.out.symm, rfl⟩
    · obtain rfl : s.size = k := by omega
      have HE := Lib.hid (made_all wb 12 s _ rfl HA.out)
      go_wp2
      all_goals
        go_ret
        exact ⟨ret_bool (by rw [HE.out, Bool.eq_iff_iff]; simp; omega), rfl⟩

set_option maxRecDepth 100000 in
set_option maxHeartbeats 800000 in
theorem impl_any (s : ByteArray) (w : World) (hs : s.size ≤ maxLen) :
    Calls Tryz.prog 66 #[.string s] w fun e w' => e = .returned (.bool (madeB wb 12 s.data.toList)) ∧ w = w' := by
  have hc := isMadeOf_any 112 eWord wb isWordByte_any s 12 w hs (by omega)
  have HC := Lib.hid hc
  clear hc
  go_enter Tryz.func66, Tryz.ntmps66
  go_wp2_with fail
  refine HC.out.mono ?_
  rintro e w' ⟨rfl, rfl⟩
  go_wp2_with fail
  go_ret
  exact ⟨rfl, rfl⟩

end Go.Proofs.YtgnpgkkjcloghaaGreatDoor.fnExactWordOk
namespace Go.Proofs.YtgnpgkkjcloghaaGreatDoor.St
open Go.RowKit Go.Proofs.YtgnpgkkjcloghaaGreatDoor.Bytes Go.Proofs.YtgnpgkkjcloghaaGreatDoor.Rows_ Go.Proofs.YtgnpgkkjcloghaaGreatDoor.RowK Go.Proofs.YtgnpgkkjcloghaaGreatDoor.Gr Go.Proofs.YtgnpgkkjcloghaaGreatDoor.DOk Go.Proofs.YtgnpgkkjcloghaaGreatDoor.Opq Go.Proofs.YtgnpgkkjcloghaaGreatDoor.Sc
set_option linter.unusedVariables false
/-! ### the parts -/
def paneIds (d : StD) : List Int := d.panes.map (·.id)
def winIds (d : StD) : List Int := d.wins.map (·.id)
def leafIds (ws : List WinD) : List Int := (ws.map (fun x => Tr.leavesD x.tree)).flatten
def memIds (es : List SessD) : List Int := (es.map (·.wins)).flatten
def pidsD (ps : List PaneD) : List Int := (ps.filter (fun p => p.life == 1)).map (·.pid)
def boundsB (d : StD) : Bool := sizeB d.w d.h && okL d.lim && idB d.next && decide (d.panes.length ≤ 24) && decide (d.wins.length ≤ 12) && decide (d.sess.length ≤ 8)
def stateIdsB (d : StD) : Bool := Sc.okT 0 d.next (paneIds d) && Sc.okT 0 d.next (winIds d) && decide (paneIds d ++ winIds d).Nodup
noncomputable def panesB (d : StD) : Bool := d.panes.all okPd && decide (pidsD d.panes).Nodup
def winB (d : StD) (x : WinD) : Bool := (Tr.pofD (Tr.listD x.tree d.w d.h) x.active).isSome && Made.madeB Made.wb 12 x.name.data.toList
def winsB (d : StD) : Bool := d.wins.all (winB d)
def sess1 (x : SessD) : Bool := Made.madeB Made.wb 12 x.name.data.toList && hasI x.wins x.active
def sessB (d : StD) : Bool := d.sess.all sess1 && decide (d.sess.map (·.name)).Nodup
def entKeys (ps ws : List Int) : List (Bool × Int) := ps.map (fun z => (false, z)) ++ ws.map (fun z => (true, z))
def eachP (d : StD) : Prop := (entKeys (leafIds d.wins) (memIds d.sess)).Nodup ∧ (∀ e ∈ entKeys (leafIds d.wins) (memIds d.sess), e ∈ entKeys (paneIds d) (winIds d)) ∧ ∀ e ∈ entKeys (paneIds d) (winIds d), e ∈ entKeys (leafIds d.wins) (memIds d.sess)
open Classical in
noncomputable def eachB (d : StD) : Bool := decide (eachP d)
noncomputable def fit1 (d : StD) (p : PaneD) : Bool := decide (p.t.s.w = (areaD d p.id).1 ∧ p.t.s.h = (areaD d p.id).2 ∧ p.t.s.lim = d.lim)
noncomputable def fitB (d : StD) : Bool := d.panes.all (fit1 d)
noncomputable def okStD (d : StD) : Bool := boundsB d && stateIdsB d && panesB d && winsB d && sessB d && eachB d && fitB d
/-! ### the model's parts -/
def mSes (d : StD) (i : Nat) (x : SessD) : Prop := Made.madeB Made.wb 12 x.name.data.toList = true ∧ idx (fun y => y.name.toList == x.name.toList) d.sess = (i : Int) ∧ hasI x.wins x.active = true
def mSess (d : StD) : Prop := (∀ i (h : i < d.sess.length), mSes d i d.sess[i]) ∧ (∀ i (h : i < (memIds d.sess).length), hasI ((memIds d.sess).take i) (memIds d.sess)[i] = false ∧ 0 ≤ idx (fun p => p.id == (memIds d.sess)[i]) d.wins) ∧ (memIds d.sess).length = d.wins.length
/-! ### they are one -/
theorem asc_iff {nx : Int} : ∀ (l : List Int) (lo : Int), Sc.okT lo nx l = true ↔ (∀ i (h : i < l.length), lo < l[i] ∧ l[i] < nx ∧ ∀ j (hj : j < l.length), j + 1 = i → l[j] < l[i])
  | [], lo => by simp [Sc.okT]
  | x :: r, lo => by
    unfold Sc.okT
    rw [Bool.and_eq_true, decide_eq_true_eq, asc_iff r x]
    constructor
    · rintro ⟨⟨h1, h2⟩, h3⟩ i hi
      have hlow : ∀ i (h : i < r.length), x < r[i] := fun i h => (h3 i h).1
      cases i with
      | zero => exact ⟨h1, h2, fun j hj e => by omega⟩
      | succ i =>
        have hi' : i < r.length := by simpa using hi
        obtain ⟨a, b, c⟩ := h3 i hi'
        refine ⟨by have := hlow i hi'; simp only [List.getElem_cons_succ]; omega, by simpa using b, fun j hj e => ?_⟩
        obtain rfl : j = i := by omega
        cases j with
        | zero => simpa using a
        | succ j => simpa using c j (by omega) rfl
    · intro h
      have h0 := h 0 (by simp)
      refine ⟨⟨h0.1, h0.2.1⟩, fun i hi => ?_⟩
      have hs := h (i + 1) (by simpa using hi)
      simp only [List.getElem_cons_succ] at hs
      have hmono : x < r[i] := by
        have : ∀ k (hk : k < r.length), x < r[k] := by
          intro k
          induction k with
          | zero => intro hk; have := (h 1 (by simpa using hk)).2.2 0 (by simp) rfl; simpa using this
          | succ k ih =>
            intro hk
            have h1 := ih (by omega)
            have h2 := (h (k + 2) (by simp only [List.length_cons]; omega)).2.2 (k + 1) (by simp only [List.length_cons]; omega) rfl
            simp only [List.getElem_cons_succ] at h2; omega
        exact this i hi
      refine ⟨hmono, hs.2.1, fun j hj e => ?_⟩
      have := hs.2.2 (j + 1) (by simpa using hj) (by omega)
      simpa using this
theorem idB_iff (x : Int) : idB x = true ↔ 1 ≤ x ∧ x ≤ 1000000 := by unfold idB; rw [decide_eq_true_eq]
theorem okPd_pid {p : PaneD} (h : okPd p = true) (hl : p.life = 1) : 1 ≤ p.pid ∧ p.pid ≤ 1000000 := by
  unfold okPd lifeB at h
  simp only [Bool.and_eq_true, hl, if_true, decide_eq_true_eq] at h
  exact ⟨h.1.2.1, h.1.2.2.1⟩
theorem all_iff_idx {α : Type} (p : α → Bool) (l : List α) : l.all p = true ↔ ∀ i (h : i < l.length), p l[i] = true := by
  rw [List.all_eq_true]
  exact ⟨fun h i hi => h _ (List.getElem_mem hi), fun h x hx => by obtain ⟨i, hi, rfl⟩ := List.getElem_of_mem hx; exact h i hi⟩
end Go.Proofs.YtgnpgkkjcloghaaGreatDoor.St
