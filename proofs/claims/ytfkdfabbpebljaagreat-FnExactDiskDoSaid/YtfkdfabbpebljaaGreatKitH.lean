/- Texts that lay in modules of their own: DoMath, ExecAny. -/
import Derived.Test.YtfkdfabbpebljaaGreatKitE
import Derived.Test.YtfkdfabbpebljaaGreatDoCode
import Derived.Test.YtfkdfabbpebljaaGreatExecA
import Derived.Test.YtfkdfabbpebljaaGreatKitG
import Derived.Test.YtfkdfabbpebljaaGreatExecC
import Derived.Test.YtfkdfabbpebljaaGreatExecT5
namespace Go.Proofs.YtfkdfabbpebljaaGreat.DOk
open Go.RowKit Go.Proofs.YtfkdfabbpebljaaGreat.Bytes Go.Proofs.YtfkdfabbpebljaaGreat.Rows_
set_option linter.unusedVariables false
def putF (z : Int) (h : FileD → FileD) : List FileD → List FileD
  | [] => []
  | f :: r => if f.id = z then h f :: r else f :: putF z h r
theorem putF_at (z : Int) (h : FileD → FileD) (f : FileD) (post : List FileD) (hf : f.id = z) : ∀ pre : List FileD, (∀ x ∈ pre, x.id ≠ z) → putF z h (pre ++ [f] ++ post) = pre ++ [h f] ++ post
  | [], _ => by simp [putF, hf]
  | a :: r, hp => by
    have h1 : a.id ≠ z := hp a (by simp)
    have h2 := putF_at z h f post hf r fun x hx => hp x (List.mem_cons_of_mem _ hx)
    show putF z h (a :: (r ++ [f] ++ post)) = a :: (r ++ [h f] ++ post)
    rw [← h2]; simp only [putF, if_neg h1]
def growF (sz : Nat) (ys : List Int) (f : FileD) : FileD := ⟨f.id, f.A, f.n + sz, f.c, f.safe, f.bytes ++ ys.take sz⟩
def syncF (f : FileD) : FileD := ⟨f.id, f.A, f.n, f.c, (f.n : Nat), f.bytes⟩
theorem key_parts {f g : FileD} (h : keyF f = keyF g) : f.id = g.id ∧ f.n = g.n ∧ f.safe = g.safe ∧ f.bytes = g.bytes := by
  unfold keyF at h; injection h with h1 h; injection h with h2 h; injection h with h3 h4; exact ⟨h1, h2, h3, h4⟩
theorem growF_key (sz : Nat) (ys : List Int) (f g : FileD) (h : keyF f = keyF g) : keyF (growF sz ys f) = keyF (growF sz ys g) := by
  obtain ⟨h1, h2, h3, h4⟩ := key_parts h
  simp [keyF, growF, h1, h2, h3, h4]
theorem syncF_key (f g : FileD) (h : keyF f = keyF g) : keyF (syncF f) = keyF (syncF g) := by
  obtain ⟨h1, h2, h3, h4⟩ := key_parts h
  simp [keyF, syncF, h1, h2, h4]
theorem putF_keys (z : Int) (h : FileD → FileD) (hh : ∀ f g, keyF f = keyF g → keyF (h f) = keyF (h g)) : ∀ l m : List FileD, l.map keyF = m.map keyF → (putF z h l).map keyF = (putF z h m).map keyF
  | [], [], _ => rfl
  | [], _ :: _, e => by simp at e
  | _ :: _, [], e => by simp at e
  | f :: r, g :: s, e => by
    rw [List.map_cons, List.map_cons] at e
    injection e with e1 e2
    have ih := putF_keys z h hh r s e2
    have hid := (key_parts e1).1
    by_cases hx : f.id = z
    · simp only [putF, if_pos hx, if_pos (hid ▸ hx), List.map_cons, hh f g e1, e2]
    · simp only [putF, if_neg hx, if_neg (fun h' => hx (hid.trans h') : ¬ g.id = z), List.map_cons, e1, ih]
def fitD (room : Int) (U n : Nat) : Nat := (if room - (U : Int) < (n : Int) then room - (U : Int) else (n : Int)).toNat
theorem fitD_eq {room : Int} {U n : Nat} (h : (U : Int) ≤ room) : (if room - (U : Int) < (n : Int) then room - (U : Int) else (n : Int)) = (fitD room U n : Nat) := by
  unfold fitD
  split <;> omega
theorem fitD_le (room : Int) (U n : Nat) : fitD room U n ≤ n := by
  unfold fitD
  split <;> omega
def doneF (k room next z : Int) (l : List LinkD) (ys : List Int) (n : Nat) (fs : List FileD) : List FileD :=
  if k = 1 then fs ++ [⟨next, none, 0, 0, 0, []⟩] else if k = 2 then putF z (growF (fitD room (usedD fs) n) ys) fs else if k = 3 then putF z syncF fs else if k = 6 then keptF (l.map (·.2)) fs else fs
def doneT (k : Int) (name to_ : ByteArray) (next : Int) (ts : List TurnD) : List TurnD :=
  if k = 1 then ts ++ [⟨1, name, ByteArray.empty, next⟩] else if k = 4 then ts ++ [⟨4, name, to_, 0⟩] else if k = 5 then ts ++ [⟨5, name, to_, 0⟩] else if k = 6 then [] else ts
def doneL (k : Int) (l ks : List LinkD) : List LinkD := if k = 6 then l else ks
def doneX (k next : Int) : Int := if k = 1 then next + 1 else next
def doneC (k room : Int) (U n : Nat) : Int := if k = 2 then (if fitD room U n < n then 5 else 0) else 0
theorem doneF_keys (k room next z : Int) (l : List LinkD) (ys : List Int) (n : Nat) {gs fs : List FileD} (h : gs.map keyF = fs.map keyF) : (doneF k room next z l ys n gs).map keyF = (doneF k room next z l ys n fs).map keyF := by
  unfold doneF
  split
  · rw [List.map_append, List.map_append, h]
  · split
    · rw [keys_used h]; exact putF_keys z _ (growF_key _ ys) _ _ h
    · split
      · exact putF_keys z _ syncF_key _ _ h
      · split
        · exact kept_keys _ _ _ h
        · exact h
/-- what an operation answers -/
def DoD (P : Prop) (room fuse next : Int) (fs : List FileD) (ks : List LinkD) (ts : List TurnD) (k : Int) (name to_ : ByteArray) (ys : List Int) (n : Nat) (r f x : Int) (gs : List FileD) (ks' : List LinkD) (ts' : List TurnD) (o : Value) : Prop :=
  (P ∧ codeD fuse next fs.length ts.length k (decide (0 < findD (dirAt ks ts) name.toList)) (to_.toList == name.toList) ≠ 0 ∧ o = .int .i64 (codeD fuse next fs.length ts.length k (decide (0 < findD (dirAt ks ts) name.toList)) (to_.toList == name.toList)) ∧ r = room ∧ f = fuse ∧ x = next ∧ gs.map keyF = fs.map keyF ∧ ks' = ks ∧ ts' = ts) ∨
  (P ∧ codeD fuse next fs.length ts.length k (decide (0 < findD (dirAt ks ts) name.toList)) (to_.toList == name.toList) = 0 ∧ o = .int .i64 (doneC k room (usedD fs) n) ∧ r = room ∧ f = (if 0 < fuse then fuse - 1 else fuse) ∧ x = doneX k next ∧
    gs.map keyF = (doneF k room next (findD (dirAt ks ts) name.toList) (dirAt ks ts) ys n fs).map keyF ∧ ks' = doneL k (dirAt ks ts) ks ∧ ts' = doneT k name to_ next ts) ∨
  (¬ P ∧ o = .int .i64 1 ∧ r = 0 ∧ f = 0 ∧ x = 0 ∧ gs = [] ∧ ks' = [] ∧ ts' = [])
end Go.Proofs.YtfkdfabbpebljaaGreat.DOk
namespace Go.Proofs.YtfkdfabbpebljaaGreat.DOk
open Go.RowKit Go.Proofs.YtfkdfabbpebljaaGreat.Bytes Go.Proofs.YtfkdfabbpebljaaGreat.Rows_ Go.Maps Go.WideMaps
set_option linter.unusedVariables false
theorem exec_any (k : Int) (hk : 1 ≤ k ∧ k ≤ 6) (b base B : Nat) (room fuse next : Int) (F : Option Addr) (nf cf : Nat) (K : Option Addr) (nk ck : Nat) (T : Option Addr) (nt ct : Nat) (gs : List FileD) (ks : List LinkD) (ts : List TurnD) (w : World)
    (hb : BoxW w b #[.int .i64 room, .int .i64 fuse, .int .i64 next, .slice F nf cf, .slice K nk ck, .slice T nt ct]) (ho : OwnD w base F nf cf gs K nk ck ks T nt ct ts) (hB : B ≤ b) (hB2 : B ≤ base) (hbw : base ≤ w.heap.size) (hnf : nf ≤ 10) (hnt : nt ≤ 30) (hnx : 0 ≤ next ∧ next ≤ 1000000)
    (mb nn : Nat) (D : Dat) (l : List LinkD) (z : Int) (hM : OwnM w mb nn D) (hS : Same l D) (hV : Val l D) (hR : Ris l) (hwl : ∀ x ∈ l, (Lit.int .i64 x.2).wf = true) (hsz : size D ≤ 2000000) (hgw : ∀ x ∈ gs, (Lit.int .i64 x.id).wf = true)
    (name to_ : ByteArray) (h1 : name.size ≤ maxLen) (A : Option Addr) (n c : Nat) (ys : List Int) (hr : Rd w w.heap.size A ys) (hl : ys.length = n) (hA : A = none → n = 0 ∧ c = 0) (hnc : n ≤ c) (hn : n ≤ 1048576)
    (hu : ((usedD gs : Nat) : Int) ≤ room) (hroom : room ≤ 1048576) (hgn : ∀ f ∈ gs, f.n ≤ 1099511627776)
    (hz : k = 2 ∨ k = 3 → D.atKey (kS name) (vI 0) = vI z ∧ ∃ (i : Nat) (hi : i < gs.length), gs[i].id = z ∧ ∀ j (hj : j < gs.length), j < i → gs[j].id ≠ z) :
    Calls Tryz.prog 37 #[.pointer (some ⟨b, 0, none⟩), .map (some mb), .agg #[.int .i64 k, .string name, .string to_, .slice A n c]] w fun e w' =>
      e = .returned (.int .i64 (doneC k room (usedD gs) n)) ∧ Below B w w' ∧ ∃ (F' : Option Addr) (nf' cf' : Nat) (gs' : List FileD) (K' : Option Addr) (nk' ck' : Nat) (T' : Option Addr) (nt' ct' : Nat), gs'.map keyF = (doneF k room next z l ys n gs).map keyF ∧
        BoxW w' b #[.int .i64 room, .int .i64 fuse, .int .i64 (doneX k next), .slice F' nf' cf', .slice K' nk' ck', .slice T' nt' ct'] ∧ OwnD w' base F' nf' cf' gs' K' nk' ck' (doneL k l ks) T' nt' ct' (doneT k name to_ next ts) := by
  have hh : k = 1 ∨ k = 2 ∨ k = 3 ∨ k = 4 ∨ k = 5 ∨ k = 6 := by omega
  have hlen := ho.lenF
  rcases hh with rfl | rfl | rfl | rfl | rfl | rfl
  · refine (exec_create b base B room fuse next F nf cf K nk ck T nt ct gs ks ts (some mb) name to_ A n c w hb ho hB hB2 hbw (by omega) (by omega) hnx).mono ?_
    rintro e w' ⟨rfl, hbe, F', cf', T', ct', hb', ho'⟩
    exact ⟨rfl, hbe, F', nf + 1, cf', _, K, nk, ck, T', nt + 1, ct', rfl, hb', ho'⟩
  · obtain ⟨hat, i, hi, e1, e2⟩ := hz (.inl rfl)
    obtain ⟨g, rfl⟩ := own_addr ho.f (by omega)
    have hsp : gs = gs.take i ++ [gs[i]] ++ gs.drop (i + 1) := by
      rw [List.append_assoc]; simp
    have hno : ∀ x ∈ gs.take i, x.id ≠ z := by
      intro x hx
      obtain ⟨j, hj, rfl⟩ := List.getElem_of_mem hx
      rw [List.length_take] at hj
      rw [List.getElem_take]
      exact e2 j (by omega) (by omega)
    have hil : (gs.take i).length = i := by rw [List.length_take]; omega
    have hgi := hgn _ (List.getElem_mem hi)
    generalize hp : gs.take i = pre at *
    generalize hq : gs.drop (i + 1) = post at *
    generalize hf : gs[i] = f at *
    subst hsp
    refine (exec_write b base B room fuse next g nf cf K nk ck T nt ct pre post f ks ts i z w hb ho hB hB2 hbw (by omega) hil hno e1 mb nn D hM name to_ h1 hat A n c (fitD room (usedD (pre ++ [f] ++ post)) n) ys hr hl hA hnc hn hu hroom hgi (fitD_eq hu) (fitD_le _ _ _)).mono ?_
    rintro e w' ⟨rfl, hbe, hb', A', c', ho'⟩
    refine ⟨rfl, hbe, some ⟨g, 0, none⟩, nf, cf, _, K, nk, ck, T, nt, ct, ?_, hb', ho'⟩
    show _ = (putF z (growF (fitD room (usedD (pre ++ [f] ++ post)) n) ys) (pre ++ [f] ++ post)).map keyF
    rw [putF_at z _ f post e1 pre hno]
    simp [keyF, growF]
  · obtain ⟨hat, i, hi, e1, e2⟩ := hz (.inr rfl)
    obtain ⟨g, rfl⟩ := own_addr ho.f (by omega)
    have hsp : gs = gs.take i ++ [gs[i]] ++ gs.drop (i + 1) := by
      rw [List.append_assoc]; simp
    have hno : ∀ x ∈ gs.take i, x.id ≠ z := by
      intro x hx
      obtain ⟨j, hj, rfl⟩ := List.getElem_of_mem hx
      rw [List.length_take] at hj
      rw [List.getElem_take]
      exact e2 j (by omega) (by omega)
    have hil : (gs.take i).length = i := by rw [List.length_take]; omega
    have hgi := hgn _ (List.getElem_mem hi)
    generalize hp : gs.take i = pre at *
    generalize hq : gs.drop (i + 1) = post at *
    generalize hf : gs[i] = f at *
    subst hsp
    refine (exec_sync b base B room fuse next g nf cf K nk ck T nt ct pre post f ks ts i z w hb ho hB hB2 hbw (by omega) hil hno e1 mb nn D hM name to_ h1 hat A n c hgi).mono ?_
    rintro e w' ⟨rfl, hbe, hb', ho'⟩
    refine ⟨rfl, hbe, some ⟨g, 0, none⟩, nf, cf, _, K, nk, ck, T, nt, ct, ?_, hb', ho'⟩
    show _ = (putF z syncF (pre ++ [f] ++ post)).map keyF
    rw [putF_at z _ f post e1 pre hno]
    simp [keyF, syncF]
  · refine (exec_turn4 b base B room fuse next F nf cf K nk ck T nt ct gs ks ts (some mb) name to_ A n c w hb ho hB hB2 hbw (by omega) (by omega)).mono ?_
    rintro e w' ⟨rfl, hbe, T', ct', hb', ho'⟩
    exact ⟨rfl, hbe, F, nf, cf, gs, K, nk, ck, T', nt + 1, ct', rfl, hb', ho'⟩
  · refine (exec_turn5 b base B room fuse next F nf cf K nk ck T nt ct gs ks ts (some mb) name to_ A n c w hb ho hB hB2 hbw (by omega) (by omega)).mono ?_
    rintro e w' ⟨rfl, hbe, T', ct', hb', ho'⟩
    exact ⟨rfl, hbe, F, nf, cf, gs, K, nk, ck, T', nt + 1, ct', rfl, hb', ho'⟩
  · refine (exec_dir b base mb nn _ _ _ F nf cf _ _ gs D l w hb ho.f hlen (by omega) hgw ho.b hM hS hV hR hwl hsz name to_ A n c).mono ?_
    rintro e w' ⟨K', nk', ck', rfl, hb', hf', hs', hl', hon⟩
    have hbl := hb.lt
    refine ⟨rfl, Only.below_ hon (Below.refl B w) (by omega) (fun i hi => ?_), F, _, cf, _, K', nk', ck', none, 0, 0, rfl, hb', ⟨hf', hs', OwnL.more hl' (by omega), World.ownsRow_nil w' base _ _⟩⟩
    rcases hi with rfl | hi
    · exact hB
    · have := (World.ownsRow.lt ho.f i hi).1; omega
end Go.Proofs.YtfkdfabbpebljaaGreat.DOk
