/- The model's helpers over links that make a new list: without a name, with a new link. -/
import Derived.Test.YtckiloacbanbmaaDoorFind
import Derived.Laws.AppendOwnNone
import Derived.Laws.Rows
namespace Go.Proofs.YtckiloacbanbmaaDoor.DOk
open Go.RowKit Go.Proofs.YtckiloacbanbmaaDoor.Bytes Go.Proofs.YtckiloacbanbmaaDoor.Rows_
set_option linter.unusedVariables false

def OwnL (w : World) (base : Nat) (A : Option Addr) (n c : Nat) (ks : List LinkD) : Prop := w.ownsRow base 58 2 (.slice A n c) n (ks.map linkR).flatten
theorem flat_len (k : Nat) : ∀ (rows : List (List Value)), (∀ r ∈ rows, r.length = k) → rows.flatten.length = rows.length * k
  | [], _ => by simp
  | r :: rs, h => by
    rw [List.flatten_cons, List.length_append, h r (by simp), flat_len k rs (fun x hx => h x (by simp [hx])), List.length_cons, Nat.add_mul]
    omega
theorem flat_at (k : Nat) : ∀ (rows : List (List Value)), (∀ r ∈ rows, r.length = k) → ∀ (i : Nat) (r : List Value), rows[i]? = some r → ∀ (j : Nat) (v : Value), r[j]? = some v → rows.flatten[i * k + j]? = some v
  | [], _, i, r, h, _, _, _ => by simp at h
  | x :: rs, h, 0, r, hr, j, v, hv => by
    simp at hr; subst hr
    rw [List.flatten_cons, Nat.zero_mul, Nat.zero_add, List.getElem?_append_left (List.getElem?_eq_some_iff.1 hv).1]
    exact hv
  | x :: rs, h, i + 1, r, hr, j, v, hv => by
    simp at hr
    have hx := h x (by simp)
    rw [List.flatten_cons, List.getElem?_append_right (by rw [hx, Nat.add_mul]; omega), hx, show (i + 1) * k + j - k = i * k + j by rw [Nat.add_mul]; omega]
    exact flat_at k rs (fun y hy => h y (by simp [hy])) i r hr j v hv
theorem own_shapeK {w : World} {base : Nat} {e : TypeId} {size : Nat} {v : Value} {n : Nat} {xs : List Value} (h : w.ownsRow base e size v n xs) : ∃ A c, v = .slice A n c := by
  rcases h.2 with ⟨rfl, rfl⟩ | ⟨g, cap, cur, rfl, _⟩
  · exact ⟨none, 0, rfl⟩
  · exact ⟨_, cap, rfl⟩
theorem own_rdK {w : World} {base : Nat} {e : TypeId} {k : Nat} {A : Option Addr} {n c : Nat} {rows : List (List Value)} (hk : ∀ r ∈ rows, r.length = k) (hk0 : 0 < k) (h : w.ownsRow base e k (.slice A n c) n rows.flatten) : RdK k w w.heap.size A rows := by
  intro hn
  have hl : rows.length = n := by
    have := h.1; rw [flat_len k rows hk] at this; exact Nat.eq_of_mul_eq_mul_right hk0 this
  rcases h.2 with ⟨_, hz⟩ | ⟨g, cap, cur, hv, hb, hg, hnc, hm, hs, ht⟩
  · omega
  · injection hv with e1 e2 e3
    subst e1 e3
    refine ⟨g, 0, rfl, (Array.getElem?_eq_some_iff.1 hg).1, fun i r hr j v hv => ?_⟩
    have hi : i < rows.length := (List.getElem?_eq_some_iff.1 hr).1
    have hj : j < k := by rw [← hk r (List.mem_of_getElem? hr)]; exact (List.getElem?_eq_some_iff.1 hv).1
    have hlt : i * k + j < n * k := by
      have : (i + 1) * k ≤ n * k := Nat.mul_le_mul_right k (by omega)
      rw [Nat.add_mul] at this; omega
    rw [Nat.zero_add, World.ownsRow.cellAt (h := h) _ hlt]
    exact flat_at k rows hk i r hr j v hv
theorem link_len : ∀ (ks : List LinkD), ∀ r ∈ ks.map linkR, r.length = 2 := by
  intro ks r hr; simp at hr; obtain ⟨_, _, _, rfl⟩ := hr; rfl
theorem OwnL.rd {w : World} {base : Nat} {A : Option Addr} {n c : Nat} {ks : List LinkD} (h : OwnL w base A n c ks) : RdL w w.heap.size A ks := own_rdK (link_len ks) (by omega) h
theorem OwnL.len {w : World} {base : Nat} {A : Option Addr} {n c : Nat} {ks : List LinkD} (h : OwnL w base A n c ks) : ks.length = n := by
  have := h.1; rw [flat_len 2 _ (link_len ks)] at this; simp at this; omega
theorem OwnL.blk {w : World} {base : Nat} {A : Option Addr} {n c : Nat} {ks : List LinkD} (h : OwnL w base A n c ks) : ∀ g, (Value.slice A n c).ownBlock = some g → base ≤ g ∧ g < w.heap.size := World.ownsRow.lt h
theorem OwnL.alloc {w : World} {base : Nat} {A : Option Addr} {n c : Nat} {ks : List LinkD} (h : OwnL w base A n c ks) (o : Obj) : OwnL (w.alloc o) base A n c ks := World.ownsRow.alloc h o
theorem OwnL.below {w w' : World} {base B : Nat} {A : Option Addr} {n c : Nat} {ks : List LinkD} (h : OwnL w base A n c ks) (hB : w.heap.size ≤ B) (hb : Below B w w') : OwnL w' base A n c ks := by
  refine ⟨h.1, ?_⟩
  rcases h.2 with h0 | ⟨g, cap, cur, hv, hbb, hg, rest⟩
  · exact .inl h0
  · have hlt : g < w.heap.size := (Array.getElem?_eq_some_iff.1 hg).1
    exact .inr ⟨g, cap, cur, hv, hbb, by rw [hb.block g (by omega)]; exact hg, rest⟩
theorem OwnL.more {w : World} {base base' : Nat} {A : Option Addr} {n c : Nat} {ks : List LinkD} (h : OwnL w base A n c ks) (hB : base' ≤ base) : OwnL w base' A n c ks := by
  refine ⟨h.1, ?_⟩
  rcases h.2 with h0 | ⟨g, cap, cur, hv, hbb, rest⟩
  · exact .inl h0
  · exact .inr ⟨g, cap, cur, hv, by omega, rest⟩

theorem own_empty (w : World) (E k : Nat) : (w.alloc (.cells #[] E)).ownsRow w.heap.size E k (.slice (some ⟨w.heap.size, 0, none⟩) 0 0) 0 [] :=
  ⟨by simp, .inr ⟨w.heap.size, 0, #[], rfl, Nat.le_refl _, heap_alloc_new w _, Nat.le_refl _, by unfold maxLen; omega, by simp, by simp⟩⟩
theorem linkInfo : (Tryd.prog.info? 58).map (fun i => (i.zero, i.size, i.bytes)) = some (some (.agg #[.string ByteArray.empty, .int .i64 0]), 2, 24) := by kernel_rfl

/-- 'out = append(out, x)', one link, which the walk has laid in a block of its own -/
theorem append_link {wr : World} {ops : Array Oper} {rest : List Oper} {o : Oper} {a : Act} {Q : Exit → Act → World → Prop} (hgd : o.guard = none) (s x : Operand)
    (ho : o.op = .call { callee := .builtin .append, args := #[s, x], argTypes := #[32, 32] })
    {base n c : Nat} {A : Option Addr} {ks : List LinkD} {nm : ByteArray} {id : Int} (hs : a.eval s = .slice A n c) (H : Nat) (hx : a.eval x = .slice (some ⟨H, 0, none⟩) 1 1) (hH : wr.heap.size = H)
    (hown : OwnL wr base A n c ks) (hn : n ≤ 2199023255552) (hbase : base ≤ wr.heap.size)
    (h : ∀ A' c' w', OwnL w' base A' (n + 1) c' (ks ++ [(nm, id)]) → Below base wr w' → (wr.alloc (.cells #[.string nm, .int .i64 id] 58)).grownBy w' (Value.slice A n c).ownBlock → wpList Tryd.prog ops Q rest (a.put o.dst (.slice A' (n + 1) c')) w') :
    wpList Tryd.prog ops Q (o :: rest) a (wr.alloc (.cells #[.string nm, .int .i64 id] 58)) := by
  subst hH
  obtain ⟨i0, hi, hz0, hz1, hz2⟩ := info_parts linkInfo
  refine wpList_append_own _ hgd s x 32 ho base 58 i0 (.agg #[.string ByteArray.empty, .int .i64 0]) 2 24 Tryd.underlying32 hi hz0 hz1 hz2 rfl (by decide) _ _ _ hs (World.ownsRow.alloc hown _) ⟨wr.heap.size, 0, none⟩ 1 1 [.string nm, .int .i64 id] hx rfl ?_ ?_ ?_ ?_ ?_ ?_
  · intro j u hj
    match j, hj with
    | 0, hj => simp at hj; subst hj; simp [Addr.add]
    | 1, hj => simp at hj; subst hj; simp [Addr.add]
  · intro u hu; simp at hu; rcases hu with rfl | rfl <;> rfl
  · unfold maxLen; omega
  · omega
  · simp; omega
  · intro v' w' hown' hgrow _
    have e : (ks.map linkR).flatten ++ [.string nm, .int .i64 id] = ((ks ++ [(nm, id)]).map linkR).flatten := by simp [linkR]
    rw [e] at hown'
    obtain ⟨A', c', rfl⟩ := own_shapeK hown'
    exact h A' c' w' hown' (((Below.refl _ _).alloc hbase _).grown hgrow (by simp; omega) (fun g hg => (hown.blk g hg).1)) hgrow

def lessD (ks : List LinkD) (s : List UInt8) : List LinkD := ks.filter fun x => !(x.1.toList == s)
theorem lessD_snoc (ks : List LinkD) (s : List UInt8) (k : Nat) (h : k < ks.length) : lessD (ks.take (k + 1)) s = if (ks[k].1.toList == s) = true then lessD (ks.take k) s else lessD (ks.take k) s ++ [(ks[k].1, ks[k].2)] := by
  rw [List.take_succ_eq_append_getElem h]
  unfold lessD
  rw [List.filter_append]
  cases hc : (ks[k].1.toList == s) <;> simp [hc]
theorem lessD_le (ks : List LinkD) (s : List UInt8) : (lessD ks s).length ≤ ks.length := List.length_filter_le _ _
theorem take_le' {α : Type} (l : List α) (k : Nat) : (l.take k).length ≤ k := by simp; omega

set_option maxRecDepth 100000 in
set_option maxHeartbeats 1600000 in
theorem l02Less_any (A : Option Addr) (n c : Nat) (ks : List LinkD) (s : ByteArray) (w : World) (hr : RdL w w.heap.size A ks) (hl : ks.length = n) (hn : n ≤ 1099511627776) :
    Calls Tryd.prog 47 #[.slice A n c, .string s] w fun e w' => ∃ A' c', e = .returned (.slice A' (lessD ks s.toList).length c') ∧ OwnL w' w.heap.size A' (lessD ks s.toList).length c' (lessD ks s.toList) ∧ Below w.heap.size w w' := by
  have HL := Lib.hid hl
  have HR := Lib.hid hr
  clear hl hr
  go_enter Tryd.func47, Tryd.ntmps47
  go_wp2_with fail
  go_loopw [5, 11] (fun v i wr => ∃ k A' c', k ≤ n ∧ i = .int .i64 (k : Nat) ∧ v = .slice A' (lessD (ks.take k) s.toList).length c' ∧ OwnL wr w.heap.size A' (lessD (ks.take k) s.toList).length c' (lessD (ks.take k) s.toList) ∧ Below w.heap.size w wr) (fun _ i _ => n - (intOf i).toNat)
  case atStart => exact ⟨0, _, _, Nat.zero_le _, rfl, rfl, own_empty w _ _, (Below.refl _ _).alloc (Nat.le_refl _) _⟩
  case round =>
    obtain ⟨k, A', c', hk, rfl, rfl, ho, hb⟩ := hrel
    have hz : w.heap.size ≤ wr.heap.size := hb.size
    by_cases hlt : k < n
    · have hlt' : k < ks.length := by rw [HL.out]; exact hlt
      have hS := lessD_snoc ks s.toList k hlt'
      have hle : (lessD (ks.take k) s.toList).length ≤ k := Nat.le_trans (lessD_le _ _) (take_le' _ _)
      obtain ⟨b, o, rfl, hB, hc0, hc1⟩ := (HR.out.below (Nat.le_refl _) hb).at_ hlt'
      have HB := Lib.hid hb
      clear hb
      cases he : (ks[k].1.toList == s.toList)
      · rw [he] at hS
        have hne : (!(ks[k].1.toList == s.toList)) = true := by rw [he]; rfl
        have HS := Lib.hid (show lessD (ks.take (k + 1)) s.toList = lessD (ks.take k) s.toList ++ [(ks[k].1, ks[k].2)] by simpa using hS)
        clear hS
        generalize ks[k].1 = nm at *
        generalize ks[k].2 = id at *
        generalize lessD (ks.take k) s.toList = L at *
        have ho1 := ho.alloc (.cells #[.string nm, .int .i64 id] 58)
        go_wp2_with (at_builtin; refine append_link rfl _ _ rfl rfl (wr.heap.size + 1) rfl (by simp) ho1 (by omega) (by simp; omega) ?_)
        intro A2 c2 w2 ho2 hb2 hg2
        have HO := Lib.hid (show OwnL w2 w.heap.size A2 (lessD (ks.take (k + 1)) s.toList).length c2 (lessD (ks.take (k + 1)) s.toList) by rw [HS.out, List.length_append]; exact ho2)
        have HB2 := Lib.hid ((HB.out.alloc hz _).trans hb2)
        have HN := Lib.hid (show L.length + 1 = (lessD (ks.take (k + 1)) s.toList).length by rw [HS.out, List.length_append]; rfl)
        clear ho ho1 ho2 hb2 hg2
        go_wp2_with fail
        exact ⟨⟨k + 1, A2, c2, by omega, by go_num, by rw [HN.out], HO.out, HB2.out⟩, by simp [intOf]; omega⟩
      · rw [he] at hS
        have hne : (!(ks[k].1.toList == s.toList)) = false := by rw [he]; rfl
        have HS := Lib.hid (show lessD (ks.take (k + 1)) s.toList = lessD (ks.take k) s.toList by simpa using hS)
        clear hS he
        generalize ks[k].1 = nm at *
        generalize ks[k].2 = id at *
        have HO := Lib.hid (ho.alloc (.cells #[.string nm, .int .i64 id] 58))
        clear ho
        go_wp2_with fail
        exact ⟨⟨k + 1, A', c', by omega, by go_num, by rw [HS.out], by rw [HS.out]; exact HO.out, HB.out.alloc hz _⟩, by simp [intOf]; omega⟩
    · obtain rfl : n = k := by omega
      have e : ks.take n = ks := List.take_of_length_le (by rw [HL.out]; exact Nat.le_refl _)
      rw [e] at ho ⊢
      go_wp2_with fail
      go_ret
      exact ⟨_, _, rfl, ho, hb⟩
end Go.Proofs.YtckiloacbanbmaaDoor.DOk
