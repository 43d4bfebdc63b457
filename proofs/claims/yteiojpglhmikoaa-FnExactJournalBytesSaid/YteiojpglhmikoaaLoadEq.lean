/- Small facts for the laws over loads. -/
import Derived.Test.YteiojpglhmikoaaLoadMarks
namespace Go.Proofs.Yteiojpglhmikoaa.Loads
open Go.RowKit Go.Proofs.Yteiojpglhmikoaa.Bytes Go.Proofs.Yteiojpglhmikoaa.Rows_
set_option linter.unusedVariables false
theorem mem_key {gs fs : List LoadD} (h : gs.map key = fs.map key) {g : LoadD} (hg : g ∈ gs) : ∃ f ∈ fs, f.n = g.n ∧ f.bytes = g.bytes := by
  have h1 : key g ∈ fs.map key := by rw [← h]; exact List.mem_map_of_mem hg
  obtain ⟨f, hf, e⟩ := List.mem_map.1 h1
  unfold key at e
  simp only [Prod.mk.injEq] at e
  exact ⟨f, hf, e.1, e.2⟩
theorem rng_of {gs fs : List LoadD} (h : Hid (gs.map key = fs.map key)) (hr : ∀ f ∈ fs, Rng f.bytes) : ∀ g ∈ gs, Rng g.bytes := fun g hg => by
  obtain ⟨f, hf, _, e⟩ := mem_key h.out hg
  rw [← e]; exact hr f hf
theorem n_of {gs fs : List LoadD} (h : Hid (gs.map key = fs.map key)) {B : Nat} (hr : ∀ f ∈ fs, f.n ≤ B) : ∀ g ∈ gs, g.n ≤ B := fun g hg => by
  obtain ⟨f, hf, e, _⟩ := mem_key h.out hg
  rw [← e]; exact hr f hf
theorem key_of_bytes {gs fs : List LoadD} (h1 : ∀ g ∈ gs, g.bytes.length = g.n) (h2 : ∀ f ∈ fs, f.bytes.length = f.n) (h : gs.map (·.bytes) = fs.map (·.bytes)) : gs.map key = fs.map key := by
  have e : ∀ (l : List LoadD), (∀ g ∈ l, g.bytes.length = g.n) → l.map key = (l.map (·.bytes)).map fun b => (b.length, b) := by
    intro l hl
    rw [List.map_map]
    exact List.map_congr_left fun g hg => by simp [key, hl g hg]
  rw [e gs h1, e fs h2, h]
theorem eqLo {w : World} {F G : Option Addr} {n c m d base1 base2 : Nat} {fs gs : List LoadD} (h1 : OwnLo w base1 F n c fs) (b1 : OwnBs w base1 fs) (h2 : OwnLo w base2 G m d gs) (b2 : OwnBs w base2 gs) (hk : gs.map (·.bytes) = fs.map (·.bytes)) (hn : n ≤ 1099511627776) (hf : ∀ f ∈ fs, f.n ≤ 1099511627776) :
    Calls Try.prog 24 #[.slice F n c, .slice G m d] w fun e w' => e = .returned (.bool true) ∧ Below w.heap.size w w' := by
  have hkey := key_of_bytes (fun g hg => (b2.1 g hg).len) (fun g hg => (b1.1 g hg).len) hk
  have l1 := h1.len
  have l2 := h2.len
  have l3 := key_len hkey
  obtain rfl : m = n := by omega
  exact eqLoadS_yes F G m c d fs gs w h1.rd h2.rd l1 hkey (fun f hf' => ⟨(b1.1 f hf').rd, (b1.1 f hf').len⟩) (fun f hf' => ⟨(b2.1 f hf').rd, (b2.1 f hf').len⟩) hn hf
end Go.Proofs.Yteiojpglhmikoaa.Loads

