/- What is written is read; a byte that is another one is seen. -/
import Derived.Test.YtlfijfodklhplaaGreatArbor
namespace Go.Proofs.YtlfijfodklhplaaGreat
set_option linter.unusedVariables false

def six (f : Fr.Frm) : Six := ⟨f.data, (f.seq : Int), (f.m.kind : Int), (f.m.level : Int), (f.m.name : Int), f.m.finding⟩

theorem enc_len (f : Fr.Frm) : (Fr.enc f).length = flen f := by
  obtain ⟨d, s, m⟩ := f
  cases d <;> simp [Fr.enc, Fr.sealed, Fr.body, flen]
theorem body_len (f : Fr.Frm) : (Fr.body f).length = flen f - 2 := by
  obtain ⟨d, s, m⟩ := f
  cases d <;> simp [Fr.body, flen]
theorem flen_two (f : Fr.Frm) : flen f = 5 ∨ flen f = 10 := by
  unfold flen; cases f.data <;> simp
theorem toNat_lt (f : Bool) : f.toNat < 256 := by cases f <;> simp
theorem body_byte (f : Fr.Frm) (hf : FrOk f) : ∀ x ∈ Fr.body f, x < 256 := by
  obtain ⟨d, s, m⟩ := f
  obtain ⟨h0, ⟨h1, h2, h3, h4, h5⟩ | ⟨h1, h2⟩⟩ := hf
  · simp only at h0 h1 h2 h3 h4
    subst h1
    intro x hx
    simp only [Fr.body, if_true, List.mem_cons, List.not_mem_nil, or_false] at hx
    have := toNat_lt m.finding
    omega
  · simp only at h0 h1
    subst h1
    intro x hx
    simp [Fr.body] at hx
    omega
theorem enc_byte (f : Fr.Frm) (hf : FrOk f) : ∀ x ∈ Fr.enc f, x < 256 := by
  have hb := body_byte f hf
  have hc := Fr.crc_lt (Fr.body f) hb
  intro x hx
  simp only [Fr.enc, Fr.sealed, List.mem_append, List.mem_cons, List.not_mem_nil, or_false] at hx
  rcases hx with hx | hx | hx
  · exact hb x hx
  · omega
  · omega

theorem enc_read (f : Fr.Frm) (hf : FrOk f) : ReadOk (Fr.enc f) (six f) := by
  have hb := body_byte f hf
  have hc := Fr.crc_lt (Fr.body f) hb
  obtain ⟨d, s, m⟩ := f
  obtain ⟨h0, ⟨h1, h2, h3, h4, h5⟩ | ⟨h1, h2⟩⟩ := hf
  · simp only at h0 h1 h2 h3 h4 h5
    subst h1
    have e : Fr.enc ⟨true, s, m⟩ = [1, s / 256, s % 256, m.kind, m.level, m.finding.toNat, m.name / 256, m.name % 256] ++ [Fr.crc (Fr.body ⟨true, s, m⟩) / 256, Fr.crc (Fr.body ⟨true, s, m⟩) % 256] := by simp [Fr.enc, Fr.sealed, Fr.body]
    have e' : Fr.body ⟨true, s, m⟩ = [1, s / 256, s % 256, m.kind, m.level, m.finding.toNat, m.name / 256, m.name % 256] := by simp [Fr.body]
    rw [e]
    generalize hq : Fr.crc (Fr.body ⟨true, s, m⟩) = q at *
    rw [e'] at hq
    refine ⟨8, q / 256, q % 256, ⟨s / 256, s % 256, rfl, rfl, Or.inr ⟨rfl, rfl, m.kind, m.level, m.finding.toNat, m.name / 256, m.name % 256, rfl, rfl, rfl, rfl, rfl, ?_, ?_, ?_⟩⟩, rfl, rfl, ?_, rfl⟩
    · cases m.finding <;> simp
    · have e1 : ((m.name / 256 : Nat) : Int) * 256 + ((m.name % 256 : Nat) : Int) = (m.name : Int) := by omega
      have e2 : (m.finding.toNat == 1) = m.finding := by cases m.finding <;> rfl
      rw [e1, e2]; exact h5
    · have e1 : ((m.name / 256 : Nat) : Int) * 256 + ((m.name % 256 : Nat) : Int) = (m.name : Int) := by omega
      have e2 : (m.finding.toNat == 1) = m.finding := by cases m.finding <;> rfl
      have e3 : ((s / 256 : Nat) : Int) * 256 + ((s % 256 : Nat) : Int) = (s : Int) := by omega
      rw [e1, e2, e3]; rfl
    · show q / 256 * 256 + q % 256 = Fr.crc [1, s / 256, s % 256, m.kind, m.level, m.finding.toNat, m.name / 256, m.name % 256]
      rw [hq]; omega
  · simp only at h0 h1 h2
    subst h1 h2
    have e : Fr.enc ⟨false, s, Fr.none0⟩ = [2, s / 256, s % 256] ++ [Fr.crc (Fr.body ⟨false, s, Fr.none0⟩) / 256, Fr.crc (Fr.body ⟨false, s, Fr.none0⟩) % 256] := by simp [Fr.enc, Fr.sealed, Fr.body]
    have e' : Fr.body ⟨false, s, Fr.none0⟩ = [2, s / 256, s % 256] := by simp [Fr.body]
    rw [e]
    generalize hq : Fr.crc (Fr.body ⟨false, s, Fr.none0⟩) = q at *
    rw [e'] at hq
    refine ⟨3, q / 256, q % 256, ⟨s / 256, s % 256, rfl, rfl, Or.inl ⟨rfl, rfl, ?_⟩⟩, rfl, rfl, ?_, rfl⟩
    · have e3 : ((s / 256 : Nat) : Int) * 256 + ((s % 256 : Nat) : Int) = (s : Int) := by omega
      rw [e3]; rfl
    · show q / 256 * 256 + q % 256 = Fr.crc [2, s / 256, s % 256]
      rw [hq]; omega

theorem sealed_set (b : List Nat) (hb : ∀ x ∈ b, x < 256) (k : Nat) (hk : k < b.length + 2) (y : Nat) (hy : y < 256) (c1 c2 : Nat)
    (h1 : ((Fr.sealed b).set k y)[b.length]? = some c1) (h2 : ((Fr.sealed b).set k y)[b.length + 1]? = some c2) (hc : c1 * 256 + c2 = Fr.crc (((Fr.sealed b).set k y).take b.length)) : (Fr.sealed b)[k]? = some y := by
  have hq := Fr.crc_lt b hb
  by_cases hkb : k < b.length
  · have e1 : (Fr.sealed b).set k y = b.set k y ++ [Fr.crc b / 256, Fr.crc b % 256] := List.set_append_left _ _ hkb
    have e0 : (Fr.sealed b)[k]? = b[k]? := List.getElem?_append_left hkb
    rw [e1, List.getElem?_append_right (by simp)] at h1 h2
    rw [e1, List.take_left' (by simp)] at hc
    simp at h1 h2
    subst h1 h2
    have := Fr.crc_set b k hkb y hy hb (by omega)
    rw [e0, List.getElem?_eq_getElem hkb, this]
  · have e1 : (Fr.sealed b).set k y = b ++ ([Fr.crc b / 256, Fr.crc b % 256].set (k - b.length) y) := List.set_append_right _ _ (by omega)
    have e0 : (Fr.sealed b)[k]? = [Fr.crc b / 256, Fr.crc b % 256][k - b.length]? := List.getElem?_append_right (by omega)
    rw [e1, List.getElem?_append_right (by simp)] at h1 h2
    rw [e1, List.take_left' rfl] at hc
    rw [e0]
    generalize Fr.crc b = q at *
    have hkk : k - b.length = 0 ∨ k - b.length = 1 := by omega
    rcases hkk with e | e
    · rw [e] at h1 h2 ⊢
      simp at h1 h2 ⊢
      omega
    · rw [e] at h1 h2 ⊢
      simp at h1 h2 ⊢
      omega

/-- Bytes of a frame, one of them another one, are no frame's. -/
theorem enc_seen (f : Fr.Frm) (hf : FrOk f) (k y : Nat) (hk : k < flen f) (hy : y < 256) (hne : (Fr.enc f)[k]? ≠ some y) : ∀ x, ¬ ReadOk ((Fr.enc f).set k y) x := by
  rintro x ⟨kk, c1, c2, hB, h1, h2, hc, hl⟩
  have hlen : ((Fr.enc f).set k y).length = flen f := by rw [List.length_set, enc_len]
  have hbl := body_len f
  have ht := flen_two f
  have hkk : kk = (Fr.body f).length := by omega
  subst hkk
  exact hne (sealed_set (Fr.body f) (body_byte f hf) k (by omega) y hy c1 c2 h1 h2 hc)
end Go.Proofs.YtlfijfodklhplaaGreat
