/- Plain: a message that is put is got as it was. -/
import Derived.Test.YtilkginjppgcoaaPutn
namespace Go.Proofs.Ytilkginjppgcoaa

theorem entsE_at {l b : List Nat} : ∀ (es : List EntN) (a : List Nat) (k : Nat), l = a ++ (entsB es ++ b) → k = a.length → (∀ e ∈ es, EntOk e.1 e.2.1 e.2.2.1 e.2.2.2) → entsE l es.length k = .ok (es, k + (entsB es).length)
  | [], a, k, _, _, _ => by simp [entsE, entsB]
  | e :: es, a, k, hl, hk, hok => by
    obtain ⟨kd, t, i, d⟩ := e
    have h1 : l = a ++ (entB' kd t i d ++ (entsB es ++ b)) := by rw [hl]; simp [entsB, List.append_assoc]
    have h2 : l = (a ++ entB' kd t i d) ++ (entsB es ++ b) := by rw [h1]; simp [List.append_assoc]
    rw [List.length_cons, entsE, bindE_ok (entryE_at h1 hk (hok (kd, t, i, d) (List.mem_cons_self ..))),
      bindE_ok (entsE_at es (a ++ entB' kd t i d) (k + (entB' kd t i d).length) h2 (by rw [hk, List.length_append]) (fun e he => hok e (List.mem_cons_of_mem _ he)))]
    simp only [entsB, List.flatMap_cons, List.length_append, Except.ok.injEq, Prod.mk.injEq, true_and]
    omega
theorem upE_at {l a b : List Nat} {k n most : Nat} (hl : l = a ++ (numB n ++ b)) (hk : k = a.length) (h : n ≤ most) (hm : most ≤ 1099511627776) : upE l most k = .ok (n, k + (numB n).length) := by
  rw [upE, bindE_ok (takeE_at hl hk (by omega)), if_neg (by omega)]
/-- A message that is put is got as it was. -/
theorem msg_got {kd fr to t ix lt cm hi ro ob : Nat} {es : List EntN} {d : List Nat} (h : MsgOk kd fr to t ix lt cm hi ro es d) (hob : ob ≤ 1) :
    wholeE (msgB kd fr to t ix lt cm hi ro ob es d) (msgE (msgB kd fr to t ix lt cm hi ro ob es d) 0) = .ok ⟨kd, fr, to, ob, t, ix, lt, cm, hi, ro, es, d⟩ := by
  generalize hl : msgB kd fr to t ix lt cm hi ro ob es d = l
  have e0 : l = [] ++ kd :: (fr :: (to :: (ob :: (numB t ++ (numB ix ++ (numB lt ++ (numB cm ++ (numB hi ++ (numB ro ++ (numB es.length ++ (entsB es ++ (numB d.length ++ d)))))))))))) := by rw [← hl]; simp [msgB, headB, numsB, List.append_assoc]
  have e1 : l = [kd] ++ fr :: (to :: (ob :: (numB t ++ (numB ix ++ (numB lt ++ (numB cm ++ (numB hi ++ (numB ro ++ (numB es.length ++ (entsB es ++ (numB d.length ++ d))))))))))) := by rw [e0]; rfl
  have e2 : l = [kd, fr] ++ to :: (ob :: (numB t ++ (numB ix ++ (numB lt ++ (numB cm ++ (numB hi ++ (numB ro ++ (numB es.length ++ (entsB es ++ (numB d.length ++ d)))))))))) := by rw [e0]; rfl
  have e3 : l = [kd, fr, to] ++ ob :: (numB t ++ (numB ix ++ (numB lt ++ (numB cm ++ (numB hi ++ (numB ro ++ (numB es.length ++ (entsB es ++ (numB d.length ++ d))))))))) := by rw [e0]; rfl
  have e4 : l = [kd, fr, to, ob] ++ (numB t ++ (numB ix ++ (numB lt ++ (numB cm ++ (numB hi ++ (numB ro ++ (numB es.length ++ (entsB es ++ (numB d.length ++ d))))))))) := by rw [e0]; rfl
  have e5 : l = ([kd, fr, to, ob] ++ numB t) ++ (numB ix ++ (numB lt ++ (numB cm ++ (numB hi ++ (numB ro ++ (numB es.length ++ (entsB es ++ (numB d.length ++ d)))))))) := by rw [e4]; simp only [List.append_assoc]
  have e6 : l = (([kd, fr, to, ob] ++ numB t) ++ numB ix) ++ (numB lt ++ (numB cm ++ (numB hi ++ (numB ro ++ (numB es.length ++ (entsB es ++ (numB d.length ++ d))))))) := by rw [e5]; simp only [List.append_assoc]
  have e7 : l = ((([kd, fr, to, ob] ++ numB t) ++ numB ix) ++ numB lt) ++ (numB cm ++ (numB hi ++ (numB ro ++ (numB es.length ++ (entsB es ++ (numB d.length ++ d)))))) := by rw [e6]; simp only [List.append_assoc]
  have e8 : l = (((([kd, fr, to, ob] ++ numB t) ++ numB ix) ++ numB lt) ++ numB cm) ++ (numB hi ++ (numB ro ++ (numB es.length ++ (entsB es ++ (numB d.length ++ d))))) := by rw [e7]; simp only [List.append_assoc]
  have e9 : l = ((((([kd, fr, to, ob] ++ numB t) ++ numB ix) ++ numB lt) ++ numB cm) ++ numB hi) ++ (numB ro ++ (numB es.length ++ (entsB es ++ (numB d.length ++ d)))) := by rw [e8]; simp only [List.append_assoc]
  have e10 : l = (((((([kd, fr, to, ob] ++ numB t) ++ numB ix) ++ numB lt) ++ numB cm) ++ numB hi) ++ numB ro) ++ (numB es.length ++ (entsB es ++ (numB d.length ++ d))) := by rw [e9]; simp only [List.append_assoc]
  have e11 : l = ((((((([kd, fr, to, ob] ++ numB t) ++ numB ix) ++ numB lt) ++ numB cm) ++ numB hi) ++ numB ro) ++ numB es.length) ++ (entsB es ++ (numB d.length ++ d)) := by rw [e10]; simp only [List.append_assoc]
  have e12 : l = (((((((([kd, fr, to, ob] ++ numB t) ++ numB ix) ++ numB lt) ++ numB cm) ++ numB hi) ++ numB ro) ++ numB es.length) ++ entsB es) ++ (numB d.length ++ d) := by rw [e11]; simp only [List.append_assoc]
  have e13 : l = ((((((((([kd, fr, to, ob] ++ numB t) ++ numB ix) ++ numB lt) ++ numB cm) ++ numB hi) ++ numB ro) ++ numB es.length) ++ entsB es) ++ numB d.length) ++ (d ++ []) := by rw [e12]; simp only [List.append_assoc, List.append_nil]
  rw [msgE, bindE_ok (oneE_at (k := 0) e0 rfl h.hkd), bindE_ok (oneE_at (k := 0 + 1) e1 rfl h.hfr), bindE_ok (oneE_at (k := 0 + 1 + 1) e2 rfl h.hto), bindE_ok (oneE_at (k := 0 + 1 + 1 + 1) e3 rfl ⟨Nat.zero_le _, hob⟩)]
  rw [bindE_ok (takeE_at (k := 0 + 1 + 1 + 1 + 1) e4 (rfl) h.ht)]
  rw [bindE_ok (takeE_at (k := 0 + 1 + 1 + 1 + 1 + (numB t).length) e5 (by simp only [List.length_append, List.length_cons, List.length_nil]) h.hix)]
  rw [bindE_ok (takeE_at (k := 0 + 1 + 1 + 1 + 1 + (numB t).length + (numB ix).length) e6 (by simp only [List.length_append, List.length_cons, List.length_nil]) h.hlt)]
  rw [bindE_ok (takeE_at (k := 0 + 1 + 1 + 1 + 1 + (numB t).length + (numB ix).length + (numB lt).length) e7 (by simp only [List.length_append, List.length_cons, List.length_nil]) h.hcm)]
  rw [bindE_ok (takeE_at (k := 0 + 1 + 1 + 1 + 1 + (numB t).length + (numB ix).length + (numB lt).length + (numB cm).length) e8 (by simp only [List.length_append, List.length_cons, List.length_nil]) h.hhi)]
  rw [bindE_ok (takeE_at (k := 0 + 1 + 1 + 1 + 1 + (numB t).length + (numB ix).length + (numB lt).length + (numB cm).length + (numB hi).length) e9 (by simp only [List.length_append, List.length_cons, List.length_nil]) h.hro)]
  rw [bindE_ok (upE_at (k := 0 + 1 + 1 + 1 + 1 + (numB t).length + (numB ix).length + (numB lt).length + (numB cm).length + (numB hi).length + (numB ro).length) e10 (by simp only [List.length_append, List.length_cons, List.length_nil]) h.hfew (by decide))]
  rw [bindE_ok (entsE_at es _ (0 + 1 + 1 + 1 + 1 + (numB t).length + (numB ix).length + (numB lt).length + (numB cm).length + (numB hi).length + (numB ro).length + (numB es.length).length) e11 (by simp only [List.length_append, List.length_cons, List.length_nil]) h.hes)]
  rw [bindE_ok (upE_at (k := 0 + 1 + 1 + 1 + 1 + (numB t).length + (numB ix).length + (numB lt).length + (numB cm).length + (numB hi).length + (numB ro).length + (numB es.length).length + (entsB es).length) e12 (by simp only [List.length_append, List.length_cons, List.length_nil]) h.hd (by decide))]
  rw [bindE_ok (dataE_at (k := 0 + 1 + 1 + 1 + 1 + (numB t).length + (numB ix).length + (numB lt).length + (numB cm).length + (numB hi).length + (numB ro).length + (numB es.length).length + (entsB es).length + (numB d.length).length) e13 (by simp only [List.length_append, List.length_cons, List.length_nil]) rfl)]
  have hlen : l.length = 0 + 1 + 1 + 1 + 1 + (numB t).length + (numB ix).length + (numB lt).length + (numB cm).length + (numB hi).length + (numB ro).length + (numB es.length).length + (entsB es).length + (numB d.length).length + d.length := by rw [e13]; simp only [List.length_append, List.length_cons, List.length_nil]; omega
  simp only [wholeE]
  rw [if_neg (by omega)]
end Go.Proofs.Ytilkginjppgcoaa
