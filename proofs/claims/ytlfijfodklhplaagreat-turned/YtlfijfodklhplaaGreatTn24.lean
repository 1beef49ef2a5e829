import Derived.Test.YtlfijfodklhplaaGreatTn23
set_option maxHeartbeats 400000
set_option linter.unusedVariables false
set_option linter.unusedSimpArgs false
namespace Go.Proofs.YtlfijfodklhplaaGreat
open Go.RowKit
def pk(c n:Int):Nat:=((if c<0 then -(c+1)else c) % n).toNat
theorem pk_lt(c n:Int)(h:0<n):(pk c n:Int)<n:=by
 unfold pk
 have z0:=Int.emod_nonneg (if c<0 then -(c+1)else c) (show n≠0 by omega)
 have z1:=Int.emod_lt_of_pos (if c<0 then -(c+1)else c) h
 omega
theorem pk_eq(c n:Int)(h:0<n):(pk c n:Int)=(if c<0 then -(c+1)else c) % n:=by
 unfold pk
 have z0:=Int.emod_nonneg (if c<0 then -(c+1)else c) (show n≠0 by omega)
 omega
theorem pick_fun(c n:Int)(h0:-9223372036854775808≤c)(h1:c≤9223372036854775807)(h2:0<n)(h3:n<4611686018427387904)(w:World):
 Calls Tryz.prog 12 #[.int .i64 c,.int .i64 n] w fun e w'=>e=.returned (.int .i64 (pk c n:Int))∧w=w':=by
 by_cases hc:c<0
 ·go_enter Tryz.func12,Tryz.ntmps12
  go_wp2
  go_ret
  have e:(-(c+1)).tmod n=(-(c+1)) % n:=Int.tmod_eq_emod_of_nonneg (by omega)
  have z0:=Int.emod_nonneg (-(c+1)) (show n≠0 by omega)
  have z1:=Int.emod_lt_of_pos (-(c+1)) h2
  have hp:=pk_eq c n h2
  rw[if_pos hc]at hp
  refine⟨ret_int ?_,rfl⟩
  rw[hp,←Int.neg_tmod,e]
 ·go_enter Tryz.func12,Tryz.ntmps12
  go_wp2
  go_ret
  have z0:=Int.emod_nonneg c (show n≠0 by omega)
  have z1:=Int.emod_lt_of_pos c h2
  have hp:=pk_eq c n h2
  rw[if_neg (by omega)]at hp
  exact⟨ret_int (by rw[hp]),rfl⟩
structure NtOk(w:World)(N:Nt)(B:Nat):Prop where
 rep:NtR w N
 ok:AOk N.abs B
 st:ASt N.abs
 es:EOk N.abs
 some_:0<N.sps.length
theorem es_to{w w':World}{N N':Nt}(h:EOk N.abs)(t:NtTo w w' N N'):EOk N'.abs:=by
 have e1:N'.abs.es=N.abs.es:=t.es
 have e2:N'.abs.shape=N.abs.shape:=by
  have h1:=congrArg (List.map (fun x:Nat×Option Addr×Nat×List Nat=>x.2.2.2)) t.fix
  simp only[List.map_map]at h1
  have h2:∀M:Nt,M.abs.shape=M.sps.map ((fun x:Nat×Option Addr×Nat×List Nat=>x.2.2.2)∘Sp.fix):=fun M=>by
   simp[AN.shape,Nt.abs,Sp.abs,Sd.abs,Sp.fix,Function.comp_def]
  rw[h2,h2,h1]
 exact⟨by rw[e1];exact h.few,by rw[e1,e2];exact h.ends⟩
theorem NtOk.keepN{w w':World}{N:Nt}{B:Nat}(h:NtOk w N B)(k:Keep nil w w'):NtOk w' N B:=⟨h.rep.keep k (fun _ _ e=>e),h.ok,h.st,h.es,h.some_⟩
theorem st_wake(n:Nod):n.wake.state≠0:=by
 unfold Nod.wake
 split
 ·split<;>simp[Nod.setSt,Nod.send]
 ·assumption
theorem st_spread(n:Nod)(j l nm:Nat)(f:Bool):(n.spread j l nm f).state=n.state:=by
 unfold Nod.spread;split<;>rfl
theorem st_reports{n:Nod}(h:n.state≠0):n.reports.state≠0:=by
 unfold Nod.reports
 split
 ·split<;>simp[Nod.send]
 ·exact h
theorem st_tests{n:Nod}(h:n.state≠0):n.tests.state≠0:=by
 unfold Nod.tests
 split
 ·exact st_reports h
 ·exact h
theorem st_spreads(fr l nm:Nat)(f:Bool)(k:Nat):∀(n:Nod) (j:Nat),(n.spreads fr l nm f k j).state=n.state:=by
 induction k with
 |zero=>intro n j;rfl
 |succ k ih=>
  intro n j
  unfold Nod.spreads
  rw[ih]
  split
  ·exact st_spread n j l nm f
  ·rfl
theorem st_initiate(n:Nod)(fr l nm:Nat)(f:Bool):(n.initiate fr l nm f).state≠0:=by
 unfold Nod.initiate
 cases f with
 |true=>
  simp only[if_true]
  refine st_tests ?_
  rw[st_spreads];simp
 |false=>
  simp only[Bool.false_eq_true,if_false]
  rw[st_spreads];simp
theorem st_reject(n:Nod)(j:Nat):(n.reject j).state=n.state:=by unfold Nod.reject;split<;>rfl
theorem st_hear(n:Nod)(j w:Nat):(n.hear j w).state=n.state:=by unfold Nod.hear;split<;>rfl
theorem st_root(n:Nod):n.changeRoot.state=n.state:=by
 unfold Nod.changeRoot
 split
 ·rfl
 ·split<;>rfl
theorem st_act{n:Nod}(h:n.state≠0)(j:Nat)(m:NMsg):(n.act j m).1.state≠0:=by
 cases m with
 |connect l=>
  show (n.connect j l).1.state≠0
  unfold Nod.connect
  simp only
  split
  ·rw[st_spread];exact st_wake n
  ·split
   ·exact st_wake n
   ·exact st_wake n
 |initiate l nm f=>exact st_initiate n j l nm f
 |test l nm=>
  show (n.test j l nm).1.state≠0
  unfold Nod.test
  simp only
  split
  ·exact st_wake n
  ·split
   ·exact st_wake n
   ·split
    ·exact st_tests (by rw[st_reject];exact st_wake n)
    ·show (n.wake.reject j).state≠0
     rw[st_reject];exact st_wake n
 |accept=>
  show (n.accept j).state≠0
  unfold Nod.accept
  exact st_reports (by rw[st_hear];exact h)
 |reject=>
  show ((n.reject j).tests).state≠0
  exact st_tests (by rw[st_reject];exact h)
 |report w=>
  show (n.report j w).1.state≠0
  unfold Nod.report
  split
  ·split
   ·exact h
   ·split
    ·show n.changeRoot.state≠0
     rw[st_root];exact h
    ·split<;>exact h
  ·exact st_reports (by rw[st_hear];exact h)
 |root=>
  show n.changeRoot.state≠0
  rw[st_root];exact h
theorem st_oneOff(f:Nat):∀(n:Nod) (k:Nat),n.state≠0→(n.oneOff f k).1.state≠0:=by
 induction f with
 |zero=>intro n k h;exact h
 |succ f ih=>
  intro n k h
  unfold Nod.oneOff
  split
  ·exact h
  ·rename_i c _
   split
   ·exact st_act h c.1 c.2
   ·exact ih _ _ (st_act h c.1 c.2)
theorem st_offs(f:Nat):∀(n:Nod),n.state≠0→(n.offs f).state≠0:=by
 induction f with
 |zero=>intro n h;exact h
 |succ f ih=>
  intro n h
  unfold Nod.offs
  split
  ·exact ih _ (st_oneOff _ _ _ h)
  ·exact st_oneOff _ _ _ h
theorem st_take{n:Nod}(h:n.state≠0)(j:Nat)(m:Fr.Msg):(n.take j m).state≠0:=by
 unfold Nod.take
 split
 ·exact st_offs _ _ (st_act h j _)
 ·exact st_act h j _
def Awk(i:Nat)(A:AN):Prop:=∀n,A.nods[i]?=some n→n.state≠0
theorem awk_modN{i:Nat}{A:AN}(h:Awk i A)(k:Nat)(f:Nod→Nod)(hf:∀n:Nod,n.state≠0→(f n).state≠0):Awk i (A.modN k f):=by
 intro n hn
 rw[nods_modN]at hn
 obtain⟨x,hx,rfl⟩:=modify_get hn
 split
 ·exact hf x (h x hx)
 ·exact h x hx
theorem awk_nods{i:Nat}{A A':AN}(h:Awk i A)(e:A'.nods=A.nods):Awk i A':=by unfold Awk;rw[e];exact h
theorem awk_post{i:Nat}{A:AN}(h:Awk i A)(k:Nat):Awk i (A.post k):=by
 unfold AN.post
 exact awk_nods (awk_modN h k (fun n=>{ n with sent:=[]}) (fun n hn=>hn)) (nods_sends _ _ _)
theorem awk_woken(i:Nat)(A:AN):Awk i (A.wake i):=by
 refine awk_post (A:=A.modN i Nod.wake) ?_ i
 intro n hn
 rw[nods_modN]at hn
 obtain⟨x,hx,rfl⟩:=modify_get hn
 rw[if_pos rfl]
 exact st_wake x
theorem awk_takes{i:Nat}(t j:Nat)(l:List Fr.Msg):∀A:AN,Awk i A→Awk i (A.takes t j l):=by
 induction l with
 |nil=>intro A h;exact h
 |cons m r ih=>
  intro A h
  exact ih _ (awk_post (awk_modN h t _ (fun n hn=>st_take hn j m)) t)
theorem awk_deliver{i:Nat}{A:AN}(h:Awk i A)(k:Nat):Awk i (A.deliver k):=by
 unfold AN.deliver
 split
 ·exact h
 ·rename_i x _
  unfold AN.comes
  refine awk_takes _ _ _ _ (awk_nods h ?_)
  rw[nods_carry,nods_modE];rfl
end Go.Proofs.YtlfijfodklhplaaGreat
