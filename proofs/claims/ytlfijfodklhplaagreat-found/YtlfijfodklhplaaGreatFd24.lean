import Derived.Test.YtlfijfodklhplaaGreatFd23
set_option maxRecDepth 100000
set_option maxHeartbeats 4000000
set_option linter.unusedVariables false
set_option linter.unusedSimpArgs false
namespace Go.Proofs.YtlfijfodklhplaaGreat
open Go.RowKit
def pk(c n:Int):Nat:=((if c<0 then -(c+1)else c) % n).toNat
theorem pk_lt(c n:Int)(h:0<n):(pk c n:Int)<n:=by
 unfold pk
 have z0:=Int.emod_nonneg (if c<0 then -(c+1)else c) (show n≠0 by omega)
 have z1:=Int.emod_lt_of_pos (if c<0 then -(c+1)else c) h
 omega
theorem pk_eq(c n:Int)(h:0<n):(pk c n:Int)=(if c<0 then -(c+1)else c) % n:=by
 unfold pk
 have z0:=Int.emod_nonneg (if c<0 then -(c+1)else c) (show n≠0 by omega)
 omega
theorem pick_fun(c n:Int)(h0:-9223372036854775808≤c)(h1:c≤9223372036854775807)(h2:0<n)(h3:n<4611686018427387904)(w:World):
 Calls Tryz.prog 12 #[.int .i64 c,.int .i64 n] w fun e w'=>e=.returned (.int .i64 (pk c n:Int))∧w=w':=by
 by_cases hc:c<0
 ·go_enter Tryz.func12,Tryz.ntmps12
  go_wp2
  go_ret
  have e:(-(c+1)).tmod n=(-(c+1)) % n:=Int.tmod_eq_emod_of_nonneg (by omega)
  have z0:=Int.emod_nonneg (-(c+1)) (show n≠0 by omega)
  have z1:=Int.emod_lt_of_pos (-(c+1)) h2
  have hp:=pk_eq c n h2
  rw[if_pos hc]at hp
  refine⟨ret_int ?_,rfl⟩
  rw[hp,←Int.neg_tmod,e]
 ·go_enter Tryz.func12,Tryz.ntmps12
  go_wp2
  go_ret
  have z0:=Int.emod_nonneg c (show n≠0 by omega)
  have z1:=Int.emod_lt_of_pos c h2
  have hp:=pk_eq c n h2
  rw[if_neg (by omega)]at hp
  exact⟨ret_int (by rw[hp]),rfl⟩
structure Stp where
 kind:Int
 a:Int
 b:Int
noncomputable def AN.doesK(A:AN)(k kd nn:Nat)(sa sb:Int):AN:=
 match kd with
 |0=>A.wake (pk sa (nn:Int))
 |1=>A.tick (pk sa (nn:Int))
 |2=>if k<A.bag.length then A.lose k else A
 |3=>A.again k
 |4=>A.spoil k (pk sb 10) (1+pk (IntKind.i64.wrap (sb.tdiv 10)) 255)
 |5=>A.deliver 0
 |6=>A.deliver 0
 |7=>A.deliver 0
 |_=>A.deliver k
noncomputable def AN.does(A:AN)(s:Stp):AN:=A.doesK (pk s.a ((A.bag.length:Int)+1)) (pk s.kind 12) A.sps.length s.a s.b
theorem doesK_ge(A:AN)(k kd nn:Nat)(sa sb:Int)(h:(8:Int)≤(kd:Int)):A.doesK k kd nn sa sb=A.deliver k:=by
 obtain⟨m,rfl⟩:∃m,kd=m+8:=⟨kd - 8,by omega⟩
 rfl
def Stp.ok(s:Stp):Prop:=(-9223372036854775808≤s.kind∧s.kind≤9223372036854775807)∧(-9223372036854775808≤s.a∧s.a≤9223372036854775807)∧(-9223372036854775808≤s.b∧s.b≤9223372036854775807)
structure NtOk(w:World)(N:Nt)(B:Nat):Prop where
 rep:NtR w N
 ok:AOk N.abs B
 st:ASt N.abs
 es:EOk N.abs
 some_:0<N.sps.length
theorem es_to{w w':World}{N N':Nt}(h:EOk N.abs)(t:NtTo w w' N N'):EOk N'.abs:=by
 have e1:N'.abs.es=N.abs.es:=t.es
 have e2:N'.abs.shape=N.abs.shape:=by
  have h1:=congrArg (List.map (fun x:Nat×Option Addr×Nat×List Nat=>x.2.2.2)) t.fix
  simp only[List.map_map]at h1
  have h2:∀M:Nt,M.abs.shape=M.sps.map ((fun x:Nat×Option Addr×Nat×List Nat=>x.2.2.2)∘Sp.fix):=fun M=>by
   simp[AN.shape,Nt.abs,Sp.abs,Sd.abs,Sp.fix,Function.comp_def]
  rw[h2,h2,h1]
 exact⟨by rw[e1];exact h.few,by rw[e1,e2];exact h.ends⟩
theorem aok_mono{A:AN}{B B':Nat}(h:AOk A B)(hB:B≤B'):AOk A B':=
 ⟨h.few,fun i s hs=>by obtain⟨a,b,c⟩:=h.well i s hs;exact⟨a,b,by omega⟩,h.out,h.kept,h.bag,h.pk,h.sym⟩
def Nx(w w':World)(N:Nt)(B:Nat)(A:AN):Prop:=∃N',NtOk w' N' B∧N'.abs=A∧NtTo w w' N N'∧N'.way=N.way
theorem NtOk.keepN{w w':World}{N:Nt}{B:Nat}(h:NtOk w N B)(k:Keep nil w w'):NtOk w' N B:=⟨h.rep.keep k (fun _ _ e=>e),h.ok,h.st,h.es,h.some_⟩
theorem NtOk.same{w w':World}{N:Nt}{B B':Nat}(h:NtOk w N B)(k:Keep nil w w')(hB:B≤B'):Nx w w' N B' N.abs:=
 ⟨N,⟨h.rep.keep k (fun _ _ e=>e),aok_mono h.ok hB,h.st,h.es,h.some_⟩,rfl,NtTo.of_keep N k,rfl⟩
theorem NtOk.next{w w':World}{N N':Nt}{B B':Nat}{A:AN}(h:NtOk w N B)(r:NtR w' N')(a:N'.abs=A)(t:NtTo w w' N N')(wy:N'.way=N.way)(o:AOk N'.abs B')(hB:B'≤B+4)(st:ASt N'.abs):Nx w w' N (B+4) A:=
 ⟨N',⟨r,aok_mono o hB,st,es_to h.es t,by rw[t.len];exact h.some_⟩,a,t,wy⟩
theorem ok_wake(N:Nt)(k B:Nat)(w:World)(h:NtOk w N B)(hk:k<N.sps.length):
 Calls Tryz.prog 15 #[.pointer (some ⟨N.nb,0,none⟩),.int .i64 (k:Int)] w fun r w'=>∃v,r=.returned v∧Nx w w' N (B+4) (N.abs.wake k):=by
 refine awake N.nb k w ((mwake_any N k _ B w h.rep (List.getElem?_eq_getElem hk) h.ok h.st).mono ?_)
 rintro r w' ⟨rfl,N',b1,b2,b3,b4,b5,b6⟩
 exact⟨_,rfl,h.next b1 b2 b3 b4 b5 (by omega) b6⟩
theorem ok_tick(N:Nt)(k B:Nat)(w:World)(h:NtOk w N B)(hk:k<N.sps.length):
 Calls Tryz.prog 33 #[.pointer (some ⟨N.nb,0,none⟩),.int .i64 (k:Int)] w fun r w'=>∃v,r=.returned v∧Nx w w' N (B+4) (N.abs.tick k):=by
 refine atick N.nb k w ((mtick_any N k _ B w h.rep (List.getElem?_eq_getElem hk) h.ok h.st).mono ?_)
 rintro r w' ⟨rfl,N',b1,b2,b3,b4,b5,b6⟩
 exact⟨_,rfl,h.next b1 b2 b3 b4 b5 (by omega) b6⟩
theorem ok_lose(N:Nt)(k B:Nat)(w:World)(h:NtOk w N B):
 Calls Tryz.prog 35 #[.pointer (some ⟨N.nb,0,none⟩),.int .i64 (k:Int)] w fun r w'=>∃v,r=.returned v∧Nx w w' N (B+4) (if k<N.abs.bag.length then N.abs.lose k else N.abs):=by
 by_cases hk:k<N.L.length
 ·rw[if_pos (by rw[NtR.abs_len.1];exact hk)]
  refine alose N.nb k w ((mlose_yes N k _ B w h.rep (List.getElem?_eq_getElem hk) h.ok).mono ?_)
  rintro r w' ⟨rfl,N',b1,b2,b3,b4,b5⟩
  exact⟨_,rfl,h.next b1 b2 b3 b4 b5 (by omega) (by rw[b2];exact h.st)⟩
 ·rw[if_neg (by rw[NtR.abs_len.1];exact hk)]
  refine alose N.nb k w ((mlose_no N k w h.rep (by omega)).mono ?_)
  rintro r w' ⟨rfl,k1⟩
  exact⟨_,rfl,h.same k1 (by omega)⟩
theorem nods_add(A:AN)(x:AP):(A.add x).nods=A.nods:=by unfold AN.nods;rw[(add_sps A x).1]
theorem ok_again(N:Nt)(k B:Nat)(w:World)(h:NtOk w N B):
 Calls Tryz.prog 36 #[.pointer (some ⟨N.nb,0,none⟩),.int .i64 (k:Int)] w fun r w'=>∃v,r=.returned v∧Nx w w' N (B+4) (N.abs.again k):=by
 by_cases hk:k<N.L.length
 ·refine aagain N.nb k w ((magain_yes N k _ B w h.rep (List.getElem?_eq_getElem hk) h.ok).mono ?_)
  rintro r w' ⟨rfl,N',b1,b2,b3,b4,b5⟩
  refine⟨_,rfl,h.next b1 b2 b3 b4 b5 (by omega) ?_⟩
  rw[b2]
  unfold AN.again
  split
  ·exact h.st
  ·unfold ASt;rw[nods_add];exact h.st
 ·have e:N.abs.again k=N.abs:=by
   unfold AN.again
   rw[List.getElem?_eq_none (by rw[NtR.abs_len.1];omega)]
  rw[e]
  refine aagain N.nb k w ((magain_no N k w h.rep (by omega)).mono ?_)
  rintro r w' ⟨rfl,k1⟩
  exact⟨_,rfl,h.same k1 (by omega)⟩
theorem ok_deliver(N:Nt)(k B:Nat)(w:World)(h:NtOk w N B)(hB:B<4900):
 Calls Tryz.prog 32 #[.pointer (some ⟨N.nb,0,none⟩),.int .i64 (k:Int)] w fun r w'=>∃v,r=.returned v∧Nx w w' N (B+4) (N.abs.deliver k):=by
 by_cases hk:k<N.L.length
 ·refine adeliver N.nb k w ((mdeliver_yes N k _ B w h.rep (List.getElem?_eq_getElem hk) h.ok h.st hB).mono ?_)
  rintro r w' ⟨rfl,N',b1,b2,b3,b4,b5,b6⟩
  exact⟨_,rfl,h.next b1 b2 b3 b4 b5 (by omega) b6⟩
 ·have e:N.abs.deliver k=N.abs:=by
   unfold AN.deliver
   rw[List.getElem?_eq_none (by rw[NtR.abs_len.1];omega)]
  rw[e]
  refine adeliver N.nb k w ((mdeliver_no N k w h.rep (by omega)).mono ?_)
  rintro r w' ⟨rfl,k1⟩
  exact⟨_,rfl,h.same k1 (by omega)⟩
theorem ok_spoil(N:Nt)(k j y B:Nat)(w:World)(h:NtOk w N B)(hy:y<256):
 Calls Tryz.prog 37 #[.pointer (some ⟨N.nb,0,none⟩),.int .i64 (k:Int),.int .i64 (j:Int),.int .u8 (y:Int)] w fun r w'=>∃v,r=.returned v∧Nx w w' N (B+4) (N.abs.spoil k j y):=by
 by_cases hk:k<N.L.length
 ·refine aspoil N.nb k j y w ((mspoil_some N k j y _ B w h.rep (List.getElem?_eq_getElem hk) h.ok hy).mono ?_)
  rintro r w' ⟨z,rfl,N',b1,b2,b3,b4,b5⟩
  refine⟨_,rfl,h.next b1 b2 b3 b4 b5 (by omega) ?_⟩
  rw[b2]
  unfold AN.spoil
  split
  ·exact h.st
  ·split
   ·exact h.st
   ·exact h.st
 ·have e:N.abs.spoil k j y=N.abs:=by
   unfold AN.spoil
   rw[List.getElem?_eq_none (by rw[NtR.abs_len.1];omega)]
  rw[e]
  refine aspoil N.nb k j y w ((mspoil_none N k j y w h.rep (by omega)).mono ?_)
  rintro r w' ⟨rfl,k1⟩
  exact⟨_,rfl,h.same k1 (by omega)⟩
theorem does_any(N:Nt)(s:Stp)(B:Nat)(w:World)(h:NtOk w N B)(hs:s.ok)(hB:B<4900):
 Calls Tryz.prog 21 #[.pointer (some ⟨N.nb,0,none⟩),.int .i64 (N.sps.length:Int),.agg #[.int .i64 s.kind,.int .i64 s.a,.int .i64 s.b]] w fun r w'=>r=.returned (.tuple #[])∧∃N',NtOk w' N' (B+4)∧N'.abs=N.abs.does s∧NtTo w w' N N'∧N'.way=N.way:=by
 have H:Unit→NtOk w N B∧s.ok∧B<4900:=fun _=>⟨h,hs,hB⟩
 have HN:Unit→∀w',Keep nil w w'→NtOk w' N B:=fun _ w' k=>h.keepN k
 have HPK:Unit→∀w',Keep nil w w'→Calls Tryz.prog 24 #[.pointer (some ⟨N.nb,0,none⟩)] w' fun r w2=>∃v,r=.returned v∧∃a c,v=.slice a N.L.length c∧Keep nil w' w2:=fun _ w' k=>by
  refine apackets N.nb w' ((mpackets_any N B w' (h.keepN k).rep h.ok).mono ?_)
  rintro r w2 ⟨T,a,c,rfl,ht⟩
  have e:T.length=N.L.length:=by have:=congrArg List.length ht.same;simpa using this
  exact⟨_,rfl,a,c,by rw[e],ht.keep⟩
 have hb3:(N.L.length:Int)≤300:=by have:=h.ok.bag;rw[NtR.abs_len.1]at this;omega
 have hsp:(N.sps.length:Int)≤1000:=by have:=h.ok.few;rw[NtR.abs_len.2]at this;omega
 have hs0:0<(N.sps.length:Int):=by have:=h.some_;omega
 have HPI:Unit→∀(c n:Int),(-9223372036854775808≤c∧c≤9223372036854775807)→0<n→n<1000000→∀w',Calls Tryz.prog 12 #[.int .i64 c,.int .i64 n] w' fun e w2=>e=.returned (.int .i64 (pk c n:Int))∧w'=w2:=fun _ c n hc h0 h1 w'=>pick_fun c n hc.1 hc.2 h0 (by omega) w'
 obtain⟨nb,hnb⟩:∃nb,nb=N.nb:=⟨_,rfl⟩
 have HNB:Unit→nb=N.nb:=fun _=>hnb
 obtain⟨ll,hll⟩:∃ll,ll=N.L.length:=⟨_,rfl⟩
 have HLL:Unit→ll=N.L.length:=fun _=>hll
 obtain⟨nn,hnn⟩:∃nn,nn=N.sps.length:=⟨_,rfl⟩
 have HNN:Unit→nn=N.sps.length:=fun _=>hnn
 rw[←hnb,←hll]at HPK
 rw[←hll]at hb3
 rw[←hnn]at hsp hs0
 rw[←hnb,←hnn]
 obtain⟨sk,sa,sb⟩:=s
 simp only
 clear h hs hB hnb hll hnn
 go_enter Tryz.func21,Tryz.ntmps21
 go_wp2_with fail
 obtain⟨W1,hW1⟩:∃W1,W1=w.alloc (Obj.cells #[.int .i64 sk,.int .i64 sa,.int .i64 sb] 48):=⟨_,rfl⟩
 obtain⟨xb,hxb⟩:∃xb,xb=w.heap.size:=⟨_,rfl⟩
 have K1:Unit→Keep nil w W1∧Blk W1 xb #[.int .i64 sk,.int .i64 sa,.int .i64 sb] 48:=fun _=>by rw[hW1,hxb];exact⟨(Keep.refl nil w).alloc _,Blk.new _ _ _⟩
 rw[←hW1,←hxb]
 have HXB:Unit→xb=w.heap.size:=fun _=>hxb
 clear hW1 hxb
 refine Calls.mono (HPK () W1 (K1 ()).1) ?_
 rintro r w2 ⟨v,rfl,a,c,rfl,hk2⟩
 have K2:Unit→Keep nil w w2∧Blk w2 xb #[.int .i64 sk,.int .i64 sa,.int .i64 sb] 48:=fun _=>⟨(K1 ()).1.trans hk2,(K1 ()).2.keep hk2 id⟩
 have x0:w2.cell? ⟨xb,0,none⟩=some (.int .i64 sk):=by rw[(K2 ()).2.cell];rfl
 have x1:w2.cell? ⟨xb,1,none⟩=some (.int .i64 sa):=by rw[(K2 ()).2.cell];rfl
 have x2:w2.cell? ⟨xb,2,none⟩=some (.int .i64 sb):=by rw[(K2 ()).2.cell];rfl
 have hxl:=(K2 ()).2.lt
 have HP1:Unit→∀w',_:=fun _ w'=>HPI () sa ((ll:Int)+1) (H ()).2.1.2.1 (by omega) (by omega) w'
 have HP2:Unit→∀w',_:=fun _ w'=>HPI () sk 12 (H ()).2.1.1 (by omega) (by omega) w'
 clear HPK hk2
 go_wp2_with fail
 refine Calls.mono (HP1 () w2) ?_
 rintro r w3 ⟨rfl,rfl⟩
 obtain⟨kz,hkz⟩:∃kz,kz=pk sa ((ll:Int)+1):=⟨_,rfl⟩
 have HKZ:Unit→kz=pk sa ((ll:Int)+1):=fun _=>hkz
 rw[←hkz]
 clear HP1 hkz
 go_wp2_with fail
 refine Calls.mono (HP2 () w2) ?_
 rintro r w3 ⟨rfl,rfl⟩
 obtain⟨kd,hkd⟩:∃kd,kd=pk sk 12:=⟨_,rfl⟩
 have HKD:Unit→kd=pk sk 12:=fun _=>hkd
 rw[←hkd]
 have hk12:(kd:Int)<12:=by rw[hkd];exact pk_lt sk 12 (by omega)
 have hkc:kd=0∨kd=1∨kd=2∨kd=3∨kd=4∨kd=5∨kd=6∨kd=7∨(8:Int)≤(kd:Int):=by omega
 clear HP2 hkd hk12
 have HX:Unit→∀(w4:World) (A:AN),Nx w2 w4 N (B+4) A→A=N.abs.does ⟨sk,sa,sb⟩→∃N',NtOk w4 N' (B+4)∧N'.abs=N.abs.does ⟨sk,sa,sb⟩∧NtTo w w4 N N'∧N'.way=N.way:=fun _ w4 A ⟨N',a1,a2,a3,a4⟩ e=>⟨N',a1,a2.trans e,(NtTo.of_keep N (K2 ()).1).trans a3,a4⟩
 have HDK:Unit→N.abs.does ⟨sk,sa,sb⟩=N.abs.doesK kz kd nn sa sb:=fun _=>by
  unfold AN.does
  rw[NtR.abs_len.1,NtR.abs_len.2,←HLL (),←HNN (),←HKZ (),←HKD ()]
 rcases hkc with rfl|rfl|rfl|rfl|rfl|rfl|rfl|rfl|hk8
 ·have HP3:Unit→∀w',_:=fun _ w'=>HPI () sa (nn:Int) (H ()).2.1.2.1 hs0 (by omega) w'
  clear HPI
  go_wp2_with fail
  refine Calls.mono (HP3 () w2) ?_
  rintro r w3 ⟨rfl,rfl⟩
  have hpn:pk sa (nn:Int)<N.sps.length:=by have:=pk_lt sa (nn:Int) hs0;rw[←HNN ()];omega
  obtain⟨pz,hpz⟩:∃pz,pz=pk sa (nn:Int):=⟨_,rfl⟩
  rw[←hpz]at hpn⊢
  have HPZ:Unit→pz=pk sa (nn:Int)∧pz<N.sps.length:=fun _=>⟨hpz,hpn⟩
  clear HP3 hpz hpn
  go_wp2_with fail
  refine Calls.mono (by have:=ok_wake N pz B w2 (HN () w2 (K2 ()).1) (HPZ ()).2;rw[←HNB ()]at this;exact this) ?_
  rintro r w4 ⟨v,rfl,hx⟩
  have HF:Unit→_:=fun _=>HX () w4 _ hx (by rw[HDK (),(HPZ ()).1];rfl)
  clear HX hx x0 x1 x2 hxl
  go_wp2
  go_end0
  exact⟨rfl,HF ()⟩
 ·have HP3:Unit→∀w',_:=fun _ w'=>HPI () sa (nn:Int) (H ()).2.1.2.1 hs0 (by omega) w'
  clear HPI
  go_wp2_with fail
  refine Calls.mono (HP3 () w2) ?_
  rintro r w3 ⟨rfl,rfl⟩
  have hpn:pk sa (nn:Int)<N.sps.length:=by have:=pk_lt sa (nn:Int) hs0;rw[←HNN ()];omega
  obtain⟨pz,hpz⟩:∃pz,pz=pk sa (nn:Int):=⟨_,rfl⟩
  rw[←hpz]at hpn⊢
  have HPZ:Unit→pz=pk sa (nn:Int)∧pz<N.sps.length:=fun _=>⟨hpz,hpn⟩
  clear HP3 hpz hpn
  go_wp2_with fail
  refine Calls.mono (by have:=ok_tick N pz B w2 (HN () w2 (K2 ()).1) (HPZ ()).2;rw[←HNB ()]at this;exact this) ?_
  rintro r w4 ⟨v,rfl,hx⟩
  have HF:Unit→_:=fun _=>HX () w4 _ hx (by rw[HDK (),(HPZ ()).1];rfl)
  clear HX hx x0 x1 x2 hxl
  go_wp2
  go_end0
  exact⟨rfl,HF ()⟩
 ·clear HPI
  go_wp2_with fail
  refine Calls.mono (by have:=ok_lose N kz B w2 (HN () w2 (K2 ()).1);rw[←HNB ()]at this;exact this) ?_
  rintro r w4 ⟨v,rfl,hx⟩
  have HF:Unit→_:=fun _=>HX () w4 _ hx (by rw[HDK ()];rfl)
  clear HX hx x0 x1 x2 hxl
  go_wp2
  go_end0
  exact⟨rfl,HF ()⟩
 ·clear HPI
  go_wp2_with fail
  refine Calls.mono (by have:=ok_again N kz B w2 (HN () w2 (K2 ()).1);rw[←HNB ()]at this;exact this) ?_
  rintro r w4 ⟨v,rfl,hx⟩
  have HF:Unit→_:=fun _=>HX () w4 _ hx (by rw[HDK ()];rfl)
  clear HX hx x0 x1 x2 hxl
  go_wp2
  go_end0
  exact⟨rfl,HF ()⟩
 ·obtain⟨pj,hpj⟩:∃pj,pj=pk sb 10:=⟨_,rfl⟩
  obtain⟨pq,hpq⟩:∃pq,pq=pk (IntKind.i64.wrap (sb.tdiv 10)) 255:=⟨_,rfl⟩
  obtain⟨cx,hcx⟩:∃cx,cx=IntKind.i64.wrap (sb.tdiv 10):=⟨_,rfl⟩
  have hwr:-9223372036854775808≤cx∧cx≤9223372036854775807:=by rw[hcx,IntKind.wrap_i64];omega
  have HP3:Unit→∀w',_:=fun _ w'=>HPI () sb 10 (H ()).2.1.2.2 (by omega) (by omega) w'
  have HP4:Unit→∀w',_:=fun _ w'=>HPI () cx 255 hwr (by omega) (by omega) w'
  rw[←hpj]at HP3
  rw[hcx,←hpq]at HP4
  have hq9:(pq:Int)<255:=by rw[hpq];exact pk_lt _ 255 (by omega)
  have hq8:(1:Int)+(pq:Int)<256:=by omega
  have HSP:Unit→∀w',Keep nil w2 w'→Calls Tryz.prog 37 #[.pointer (some ⟨nb,0,none⟩),.int .i64 (kz:Int),.int .i64 (pj:Int),.int .u8 (1+(pq:Int))] w' fun r w5=>∃v,r=.returned v∧Nx w2 w5 N (B+4) (N.abs.spoil kz pj (1+pq)):=fun _ w' k'=>by
   have h1:=ok_spoil N kz pj (1+pq) B w' (HN () w' ((K2 ()).1.trans k')) (by omega)
   rw[←HNB ()]at h1
   have e1:(((1+pq:Nat)):Int)=1+(pq:Int):=by omega
   rw[e1]at h1
   refine h1.mono ?_
   rintro r w5 ⟨v,rfl,N',a1,a2,a3,a4⟩
   exact⟨v,rfl,N',a1,a2,(NtTo.of_keep N k').trans a3,a4⟩
  have HXC:Unit→∀(w5:World) (A:AN),Nx w2 w5 N (B+4) A→w5.cell? ⟨xb,2,none⟩=some (.int .i64 sb):=fun _ w5 A ⟨N',a1,a2,a3,a4⟩=>by
   refine(a3.keep.cell xb 2 hxl (fun e=>?_)).trans x2
   have h1:=(H ()).1.rep.Olt e
   have h2:=HXB ()
   omega
  have HPJ:Unit→pj=pk sb 10∧pq=pk (IntKind.i64.wrap (sb.tdiv 10)) 255:=fun _=>⟨hpj,hpq⟩
  clear HPI hpj hpq hwr hcx
  have hw1:IntKind.i64.wrap (1+(pq:Int))=1+(pq:Int):=by rw[IntKind.wrap_i64];omega
  have hw2:IntKind.u8.wrap (1+(pq:Int))=1+(pq:Int):=by rw[IntKind.wrap_u8];omega
  clear hq8 hq9 hb3 hsp hs0
  go_wp2_with fail
  go_region_held3 (fun w'=>w'.cell? ⟨xb,2,none⟩=some (.int .i64 sb)) (first|exact x2|exact HXC () _ _ hx) (first|(go_at_call_of 12 (Value.int IntKind.i64 sb);refine(HP3 () _).mono ?_;rintro r w3 ⟨rfl,rfl⟩)|(go_at_call 12;refine(HP4 () _).mono ?_;rintro r w3 ⟨rfl,rfl⟩)|(go_at_call 37;refine(HSP () _ ((Keep.refl nil w2).drew)).mono ?_;rintro r w5 ⟨v,rfl,hx⟩))
  have HF:Unit→_:=fun _=>HX () w5 _ hx (by rw[HDK (),(HPJ ()).1,(HPJ ()).2];rfl)
  clear HX hx x0 x1 x2 hxl HXC HSP HP3 HP4
  go_wp2
  go_end0
  exact⟨rfl,HF ()⟩
 ·clear HPI
  go_wp2_with fail
  refine Calls.mono (by have:=ok_deliver N 0 B w2 (HN () w2 (K2 ()).1) (H ()).2.2;rw[←HNB ()]at this;exact this) ?_
  rintro r w4 ⟨v,rfl,hx⟩
  have HF:Unit→_:=fun _=>HX () w4 _ hx (by rw[HDK ()];rfl)
  clear HX hx x0 x1 x2 hxl
  go_wp2
  go_end0
  exact⟨rfl,HF ()⟩
 ·clear HPI
  go_wp2_with fail
  refine Calls.mono (by have:=ok_deliver N 0 B w2 (HN () w2 (K2 ()).1) (H ()).2.2;rw[←HNB ()]at this;exact this) ?_
  rintro r w4 ⟨v,rfl,hx⟩
  have HF:Unit→_:=fun _=>HX () w4 _ hx (by rw[HDK ()];rfl)
  clear HX hx x0 x1 x2 hxl
  go_wp2
  go_end0
  exact⟨rfl,HF ()⟩
 ·clear HPI
  go_wp2_with fail
  refine Calls.mono (by have:=ok_deliver N 0 B w2 (HN () w2 (K2 ()).1) (H ()).2.2;rw[←HNB ()]at this;exact this) ?_
  rintro r w4 ⟨v,rfl,hx⟩
  have HF:Unit→_:=fun _=>HX () w4 _ hx (by rw[HDK ()];rfl)
  clear HX hx x0 x1 x2 hxl
  go_wp2
  go_end0
  exact⟨rfl,HF ()⟩
 ·clear HPI
  go_wp2_with fail
  refine Calls.mono (by have:=ok_deliver N kz B w2 (HN () w2 (K2 ()).1) (H ()).2.2;rw[←HNB ()]at this;exact this) ?_
  rintro r w4 ⟨v,rfl,hx⟩
  have HF:Unit→_:=fun _=>HX () w4 _ hx (by rw[HDK ()];exact(doesK_ge _ _ _ _ _ _ hk8).symm)
  clear HX hx x0 x1 x2 hxl
  go_wp2
  go_end0
  exact⟨rfl,HF ()⟩
theorem st_wake(n:Nod):n.wake.state≠0:=by
 unfold Nod.wake
 split
 ·split<;>simp[Nod.setSt,Nod.send]
 ·assumption
theorem st_spread(n:Nod)(j l nm:Nat)(f:Bool):(n.spread j l nm f).state=n.state:=by
 unfold Nod.spread;split<;>rfl
theorem st_reports{n:Nod}(h:n.state≠0):n.reports.state≠0:=by
 unfold Nod.reports
 split
 ·split<;>simp[Nod.send]
 ·exact h
theorem st_tests{n:Nod}(h:n.state≠0):n.tests.state≠0:=by
 unfold Nod.tests
 split
 ·exact st_reports h
 ·exact h
theorem st_spreads(fr l nm:Nat)(f:Bool)(k:Nat):∀(n:Nod) (j:Nat),(n.spreads fr l nm f k j).state=n.state:=by
 induction k with
 |zero=>intro n j;rfl
 |succ k ih=>
  intro n j
  unfold Nod.spreads
  rw[ih]
  split
  ·exact st_spread n j l nm f
  ·rfl
theorem st_initiate(n:Nod)(fr l nm:Nat)(f:Bool):(n.initiate fr l nm f).state≠0:=by
 unfold Nod.initiate
 cases f with
 |true=>
  simp only[if_true]
  refine st_tests ?_
  rw[st_spreads];simp
 |false=>
  simp only[Bool.false_eq_true,if_false]
  rw[st_spreads];simp
theorem st_reject(n:Nod)(j:Nat):(n.reject j).state=n.state:=by unfold Nod.reject;split<;>rfl
theorem st_hear(n:Nod)(j w:Nat):(n.hear j w).state=n.state:=by unfold Nod.hear;split<;>rfl
theorem st_root(n:Nod):n.changeRoot.state=n.state:=by
 unfold Nod.changeRoot
 split
 ·rfl
 ·split<;>rfl
theorem st_act{n:Nod}(h:n.state≠0)(j:Nat)(m:NMsg):(n.act j m).1.state≠0:=by
 cases m with
 |connect l=>
  show (n.connect j l).1.state≠0
  unfold Nod.connect
  simp only
  split
  ·rw[st_spread];exact st_wake n
  ·split
   ·exact st_wake n
   ·exact st_wake n
 |initiate l nm f=>exact st_initiate n j l nm f
 |test l nm=>
  show (n.test j l nm).1.state≠0
  unfold Nod.test
  simp only
  split
  ·exact st_wake n
  ·split
   ·exact st_wake n
   ·split
    ·exact st_tests (by rw[st_reject];exact st_wake n)
    ·show (n.wake.reject j).state≠0
     rw[st_reject];exact st_wake n
 |accept=>
  show (n.accept j).state≠0
  unfold Nod.accept
  exact st_reports (by rw[st_hear];exact h)
 |reject=>
  show ((n.reject j).tests).state≠0
  exact st_tests (by rw[st_reject];exact h)
 |report w=>
  show (n.report j w).1.state≠0
  unfold Nod.report
  split
  ·split
   ·exact h
   ·split
    ·show n.changeRoot.state≠0
     rw[st_root];exact h
    ·split<;>exact h
  ·exact st_reports (by rw[st_hear];exact h)
 |root=>
  show n.changeRoot.state≠0
  rw[st_root];exact h
theorem st_oneOff(f:Nat):∀(n:Nod) (k:Nat),n.state≠0→(n.oneOff f k).1.state≠0:=by
 induction f with
 |zero=>intro n k h;exact h
 |succ f ih=>
  intro n k h
  unfold Nod.oneOff
  split
  ·exact h
  ·rename_i c _
   split
   ·exact st_act h c.1 c.2
   ·exact ih _ _ (st_act h c.1 c.2)
theorem st_offs(f:Nat):∀(n:Nod),n.state≠0→(n.offs f).state≠0:=by
 induction f with
 |zero=>intro n h;exact h
 |succ f ih=>
  intro n h
  unfold Nod.offs
  split
  ·exact ih _ (st_oneOff _ _ _ h)
  ·exact st_oneOff _ _ _ h
theorem st_take{n:Nod}(h:n.state≠0)(j:Nat)(m:Fr.Msg):(n.take j m).state≠0:=by
 unfold Nod.take
 split
 ·exact st_offs _ _ (st_act h j _)
 ·exact st_act h j _
def Awk(i:Nat)(A:AN):Prop:=∀n,A.nods[i]?=some n→n.state≠0
theorem awk_modN{i:Nat}{A:AN}(h:Awk i A)(k:Nat)(f:Nod→Nod)(hf:∀n:Nod,n.state≠0→(f n).state≠0):Awk i (A.modN k f):=by
 intro n hn
 rw[nods_modN]at hn
 obtain⟨x,hx,rfl⟩:=modify_get hn
 split
 ·exact hf x (h x hx)
 ·exact h x hx
theorem awk_nods{i:Nat}{A A':AN}(h:Awk i A)(e:A'.nods=A.nods):Awk i A':=by unfold Awk;rw[e];exact h
theorem awk_post{i:Nat}{A:AN}(h:Awk i A)(k:Nat):Awk i (A.post k):=by
 unfold AN.post
 exact awk_nods (awk_modN h k (fun n=>{ n with sent:=[]}) (fun n hn=>hn)) (nods_sends _ _ _)
theorem awk_woken(i:Nat)(A:AN):Awk i (A.wake i):=by
 refine awk_post (A:=A.modN i Nod.wake) ?_ i
 intro n hn
 rw[nods_modN]at hn
 obtain⟨x,hx,rfl⟩:=modify_get hn
 rw[if_pos rfl]
 exact st_wake x
theorem awk_takes{i:Nat}(t j:Nat)(l:List Fr.Msg):∀A:AN,Awk i A→Awk i (A.takes t j l):=by
 induction l with
 |nil=>intro A h;exact h
 |cons m r ih=>
  intro A h
  exact ih _ (awk_post (awk_modN h t _ (fun n hn=>st_take hn j m)) t)
theorem awk_deliver{i:Nat}{A:AN}(h:Awk i A)(k:Nat):Awk i (A.deliver k):=by
 unfold AN.deliver
 split
 ·exact h
 ·rename_i x _
  unfold AN.comes
  refine awk_takes _ _ _ _ (awk_nods h ?_)
  rw[nods_carry,nods_modE];rfl
end Go.Proofs.YtlfijfodklhplaaGreat
