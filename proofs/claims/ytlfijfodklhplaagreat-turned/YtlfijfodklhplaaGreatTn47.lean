import Derived.Test.YtlfijfodklhplaaGreatTn46
set_option linter.unusedVariables false
set_option linter.unusedSimpArgs false
namespace Go.Proofs.YtlfijfodklhplaaGreat.Ghs.V
open Go.RowKit
open Ghs NMsg
theorem Net.old{G:Gr}{T:Top G}{K:Nat}{Q:Nat→Prop}{nodes:Nat→Nod}{chan:Nat→Nat→List NMsg}(h:Net G T K Q nodes chan):Ghs.Net G T Q nodes chan:=by
 obtain⟨P,⟨⟨s,g,h',hR,hI,a,b⟩,hN⟩,hl⟩:=h.good
 exact⟨⟨P,⟨s,g,h',hR,hI.inv,a,b⟩,hl⟩,h.rng,h.slp,h.stb⟩
theorem Net.few{G:Gr}{T:Top G}{K:Nat}{Q:Nat→Prop}{nodes:Nat→Nod}{chan:Nat→Nat→List NMsg}(h:Net G T K Q nodes chan)(h8:G.n≤8)(h1:1≤G.n)(ms:List (Nat×Nat))(hms:∀u v,G.mst u v∨G.mst v u→(u,v)∈ms)(hml:ms.length≤14)(es:List (Nat×Nat))(hes:∀u v,G.adj u v→(u,v)∈es)(hel:es.length≤50):K+sentN G nodes≤340:=by
 obtain⟨P,⟨⟨s,g,h',hR,hI,a,b⟩,hN⟩,hl⟩:=h.good
 exact hI.cnt.bound hI.inv h8 h1 ms hms hml es hes hel
theorem Net.rest{G:Gr}{T:Top G}{K:Nat}{nodes:Nat→Nod}{chan:Nat→Nat→List NMsg}(h:Net G T K (fun _=>True) nodes chan)(hc:∀v j,j<T.dg v→chan (T.nb v j) v=[])(hs:∀u,(nodes u).sent=[])
 (hconn:∀S:Nat→Prop,S 0→(∀z v,G.adj z v→(S z↔S v))→∀z,z<G.n→S z) {z:Nat} (hz:(nodes z).state≠0) (ha:∃v,G.adj z v):
 ∃a b l j,a<G.n∧b<G.n∧j<T.dg a∧T.nb a j=b∧(nodes a).st j=1∧1≤l∧(nodes a).over=true∧(nodes b).over=true∧(∀x,x<G.n→(nodes x).over=true→x=a∨x=b)∧∀x,x<G.n→(nodes x).state=2∧(nodes x).level=l:=by
 obtain⟨P,⟨⟨s,g,h',hR,hI,htk,htg⟩,hN⟩,hl⟩:=h.good
 have hquiet:Quiet s:=by
  intro u v m hm
  have hadj:=(hI.inv.q0 u v m hm).1
  obtain⟨i,hi,ei⟩:=T.sur u v hadj
  obtain⟨j,hj,ej⟩:=T.sur v u (G.sym _ _ hadj)
  have h1:=hR.q u i hi
  have h2:=hl v j hj
  rw[ei]at h1
  rw[hc v j hj,ej]at h2
  have h3:sentTo (nodes u) i=[]:=by simp[sentTo,hs u]
  rw[h1,h2,h3]at hm
  simp at hm
  have hmo:=mem_offFrom.1 hm
  have hst:=h.stb v trivial _ hmo
  dsimp only at hst
  have haw:(nodes v).state≠0:=fun e=>by rw[h.slp v e]at hmo;cases hmo
  have h0:=hR.nr v
  refine⟨h0.aw.2 haw,?_⟩
  cases m with
  |connect l=>
   simp only[Nod.act,Nod.connect,wake_of haw]at hst
   split at hst
   ·cases hst
   ·rename_i c1
    split at hst
    ·rename_i c2
     refine⟨by rw[h0.lev];exact c1,?_⟩
     rw[←ej,h0.se j hj];exact c2
    ·cases hst
  |initiate l n f=>simp[Nod.act]at hst
  |test l n=>
   simp only[Nod.act,Nod.test,wake_of haw]at hst
   split at hst
   ·rename_i c1
    show s.lev v<l
    rw[h0.lev];exact c1
   ·split at hst
    ·cases hst
    ·split at hst<;>cases hst
  |accept=>simp[Nod.act]at hst
  |reject=>simp[Nod.act]at hst
  |report w=>
   simp only[Nod.act,Nod.report]at hst
   split at hst
   ·rename_i c1
    split at hst
    ·rename_i c2
     refine⟨?_,h0.fnd.2 c2⟩
     rw[h0.inn,c1]
     simp[ej]
    ·split at hst
     ·cases hst
     ·split at hst<;>cases hst
   ·cases hst
  |root=>simp[Nod.act]at hst
 have hn:∀x,s.fnd x=true→s.tst x≠none∨s.cnt x≠0:=fun x hx=>by
  have h0:=hR.nr x
  rcases (hN x).2 (h0.fnd.1 hx)with c|c
  ·left
   rw[h0.tst]
   cases e:(nodes x).tested with
   |none=>exact(c e).elim
   |some j=>simp
  ·right
   intro e
   have:=h0.cnt
   rw[e]at this
   exact c this
 obtain⟨a,b,c1,c2,c3,c4,c5,c6,c7⟩:=Quiet.all hI.inv hI.pro hquiet htk hn hconn ((hR.nr z).aw.2 hz) ha
 have hdb:=hI.inv.st.pr a b c1.1
 obtain⟨j,hj,ej⟩:=T.sur a b (hI.inv.st.sa a b (by have:=hdb.1;omega)).1
 refine⟨a,b,g.L a,j,c2,c3,hj,ej,?_,?_,?_,?_,fun x hx ho=>c6 x hx ?_,fun x hx=>⟨?_,?_⟩⟩
 ·rw[←(hR.nr a).se j hj,ej];exact hdb.1
 ·exact(hI.inv.st.p0 a (hI.inv.st.co a b c1).1).1
 ·rw[←(hR.nr a).over];exact c4
 ·rw[←(hR.nr b).over];exact c5
 ·rw[(hR.nr x).over];exact ho
 ·have h0:=hR.nr x
  obtain⟨d1,d2,d3,d4⟩:=c7 x hx
  have e1:=h0.aw.1 d1
  have e2:(nodes x).state≠1:=fun e=>by rw[h0.fnd.2 e]at d2;cases d2
  have e3:=(hN x).1
  omega
 ·rw[←(hR.nr x).lev];exact(c7 x hx).2.2.1
def hsum{G:Gr}(T:Top G)(H R:Nat→Nat→List Fr.Msg):Nat:=S1 G.n (fun u=>S1 (T.dg u) (fun j=>(H u (T.nb u j)).length+(R u (T.nb u j)).length))
theorem hsum_eq{G:Gr}{T:Top G}{H R H' R':Nat→Nat→List Fr.Msg}(h:∀u j,j<T.dg u→(H' u (T.nb u j)).length+(R' u (T.nb u j)).length=(H u (T.nb u j)).length+(R u (T.nb u j)).length):hsum T H' R'=hsum T H R:=S1_eq _ _ _ (fun u _=>S1_eq _ _ _ (fun j hj=>h u j hj))
structure LInv(G:Gr)(T:Top G)(S:LS)(H D R:Nat→Nat→List Fr.Msg):Prop where
 dir:∀u j k,j<T.dg u→k<T.dg (T.nb u j)→T.nb (T.nb u j) k=u→Dir (S.en u j) (S.en (T.nb u j) k) (fun f=>(u,T.nb u j,some f)∈S.bag) (fun f=>(T.nb u j,u,some f)∈S.bag) (H u (T.nb u j))
 out:∀u j,(S.en u j).out=[]
 net:∃chan,Net G T (hsum T H R) (fun _=>True) S.nodes chan∧∀u j k,j<T.dg u→k<T.dg (T.nb u j)→T.nb (T.nb u j) k=u→chan u (T.nb u j)=(D u (T.nb u j)++(H u (T.nb u j)).drop (S.en (T.nb u j) k).await++R u (T.nb u j)).map typed
theorem LInv.less{G:Gr}{T:Top G}{S:LS}{H D R:Nat→Nat→List Fr.Msg}(h:LInv G T S H D R)(bag':List (Nat×Nat×Option Fr.Frm))(hb:∀u v f,(u,v,some f)∈bag'→(u,v,some f)∈S.bag):LInv G T { S with bag:=bag'} H D R:=
 ⟨fun u j k hj hk e=>(h.dir u j k hj hk e).less (fun f=>hb _ _ f) (fun f=>hb _ _ f),h.out,h.net⟩
theorem LInv.mod{G:Gr}{T:Top G}{S:LS}{H D R:Nat→Nat→List Fr.Msg}(h:LInv G T S H D R){u j k:Nat}(hj:j<T.dg u)(hk:k<T.dg (T.nb u j))(e:T.nb (T.nb u j) k=u)(e':En)(bag':List (Nat×Nat×Option Fr.Frm))(H':Nat→Nat→List Fr.Msg)(D' R':Nat→Nat→List Fr.Msg)
 (hb:∀x y f,(x,y,some f)∈bag'→(x,y,some f)∈S.bag∨(x=u∧y=T.nb u j)) (ho:e'.out=[])
 (hH:∀x y,¬(x=u∧y=T.nb u j)→H' x y=H x y)
 (d1:Dir e' (S.en (T.nb u j) k) (fun f=>(u,T.nb u j,some f)∈bag') (fun f=>(T.nb u j,u,some f)∈bag') (H' u (T.nb u j)))
 (d2:Dir (S.en (T.nb u j) k) e' (fun f=>(T.nb u j,u,some f)∈bag') (fun f=>(u,T.nb u j,some f)∈bag') (H (T.nb u j) u))
 (hn:∃chan,Net G T (hsum T H' R') (fun _=>True) S.nodes chan∧∀x y z,y<T.dg x→z<T.dg (T.nb x y)→T.nb (T.nb x y) z=x→chan x (T.nb x y)=(D' x (T.nb x y)++(H' x (T.nb x y)).drop (upd2 S.en u j e' (T.nb x y) z).await++R' x (T.nb x y)).map typed):
 LInv G T { S with en:=upd2 S.en u j e',bag:=bag'} H' D' R':=by
 have huv:u≠T.nb u j:=fun x=>by have:=T.adj u j hj;rw[←x]at this;exact G.irr _ this
 refine⟨fun x y z hy hz hx=>?_,fun x y=>?_,hn⟩
 ·dsimp only
  by_cases c1:x=u∧y=j
  ·obtain⟨rfl,rfl⟩:=c1
   have:z=k:=T.inj _ _ _ hz hk (hx.trans e.symm)
   subst this
   have e1:upd2 S.en x y e' x y=e':=by simp[upd2]
   have e2:upd2 S.en x y e' (T.nb x y) z=S.en (T.nb x y) z:=by simp[upd2,huv.symm]
   rw[e1,e2];exact d1
  ·by_cases c2:T.nb x y=u∧z=j
   ·obtain⟨c2,rfl⟩:=c2
    have hxv:x=T.nb u z:=by rw[←hx,c2]
    subst hxv
    have hyk:y=k:=T.inj _ _ _ hy hk (c2.trans e.symm)
    subst hyk
    rw[c2]
    have e1:upd2 S.en u z e' (T.nb u z) y=S.en (T.nb u z) y:=by simp[upd2,huv.symm]
    have e2:upd2 S.en u z e' u z=e':=by simp[upd2]
    rw[e1,e2,hH _ _ (fun c=>huv c.1.symm)]
    exact d2
   ·have n1:¬(x=u∧T.nb x y=T.nb u j):=fun c=>by
     obtain⟨rfl,c⟩:=c
     exact c1 ⟨rfl,T.inj _ _ _ hy hj c⟩
    have n2:¬(T.nb x y=u∧x=T.nb u j):=fun c=>by
     obtain⟨ca,cb⟩:=c
     refine c2 ⟨ca,?_⟩
     have h3:z<T.dg u:=by rw[←ca];exact hz
     refine T.inj u z j h3 hj ?_
     rw[←cb,←ca];exact hx
    have e1:upd2 S.en u j e' x y=S.en x y:=by simp only[upd2,if_neg c1]
    have e2:upd2 S.en u j e' (T.nb x y) z=S.en (T.nb x y) z:=by simp only[upd2,if_neg c2]
    rw[e1,e2,hH _ _ n1]
    refine(h.dir x y z hy hz hx).less (fun f hf=>?_) (fun f hf=>?_)
    ·rcases hb _ _ f hf with c|c
     ·exact c
     ·exact(n1 c).elim
    ·rcases hb _ _ f hf with c|c
     ·exact c
     ·exact(n2 c).elim
 ·simp only[upd2]
  split
  ·exact ho
  ·exact h.out x y
theorem LInv.tick{G:Gr}{T:Top G}{S:LS}{H D R:Nat→Nat→List Fr.Msg}(h:LInv G T S H D R){u j:Nat}(hj:j<T.dg u)(bag':List (Nat×Nat×Option Fr.Frm))
 (hb:∀x y f,(x,y,some f)∈bag'→(x,y,some f)∈S.bag∨(x=u∧y=T.nb u j∧f∈(S.en u j).tick.out)):
 LInv G T { S with en:=upd2 S.en u j (S.en u j).tick.outs,bag:=bag'} H D R:=by
 obtain⟨k,hk,e⟩:=back T hj
 have huv:u≠T.nb u j:=fun x=>by have:=T.adj u j hj;rw[←x]at this;exact G.irr _ this
 have hd:=h.dir u j k hj hk e
 have hd2:=h.dir (T.nb u j) k j hk (by rw[e];exact hj) (by rw[e])
 rw[e]at hd2
 have ho:=h.out u j
 refine h.mod hj hk e _ bag' H D R (fun x y f hf=>(hb x y f hf).imp_right fun c=>⟨c.1,c.2.1⟩) rfl (fun _ _ _=>rfl) ?_ ?_ ?_
 ·have:=hd.tick (out':=fun f=>(u,T.nb u j,some f)∈bag') (fun f hf=>(hb _ _ f hf).imp_right fun c=>c.2.2) (fun f hf=>by rw[ho]at hf;cases hf)
  refine this.congr rfl rfl rfl rfl (fun f hf=>hf) (fun f hf=>?_)
  rcases hb _ _ f hf with c|c
  ·exact c
  ·exact(huv c.1.symm).elim
 ·refine Dir.congr (back:=fun f=>(u,T.nb u j,some f)∈bag') ?_ rfl rfl (r:=(S.en u j).tick) rfl rfl (fun f hf=>hf) (fun f hf=>hf)
  refine { hd2 with data:=fun f hf hd=>hd2.data f ?_ hd,acks:=fun f hf hd=>?_}
  ·rcases hb _ _ f hf with c|c
   ·exact c
   ·exact(huv c.1.symm).elim
  ·rcases hb _ _ f hf with c|c
   ·exact hd2.acks f c hd
   ·rcases show_mem _ _ f c.2.2 with c|⟨i,m,_,_,rfl⟩
    ·rw[ho]at c;cases c
    ·cases hd
 ·obtain⟨chan,n1,n2⟩:=h.net
  refine⟨chan,n1,fun x y z hy hz hx=>?_⟩
  rw[n2 x y z hy hz hx]
  have:(upd2 S.en u j (S.en u j).tick.outs (T.nb x y) z).await=(S.en (T.nb x y) z).await:=by
   simp only[upd2];split
   ·rename_i c;rw[c.1,c.2];rfl
   ·rfl
  rw[this]
theorem LInv.send{G:Gr}{T:Top G}{S:LS}{H D R:Nat→Nat→List Fr.Msg}(h:LInv G T S H D R){u j:Nat}(hj:j<T.dg u){m:Fr.Msg}{r:List Fr.Msg}(hr:R u (T.nb u j)=m::r)(bag':List (Nat×Nat×Option Fr.Frm))
 (hb:∀x y f,(x,y,some f)∈bag'→(x,y,some f)∈S.bag∨(x=u∧y=T.nb u j∧f∈((S.en u j).send m).out)):
 LInv G T { S with en:=upd2 S.en u j ((S.en u j).send m).outs,bag:=bag'} (upd2 H u (T.nb u j) (H u (T.nb u j)++[m])) D (upd2 R u (T.nb u j) r):=by
 obtain⟨k,hk,e⟩:=back T hj
 have huv:u≠T.nb u j:=fun x=>by have:=T.adj u j hj;rw[←x]at this;exact G.irr _ this
 have hd:=h.dir u j k hj hk e
 have hd2:=h.dir (T.nb u j) k j hk (by rw[e];exact hj) (by rw[e])
 rw[e]at hd2
 have ho:=h.out u j
 have eH:upd2 H u (T.nb u j) (H u (T.nb u j)++[m]) u (T.nb u j)=H u (T.nb u j)++[m]:=by simp[upd2]
 refine h.mod hj hk e _ bag' _ D _ (fun x y f hf=>(hb x y f hf).imp_right fun c=>⟨c.1,c.2.1⟩) rfl (fun x y c=>by simp only[upd2,if_neg c]) ?_ ?_ ?_
 ·rw[eH]
  have:=hd.send m (out':=fun f=>(u,T.nb u j,some f)∈bag') (fun f hf=>(hb _ _ f hf).imp_right fun c=>c.2.2) (fun f hf=>by rw[ho]at hf;cases hf)
  refine this.congr rfl rfl rfl rfl (fun f hf=>hf) (fun f hf=>?_)
  rcases hb _ _ f hf with c|c
  ·exact c
  ·exact(huv c.1.symm).elim
 ·refine Dir.congr (back:=fun f=>(u,T.nb u j,some f)∈bag') ?_ rfl rfl (r:=(S.en u j).send m) rfl rfl (fun f hf=>hf) (fun f hf=>hf)
  refine { hd2 with data:=fun f hf hd=>hd2.data f ?_ hd,acks:=fun f hf hd=>?_}
  ·rcases hb _ _ f hf with c|c
   ·exact c
   ·exact(huv c.1.symm).elim
  ·rcases hb _ _ f hf with c|c
   ·exact hd2.acks f c hd
   ·rcases show_mem _ _ f c.2.2 with c|⟨i,x,_,_,rfl⟩
    ·have c':f∈(S.en u j).out:=c
     rw[ho]at c';cases c'
    ·cases hd
 ·obtain⟨chan,n1,n2⟩:=h.net
  have hk9:hsum T (upd2 H u (T.nb u j) (H u (T.nb u j)++[m])) (upd2 R u (T.nb u j) r)=hsum T H R:=hsum_eq (fun a b hb=>by
   simp only[upd2]
   split
   ·rename_i c;obtain⟨rfl,c2⟩:=c;rw[c2,hr];simp;omega
   ·rfl)
  refine⟨chan,by rw[hk9];exact n1,fun x y z hy hz hx=>?_⟩
  rw[n2 x y z hy hz hx]
  have e1:(upd2 S.en u j ((S.en u j).send m).outs (T.nb x y) z).await=(S.en (T.nb x y) z).await:=by
   simp only[upd2];split
   ·rename_i c;rw[c.1,c.2];rfl
   ·rfl
  rw[e1]
  congr 1
  by_cases c:x=u∧T.nb x y=T.nb u j
  ·obtain⟨rfl,c⟩:=c
   have:=T.inj _ _ _ hy hj c
   subst this
   have:z=k:=T.inj _ _ _ hz hk (hx.trans e.symm)
   subst this
   have hl:=hd.await_le
   rw[eH,hr]
   simp only[upd2,and_self,if_true]
   rw[List.drop_append_of_le_length hl]
   simp
  ·simp only[upd2,if_neg c]
theorem LInv.came{G:Gr}{T:Top G}{S:LS}{H D R:Nat→Nat→List Fr.Msg}(h:LInv G T S H D R){v k:Nat}(hk:k<T.dg v){f:Fr.Frm}(hf:(T.nb v k,v,some f)∈S.bag)(hfd:f.data=true)(bag':List (Nat×Nat×Option Fr.Frm))
 (hb:∀x y g,(x,y,some g)∈bag'→(x,y,some g)∈S.bag∨(x=v∧y=T.nb v k∧g∈((S.en v k).came f.seq f.m).out)):
 LInv G T { S with en:=upd2 S.en v k ((S.en v k).came f.seq f.m).outs,bag:=bag'} H (upd2 D (T.nb v k) v (D (T.nb v k) v++(S.en v k).told f.seq f.m)) R:=by
 obtain⟨j,hj,e⟩:=back T hk
 have huv:v≠T.nb v k:=fun x=>by have:=T.adj v k hk;rw[←x]at this;exact G.irr _ this
 have hd:=h.dir v k j hk hj e
 have hd2:=h.dir (T.nb v k) j k hj (by rw[e];exact hk) (by rw[e])
 rw[e]at hd2
 have ho:=h.out v k
 have hxf:=hd2.data f hf hfd
 have hcm:=hd2.came (back':=fun g=>(v,T.nb v k,some g)∈bag') f.seq f.m hxf.1 hxf.2 (fun g hg=>(hb _ _ g hg).imp_right fun c=>c.2.2) (fun g hg=>by rw[ho]at hg;cases hg)
 have k1:((S.en v k).came f.seq f.m).first=(S.en v k).first:=by
  unfold En.came En.answer En.take En.keep
  repeat' split
  all_goals rfl
 have k2:((S.en v k).came f.seq f.m).wait=(S.en v k).wait:=by
  unfold En.came En.answer En.take En.keep
  repeat' split
  all_goals rfl
 have k3:∀g∈((S.en v k).came f.seq f.m).out,g.data=false:=fun g hg=>by
  have h1:((S.en v k).keep f.seq f.m).take.out=[]:=by
   unfold En.take En.keep
   repeat' split
   all_goals exact ho
  unfold En.came En.answer at hg
  split at hg
  ·simp[h1]at hg;rw[hg]
  ·rw[h1]at hg;cases hg
 refine h.mod hk hj e _ bag' H _ R (fun x y g hg=>(hb x y g hg).imp_right fun c=>⟨c.1,c.2.1⟩) rfl (fun _ _ _=>rfl) ?_ ?_ ?_
 ·refine Dir.congr (s:=S.en v k) (out:=fun g=>(v,T.nb v k,some g)∈bag') ?_ k1 k2 rfl rfl (fun g hg=>hg) (fun g hg=>hg)
  refine { hd with data:=fun g hg hgd=>hd.data g ?_ hgd,acks:=fun g hg hgd=>hd.acks g ?_ hgd}
  ·rcases hb _ _ g hg with c|c
   ·exact c
   ·have:=k3 g c.2.2;rw[hgd]at this;cases this
  ·rcases hb _ _ g hg with c|c
   ·exact c
   ·exact(huv c.1.symm).elim
 ·refine hcm.1.congr rfl rfl rfl rfl (fun g hg=>?_) (fun g hg=>hg)
  rcases hb _ _ g hg with c|c
  ·exact c
  ·exact(huv c.1.symm).elim
 ·obtain⟨chan,n1,n2⟩:=h.net
  refine⟨chan,n1,fun x y z hy hz hx=>?_⟩
  rw[n2 x y z hy hz hx]
  congr 1
  by_cases c:T.nb x y=v∧z=k
  ·obtain⟨c,rfl⟩:=c
   have hxu:x=T.nb v z:=by rw[←hx,c]
   subst hxu
   rw[c]
   have e1:(upd2 S.en v z ((S.en v z).came f.seq f.m).outs v z).await=((S.en v z).came f.seq f.m).await:=by simp[upd2];rfl
   rw[e1,hcm.2.2]
   simp[upd2]
  ·have e1:upd2 S.en v k ((S.en v k).came f.seq f.m).outs (T.nb x y) z=S.en (T.nb x y) z:=by simp only[upd2,if_neg c]
   have n3:¬(x=T.nb v k∧T.nb x y=v):=fun c2=>by
    obtain⟨ca,cb⟩:=c2
    refine c ⟨cb,T.inj v z k (by rw[←cb];exact hz) hk ?_⟩
    rw[←ca,←cb];exact hx
   rw[e1]
   simp only[upd2,if_neg n3]
theorem LInv.ack{G:Gr}{T:Top G}{S:LS}{H D R:Nat→Nat→List Fr.Msg}(h:LInv G T S H D R){v k:Nat}(hk:k<T.dg v){f:Fr.Frm}(hf:(T.nb v k,v,some f)∈S.bag)(hfd:f.data=false)(bag':List (Nat×Nat×Option Fr.Frm))
 (hb:∀x y g,(x,y,some g)∈bag'→(x,y,some g)∈S.bag∨(x=v∧y=T.nb v k∧g∈((S.en v k).ack f.seq).out)):
 LInv G T { S with en:=upd2 S.en v k ((S.en v k).ack f.seq).outs,bag:=bag'} H D R:=by
 obtain⟨j,hj,e⟩:=back T hk
 have huv:v≠T.nb v k:=fun x=>by have:=T.adj v k hk;rw[←x]at this;exact G.irr _ this
 have hd:=h.dir v k j hk hj e
 have hd2:=h.dir (T.nb v k) j k hj (by rw[e];exact hk) (by rw[e])
 rw[e]at hd2
 have ho:=h.out v k
 have hx:=hd.acks f hf hfd
 have k1:((S.en v k).ack f.seq).await=(S.en v k).await:=by unfold En.ack;split<;>rfl
 have k2:((S.en v k).ack f.seq).kept=(S.en v k).kept:=by unfold En.ack;split<;>rfl
 have k3:∀g∈((S.en v k).ack f.seq).out,g.data=true:=fun g hg=>by
  unfold En.ack at hg
  split at hg
  ·rcases show_mem _ _ g hg with c|⟨i,m,_,_,rfl⟩
   ·have c':g∈(S.en v k).out:=c
    rw[ho]at c';cases c'
   ·rfl
  ·rw[ho]at hg;cases hg
 refine h.mod hk hj e _ bag' H D R (fun x y g hg=>(hb x y g hg).imp_right fun c=>⟨c.1,c.2.1⟩) rfl (fun _ _ _=>rfl) ?_ ?_ ?_
 ·have:=hd.ack (out':=fun g=>(v,T.nb v k,some g)∈bag') f.seq hx (fun g hg=>(hb _ _ g hg).imp_right fun c=>c.2.2) (fun g hg=>by rw[ho]at hg;cases hg)
  refine this.congr rfl rfl rfl rfl (fun g hg=>hg) (fun g hg=>?_)
  rcases hb _ _ g hg with c|c
  ·exact c
  ·exact(huv c.1.symm).elim
 ·refine Dir.congr (r:=S.en v k) (back:=fun g=>(v,T.nb v k,some g)∈bag') ?_ rfl rfl k1 k2 (fun g hg=>hg) (fun g hg=>hg)
  refine { hd2 with data:=fun g hg hgd=>hd2.data g ?_ hgd,acks:=fun g hg hgd=>hd2.acks g ?_ hgd}
  ·rcases hb _ _ g hg with c|c
   ·exact c
   ·exact(huv c.1.symm).elim
  ·rcases hb _ _ g hg with c|c
   ·exact c
   ·have:=k3 g c.2.2;rw[hgd]at this;cases this
 ·obtain⟨chan,n1,n2⟩:=h.net
  refine⟨chan,n1,fun x y z hy hz hx=>?_⟩
  rw[n2 x y z hy hz hx]
  have:(upd2 S.en v k ((S.en v k).ack f.seq).outs (T.nb x y) z).await=(S.en (T.nb x y) z).await:=by
   simp only[upd2];split
   ·rename_i c;rw[c.1,c.2];exact k1
   ·rfl
  rw[this]
theorem LInv.wake{G:Gr}{T:Top G}{S:LS}{H D R:Nat→Nat→List Fr.Msg}(h:LInv G T S H D R)(u:Nat):LInv G T { S with nodes:=upd S.nodes u (S.nodes u).wake} H D R:=by
 obtain⟨chan,n1,n2⟩:=h.net
 exact⟨h.dir,h.out,chan,n1.wake u,n2⟩
theorem LInv.take{G:Gr}{T:Top G}(hsm:G.n<2 ^ 30)(hdg:∀u,T.dg u<2 ^ 30){S:LS}{H D R:Nat→Nat→List Fr.Msg}(h:LInv G T S H D R){v k:Nat}(hk:k<T.dg v){m:Fr.Msg}{r:List Fr.Msg}(hD:D (T.nb v k) v=m::r):
 LInv G T { S with nodes:=upd S.nodes v ((S.nodes v).take k m)} H (upd2 D (T.nb v k) v r) R:=by
 obtain⟨chan,n1,n2⟩:=h.net
 obtain⟨j,hj,e⟩:=back T hk
 have hc:=n2 (T.nb v k) j k hj (by rw[e];exact hk) (by rw[e])
 rw[e,hD]at hc
 have hc':chan (T.nb v k) v=typed m::(r++List.drop (S.en v k).await (H (T.nb v k) v)++R (T.nb v k) v).map typed:=by rw[hc];simp
 refine⟨h.dir,h.out,_,n1.take hsm hdg hk hc',fun x y z hy hz hx=>?_⟩
 by_cases c:x=T.nb v k∧T.nb x y=v
 ·obtain⟨rfl,c⟩:=c
  rw[c]
  have hz':z=k:=T.inj v z k (by rw[←c];exact hz) hk (by rw[c]at hx;exact hx)
  subst hz'
  simp[upd2]
 ·simp only[upd2,if_neg c]
  exact n2 x y z hy hz hx
theorem sent_sum(n:Nat):∀(l:List (Nat×Fr.Msg)),(∀c∈l,c.1<n)→S1 n (fun j=>(sentF l j).length)=l.length
 |[],_=>by
  rw[S1_eq n _ (fun _=>0) (fun j _=>by simp[sentF]),S1_const];simp
 |c::l,h=>by
  have ih:=sent_sum n l (fun d hd=>h d (by simp[hd]))
  have h1:=S1_one n (fun j=>(sentF (c::l) j).length) (fun j=>(sentF l j).length) (h c (by simp)) (fun j _ hj=>by rw[sentF_cons,if_neg (fun e=>hj e.symm)];rfl)
  have h2:(sentF (c::l) c.1).length=(sentF l c.1).length+1:=by rw[sentF_cons,if_pos rfl];simp
  simp only[List.length_cons]
  omega
theorem LInv.flush{G:Gr}{T:Top G}{S:LS}{H D R R':Nat→Nat→List Fr.Msg}(h:LInv G T S H D R){u:Nat}(hu:u<G.n)(hl:∀c∈(S.nodes u).sent,c.1<T.dg u)(h1:∀j,j<T.dg u→R' u (T.nb u j)=R u (T.nb u j)++sentF (S.nodes u).sent j)(h2:∀x,x≠u→R' x=R x):
 LInv G T { S with nodes:=upd S.nodes u { S.nodes u with sent:=[]}} H D R':=by
 have hk9:hsum T H R'=hsum T H R+(S.nodes u).sent.length:=by
  unfold hsum
  have h3:=S1_one G.n (fun u=>S1 (T.dg u) (fun j=>(H u (T.nb u j)).length+(R' u (T.nb u j)).length)) (fun u=>S1 (T.dg u) (fun j=>(H u (T.nb u j)).length+(R u (T.nb u j)).length)) hu (fun x _ hx=>by rw[h2 x hx])
  have h4:S1 (T.dg u) (fun j=>(H u (T.nb u j)).length+(R' u (T.nb u j)).length)=S1 (T.dg u) (fun j=>(H u (T.nb u j)).length+(R u (T.nb u j)).length)+S1 (T.dg u) (fun j=>(sentF (S.nodes u).sent j).length):=by
   rw[←S1_add]
   exact S1_eq _ _ _ (fun j hj=>by rw[h1 j hj];simp;omega)
  rw[sent_sum _ _ hl]at h4
  omega
 obtain⟨chan,n1,n2⟩:=h.net
 refine⟨h.dir,h.out,fun x y=>if x=u then chan u y++((R' u y).drop (R u y).length).map typed else chan x y,?_,fun x y z hy hz hx=>?_⟩
 ·rw[hk9]
  refine n1.flush hu (fun j hj=>?_) (fun x hx=>?_)
  ·rw[if_pos rfl,h1 j hj,sentTo_F];simp
  ·funext y;rw[if_neg hx]
 ·dsimp only
  by_cases c:x=u
  ·subst c
   rw[if_pos rfl,n2 x y z hy hz hx,h1 y hy]
   simp
  ·rw[if_neg c,h2 x c];exact n2 x y z hy hz hx
theorem LInv.start(G:Gr)(T:Top G)(S:LS)(hn:∀u,S.nodes u=Nod.new ((List.range (T.dg u)).map (fun j=>G.w u (T.nb u j))))(he:∀u j,S.en u j=En.new)(hb:S.bag=[]):LInv G T S (fun _ _=>[]) (fun _ _=>[]) (fun _ _=>[]):=by
 have hk9:hsum T (fun _ _=>([]:List Fr.Msg)) (fun _ _=>[])=0:=by
  unfold hsum
  have e1:∀u,S1 (T.dg u) (fun _=>([]:List Fr.Msg).length+([]:List Fr.Msg).length)=0:=fun u=>by
   show S1 (T.dg u) (fun _=>0)=0
   rw[S1_const];simp
  have e2:S1 G.n (fun u=>S1 (T.dg u) (fun _=>([]:List Fr.Msg).length+([]:List Fr.Msg).length))=S1 G.n (fun _=>0):=S1_eq _ _ _ (fun u _=>e1 u)
  rw[S1_const]at e2
  simpa using e2
 refine⟨fun u j k _ _ _=>?_,fun u j=>by rw[he];rfl,_,(by rw[hk9];exact Net.start G T S.nodes hn),fun x y z _ _ _=>by simp⟩
 rw[he,he,hb]
 exact Dir.new.less (fun f hf=>by cases hf) (fun f hf=>by cases hf)
theorem LInv.sends{G:Gr}{T:Top G}{u:Nat}{S S':LS}{l:List (Nat×Fr.Msg)}(hs:LS.sends T u S l S'):∀ {H D R:Nat→Nat→List Fr.Msg},LInv G T S H D R→(∀c∈l,c.1<T.dg u)→(∀j,j<T.dg u→R u (T.nb u j)=sentF l j)→(∀x,x≠u→R x=fun _=>[])→
 ∃H' R',LInv G T S' H' D R'∧(∀x j,j<T.dg x→R' x (T.nb x j)=[])∧(∀j,j<T.dg u→H' u (T.nb u j)=H u (T.nb u j)++sentF l j)∧S'.nodes=S.nodes:=by
 induction hs with
 |nil S=>
  intro H D R h h1 h2 h3
  refine⟨H,R,h,fun x j hj=>?_,fun j hj=>by simp[sentF],rfl⟩
  by_cases e:x=u
  ·subst e;rw[h2 j hj];rfl
  ·rw[h3 x e]
 | @cons S S1 S2 c l hone _ ih=>
  intro H D R h h1 h2 h3
  obtain⟨o1,o2,o3⟩:=hone
  have hc:=h1 c (by simp)
  have hr:R u (T.nb u c.1)=c.2::sentF l c.1:=by rw[h2 _ hc,sentF_cons];simp
  have h4:=h.send hc hr S1.bag o3
  have e1:({ S with en:=upd2 S.en u c.1 ((S.en u c.1).send c.2).outs,bag:=S1.bag}:LS)=S1:=by
   cases S1;simp at o1 o2⊢;exact⟨o1.symm,o2.symm⟩
  rw[e1]at h4
  obtain⟨H',R',a1,a2,a3,a4⟩:=ih h4 (fun d hd=>h1 d (by simp[hd])) (fun j hj=>by
   by_cases e:j=c.1
   ·subst e;simp[upd2]
   ·have:T.nb u j≠T.nb u c.1:=fun x=>e (T.inj _ _ _ hj hc x)
    simp only[upd2,this,and_false,if_false]
    rw[h2 j hj,sentF_cons,if_neg (fun x=>e x.symm)];rfl) (fun x hx=>by funext y;simp[upd2,hx,h3 x hx])
  refine⟨H',R',a1,a2,fun j hj=>?_,a4.trans o1⟩
  rw[a3 j hj,sentF_cons]
  by_cases e:j=c.1
  ·subst e;simp[upd2]
  ·have:T.nb u j≠T.nb u c.1:=fun x=>e (T.inj _ _ _ hj hc x)
   simp only[upd2,this,and_false,if_false]
   rw[if_neg (fun x=>e x.symm)];rfl
theorem LInv.Rcongr{G:Gr}{T:Top G}{S:LS}{H D R R':Nat→Nat→List Fr.Msg}(h:LInv G T S H D R)(e:∀x j,j<T.dg x→R' x (T.nb x j)=R x (T.nb x j)):LInv G T S H D R':=by
 obtain⟨chan,n1,n2⟩:=h.net
 exact⟨h.dir,h.out,chan,(by rw[hsum_eq (H:=H) (R:=R) (fun u j hj=>by rw[e u j hj])];exact n1),fun x y z hy hz hx=>by rw[n2 x y z hy hz hx,e x y hy]⟩
theorem LInv.Dcongr{G:Gr}{T:Top G}{S:LS}{H D D' R:Nat→Nat→List Fr.Msg}(h:LInv G T S H D R)(e:∀x j,j<T.dg x→D' x (T.nb x j)=D x (T.nb x j)):LInv G T S H D' R:=by
 obtain⟨chan,n1,n2⟩:=h.net
 exact⟨h.dir,h.out,chan,n1,fun x y z hy hz hx=>by rw[n2 x y z hy hz hx,e x y hy]⟩
open Classical in
theorem LInv.post{G:Gr}{T:Top G}{S S':LS}{H D:Nat→Nat→List Fr.Msg}(h:LInv G T S H D no2){u:Nat}(hu:u<G.n)(hl:∀c∈(S.nodes u).sent,c.1<T.dg u)(hs:LS.sends T u { S with nodes:=upd S.nodes u { S.nodes u with sent:=[]}} (S.nodes u).sent S'):
 ∃H',LInv G T S' H' D no2∧(∀j,j<T.dg u→H' u (T.nb u j)=H u (T.nb u j)++sentF (S.nodes u).sent j)∧S'.nodes=upd S.nodes u { S.nodes u with sent:=[]}:=by
 obtain⟨R,hR1,hR2⟩:∃R:Nat→Nat→List Fr.Msg,(∀j,j<T.dg u→R u (T.nb u j)=sentF (S.nodes u).sent j)∧∀x,x≠u→R x=fun _=>[]:=by
  refine⟨fun x y=>if x=u then (if hy:∃j,j<T.dg u∧T.nb u j=y then sentF (S.nodes u).sent hy.choose else [])else [],fun j hj=>?_,fun x hx=>?_⟩
  ·have hy:∃i,i<T.dg u∧T.nb u i=T.nb u j:=⟨j,hj,rfl⟩
   dsimp only
   rw[if_pos rfl,dif_pos hy,T.inj u _ j hy.choose_spec.1 hj hy.choose_spec.2]
  ·funext y;dsimp only;rw[if_neg hx]
 have h1:=h.flush (u:=u) (R':=R) hu hl (fun j hj=>by rw[hR1 j hj];simp[no2]) (fun x hx=>by rw[hR2 x hx];rfl)
 obtain⟨H',R',a1,a2,a3,a4⟩:=LInv.sends hs h1 hl hR1 hR2
 exact⟨H',a1.Rcongr (fun x j hj=>by rw[a2 x j hj];rfl),a3,a4⟩
end Go.Proofs.YtlfijfodklhplaaGreat.Ghs.V
