import Derived.Test.YtlfijfodklhplaaGreatTn06
set_option linter.unusedVariables false
set_option linter.unusedSimpArgs false
namespace Go.Proofs.YtlfijfodklhplaaGreat
theorem hi_of(a b:Nat)(h:b<256):(a * 256+b) / 256=a:=by omega
theorem lo_of(a b:Nat)(h:b<256):(a * 256+b) % 256=b:=by omega
theorem read5(x0 x1 x2 x3 x4:Nat)(h1:x1<256)(h2:x2<256)(h3:x3<256)(h4:x4<256)(x:Six)(h:ReadOk [x0,x1,x2,x3,x4] x):
 Fr.enc ⟨false,x1 * 256+x2,Fr.none0⟩=[x0,x1,x2,x3,x4]:=by
 obtain⟨k,c1,c2,hB,g1,g2,hc,hl⟩:=h
 have hk:k=3:=by simp at hl;omega
 subst hk
 obtain⟨s1,s2,e1,e2,⟨e0,_,_⟩|⟨_,e,_⟩⟩:=hB
 ·simp at e0 e1 e2 g1 g2 hc
  subst e0 e1 e2 g1 g2
  have e:Fr.enc ⟨false,x1 * 256+x2,Fr.none0⟩=[2,(x1 * 256+x2) / 256,(x1 * 256+x2) % 256,Fr.crc [2,(x1 * 256+x2) / 256,(x1 * 256+x2) % 256] / 256,Fr.crc [2,(x1 * 256+x2) / 256,(x1 * 256+x2) % 256] % 256]:=by simp[Fr.enc,Fr.sealed,Fr.body]
  have a1:=hi_of x1 x2 h2
  have a2:=lo_of x1 x2 h2
  rw[e,a1,a2,←hc]
  have b1:=hi_of x3 x4 h4
  have b2:=lo_of x3 x4 h4
  rw[b1,b2]
 ·omega
theorem read10(x0 x1 x2 x3 x4 x5 x6 x7 x8 x9:Nat)(h1:x1<256)(h2:x2<256)(h6:x6<256)(h7:x7<256)(h8:x8<256)(h9:x9<256)(x:Six)(h:ReadOk [x0,x1,x2,x3,x4,x5,x6,x7,x8,x9] x):
 may (x3:Int) (x4:Int) ((x6:Int) * 256+(x7:Int)) (x5==1)=true∧Fr.enc ⟨true,x1 * 256+x2,⟨x3,x4,x6 * 256+x7,x5==1⟩⟩=[x0,x1,x2,x3,x4,x5,x6,x7,x8,x9]:=by
 obtain⟨k,c1,c2,hB,g1,g2,hc,hl⟩:=h
 have hk:k=8:=by simp at hl;omega
 subst hk
 obtain⟨s1,s2,e1,e2,⟨_,e,_⟩|⟨e0,_,y1,y2,y3,y4,y5,f1,f2,f3,f4,f5,f6,f7,_⟩⟩:=hB
 ·omega
 ·simp at e0 e1 e2 f1 f2 f3 f4 f5 g1 g2 hc
  subst e0 e1 e2 f1 f2 f3 f4 f5 g1 g2
  refine⟨f7,?_⟩
  have a1:=hi_of x1 x2 h2
  have a2:=lo_of x1 x2 h2
  have a3:=hi_of x6 x7 h7
  have a4:=lo_of x6 x7 h7
  have a5:(x5==1).toNat=x5:=by
   have:x5=0∨x5=1:=by omega
   rcases this with rfl|rfl<;>rfl
  have eb:Fr.body ⟨true,x1 * 256+x2,⟨x3,x4,x6 * 256+x7,x5==1⟩⟩=[1,x1,x2,x3,x4,x5,x6,x7]:=by
   simp only[Fr.body,if_true,a1,a2,a3,a4,a5]
  have e:Fr.enc ⟨true,x1 * 256+x2,⟨x3,x4,x6 * 256+x7,x5==1⟩⟩=[1,x1,x2,x3,x4,x5,x6,x7]++[Fr.crc [1,x1,x2,x3,x4,x5,x6,x7] / 256,Fr.crc [1,x1,x2,x3,x4,x5,x6,x7] % 256]:=by
   simp only[Fr.enc,Fr.sealed,eb]
  rw[e,←hc]
  have b1:=hi_of x8 x9 h9
  have b2:=lo_of x8 x9 h9
  rw[b1,b2]
  rfl
theorem read_len(l:List Nat)(x:Six)(h:ReadOk l x):l.length=5∨l.length=10:=by
 obtain⟨k,c1,c2,hB,g1,g2,hc,hl⟩:=h
 have:=hB.len
 omega
end Go.Proofs.YtlfijfodklhplaaGreat
