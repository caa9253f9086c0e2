import Derived.Test.YtkfmladhicapeaaGreatDoorY3
set_option maxRecDepth 100000
set_option maxHeartbeats 2000000
namespace Go.Proofs.YtkfmladhicapeaaGreatDoor.Bl
def add (x y:Nat):Nat:=(x+y) % 4294967296
def rot (x n:Nat):Nat:=x / 2 ^ n ||| x*2 ^ (32 - n) % 4294967296
theorem add_lt (x y:Nat):add x y<4294967296:=Nat.mod_lt _ aF
theorem add_assoc (x y z:Nat):add (add x y) z=add x (add y z):=by unfold add;omega
theorem xor_lt {x y:Nat} (hx:x<4294967296) (hy:y<4294967296):x ^^^ y<4294967296:=Nat.xor_lt_two_pow (n:=32) hx hy
theorem or_lt {x y:Nat} (hx:x<4294967296) (hy:y<4294967296):x ||| y<4294967296:=Nat.or_lt_two_pow (n:=32) hx hy
theorem rot_lt {x:Nat} (hx:x<4294967296) (n:Nat):rot x n<4294967296 :=
 or_lt (Nat.lt_of_le_of_lt (Nat.div_le_self _ _) hx) (Nat.mod_lt _ aF)
structure W (n:Nat) (v:List Nat):Prop where
 len:v.length=n
 lt:∀ x∈v,x<4294967296
theorem W.at {n:Nat} {v:List Nat} (h:W n v) (i:Nat):v.getD i 0<4294967296:=by
 rw [List.getD_eq_getElem?_getD]
 rcases Nat.lt_or_ge i v.length with k | k
 . rw [List.getElem?_eq_getElem k];exact h.lt _ (List.getElem_mem k)
 . rw [List.getElem?_eq_none k];decide
theorem W.set {n:Nat} {v:List Nat} (h:W n v) (i:Nat) {x:Nat} (hx:x<4294967296):W n (v.set i x) :=
 ⟨by rw [List.length_set];exact h.len,fun y hy=>by
  rcases List.mem_or_eq_of_mem_set hy with k | k
  . exact h.lt _ k
  . rw [k];exact hx⟩
theorem W.zeros (n:Nat):W n (List.replicate n 0):=⟨by simp,fun x hx=>by rw [List.eq_of_mem_replicate hx];decide⟩
theorem getD_set (v:List Nat) (i j x:Nat) (hi:i<v.length):(v.set i x).getD j 0=if i=j then x else v.getD j 0:=by
 by_cases h:i=j
 . subst h;simp [List.getD_eq_getElem?_getD,hi]
 . simp [List.getD_eq_getElem?_getD,h]
def s0 (v:List Nat) (a b:Nat) (x:Nat):List Nat:=v.set a (add (add (v.getD a 0) (v.getD b 0)) x)
def s1 (v:List Nat) (d a n:Nat):List Nat:=v.set d (rot (v.getD d 0 ^^^ v.getD a 0) n)
def s2 (v:List Nat) (c d:Nat):List Nat:=v.set c (add (v.getD c 0) (v.getD d 0))
theorem s0_ok {n:Nat} {v:List Nat} (h:W n v) (a b x:Nat):W n (s0 v a b x):=h.set _ (add_lt _ _)
theorem s1_ok {n:Nat} {v:List Nat} (h:W n v) (d a k:Nat):W n (s1 v d a k):=h.set _ (rot_lt (xor_lt (h.at _) (h.at _)) _)
theorem s2_ok {n:Nat} {v:List Nat} (h:W n v) (c d:Nat):W n (s2 v c d):=h.set _ (add_lt _ _)
def mix (v:List Nat) (a b c d x y:Nat):List Nat :=
 s1 (s2 (s1 (s0 (s1 (s2 (s1 (s0 v a b x) d a 16) c d) b c 12) a b y) d a 8) c d) b c 7
theorem mix_ok {n:Nat} {v:List Nat} (h:W n v) (a b c d x y:Nat):W n (mix v a b c d x y) :=
 s1_ok (s2_ok (s1_ok (s0_ok (s1_ok (s2_ok (s1_ok (s0_ok h _ _ _) _ _ _) _ _) _ _ _) _ _ _) _ _ _) _ _) _ _ _
def orders:List (List Nat):=[
 [0,1,2,3,4,5,6,7,8,9,10,11,12,13,14,15],
 [14,10,4,8,9,15,13,6,1,12,0,2,11,7,5,3],
 [11,8,12,0,5,2,15,13,10,14,3,6,7,1,9,4],
 [7,9,3,1,13,12,11,14,2,6,5,10,4,0,15,8],
 [9,0,5,7,2,4,10,15,14,1,11,12,6,8,3,13],
 [2,12,6,10,0,11,8,3,4,13,7,5,15,14,1,9],
 [12,5,1,15,14,13,4,10,0,7,6,3,9,2,8,11],
 [13,11,7,14,12,1,3,9,5,0,15,4,8,6,2,10],
 [6,15,14,9,11,3,0,8,12,2,13,7,1,4,10,5],
 [10,2,8,4,7,6,1,5,15,11,9,14,3,12,13,0]]
def begins:List Nat:=[1779033703,3144134277,1013904242,2773480762,1359893119,2600822924,528734635,1541459225]
theorem begins_ok:W 8 begins:=⟨rfl,aF⟩
theorem order_lt (r i:Nat):(orders.getD r []).getD i 0<16:=by
 have h:∀ l∈orders,∀ x∈l,x<16:=by decide
 rw [List.getD_eq_getElem?_getD,List.getD_eq_getElem?_getD]
 rcases Nat.lt_or_ge r orders.length with k | k
 . rw [List.getElem?_eq_getElem k]
   rcases Nat.lt_or_ge i orders[r].length with q | q
   . simp only [Option.getD_some];rw [List.getElem?_eq_getElem q];exact h _ (List.getElem_mem k) _ (List.getElem_mem q)
   . simp only [Option.getD_some];rw [List.getElem?_eq_none q];decide
 . rw [List.getElem?_eq_none k];simp
def halfA (m o v:List Nat):Nat->List Nat
 | 0=>v
 | k+1=>mix (halfA m o v k) k (4+k) (8+k) (12+k) (m.getD (o.getD (2*k) 0) 0) (m.getD (o.getD (2*k+1) 0) 0)
def halfB (m o v:List Nat):Nat->List Nat
 | 0=>v
 | k+1=>mix (halfB m o v k) k (4+(k+1) % 4) (8+(k+2) % 4) (12+(k+3) % 4) (m.getD (o.getD (8+2*k) 0) 0) (m.getD (o.getD (9+2*k) 0) 0)
theorem halfA_ok {m o v:List Nat} (h:W 16 v):∀ k,W 16 (halfA m o v k)
 | 0=>h
 | k+1=>mix_ok (halfA_ok h k) ..
theorem halfB_ok {m o v:List Nat} (h:W 16 v):∀ k,W 16 (halfB m o v k)
 | 0=>h
 | k+1=>mix_ok (halfB_ok h k) ..
def rounds (m v:List Nat):Nat->List Nat
 | 0=>v
 | r+1=>halfB m (orders.getD r []) (halfA m (orders.getD r []) (rounds m v r) 4) 4
theorem rounds_ok {m v:List Nat} (h:W 16 v):∀ k,W 16 (rounds m v k)
 | 0=>h
 | k+1=>halfB_ok (halfA_ok (rounds_ok h k) _) _
def wd (m:List Nat) (i x:Nat):List Nat:=m.set (i / 4) (m.getD (i / 4) 0 ||| x*2 ^ (8*(i % 4)) % 4294967296)
def words (l:List UInt8):Nat->List Nat
 | 0=>List.replicate 16 0
 | k+1=>wd (words l k) k (l.getD k 0).toNat
theorem wd_ok {n:Nat} {m:List Nat} (h:W n m) (i x:Nat):W n (wd m i x):=h.set _ (or_lt (h.at _) (Nat.mod_lt _ aF))
theorem words_ok (l:List UInt8):∀ k,W 16 (words l k)
 | 0=>W.zeros 16
 | k+1=>wd_ok (words_ok l k) ..
def inv (x:Nat):Nat:=4294967295 - x
theorem inv_lt (x:Nat):inv x<4294967296:=by unfold inv;omega
def start (h:List Nat) (n:Nat) (last:Bool):List Nat :=
 let v:=h++begins
 let v:=v.set 12 (v.getD 12 0 ^^^ n % 4294967296)
 let v:=v.set 13 (v.getD 13 0 ^^^ n / 4294967296 % 4294967296)
 if last then v.set 14 (inv (v.getD 14 0)) else v
theorem both_ok {m n:Nat} {v u:List Nat} (h:W m v) (k:W n u):W (m+n) (v++u) :=
 ⟨by rw [List.length_append,h.len,k.len],fun x hx=>by rcases List.mem_append.1 hx with q | q;exact h.lt _ q;exact k.lt _ q⟩
theorem start_ok {h:List Nat} (hh:W 8 h) (n:Nat) (last:Bool):W 16 (start h n last):=by
 unfold start;have h1:=both_ok hh begins_ok;have h2:=h1.set 12 (xor_lt (h1.at 12) (Nat.mod_lt n aF));have h3:=h2.set 13 (xor_lt (h2.at 13) (Nat.mod_lt (n / 4294967296) aF));cases last
 . exact h3
 . exact h3.set 14 (inv_lt _)
def fin (h v:List Nat):Nat->List Nat
 | 0=>h
 | k+1=>(fin h v k).set k ((fin h v k).getD k 0 ^^^ v.getD k 0 ^^^ v.getD (8+k) 0)
theorem fin_ok {h v:List Nat} (hh:W 8 h) (hv:W 16 v):∀ k,W 8 (fin h v k)
 | 0=>hh
 | k+1=>(fin_ok hh hv k).set _ (xor_lt (xor_lt ((fin_ok hh hv k).at _) (hv.at _)) (hv.at _))
def block (h:List Nat) (l:List UInt8) (n:Nat) (last:Bool):List Nat:=fin h (rounds (words l l.length) (start h n last) 10) 8
theorem block_ok {h:List Nat} (hh:W 8 h) (l:List UInt8) (n:Nat) (last:Bool):W 8 (block h l n last):=fin_ok hh (rounds_ok (start_ok hh _ _) _) _
def cut (l:List UInt8) (a b:Nat):List UInt8:=(l.take b).drop a
def h0:List Nat:=begins.set 0 (begins.getD 0 0 ^^^ 16842784)
theorem h0_ok:W 8 h0:=begins_ok.set 0 aF
def sums (l:List UInt8):Nat->List Nat
 | 0=>h0
 | k+1=>block (sums l k) (cut l (64*k) (64*k+64)) (64*k+64) false
theorem sums_ok (l:List UInt8):∀ k,W 8 (sums l k)
 | 0=>h0_ok
 | k+1=>block_ok (sums_ok l k) ..
def ahead (n:Nat):Nat:=(n - 1) / 64
def byteOf (h:List Nat) (i:Nat):UInt8:=UInt8.ofNat (h.getD (i / 4) 0 / 2 ^ (8*(i % 4)) % 256)
def bytes (h:List Nat):List UInt8:=(List.range 32).map (byteOf h)
def digest (l:List UInt8):List UInt8:=bytes (block (sums l (ahead l.length)) (l.drop (64*ahead l.length)) l.length true)
theorem digest_length (l:List UInt8):(digest l).length=32:=by simp [digest,bytes]
end Go.Proofs.YtkfmladhicapeaaGreatDoor.Bl
namespace Go.Proofs.YtkfmladhicapeaaGreatDoor
open Go.RowKit Go.Shelf
theorem CJ:(Tryz.prog.info? 5).map (fun i=>(i.zero,i.size,i.bytes))=some (some (.int .u8 0),1,1):=by kernel_rfl
theorem Vp (n:Nat) (hn:n<=281474976710656):∀ u:World,(Instr.makeSlice 107 (.int .i64 n) (.int .i64 n)).run Tryz.prog u =
 .ok (.slice (some ⟨u.heap.size,0,none⟩) n n) (u.alloc (.cells (madeCells #[.int .u8 0] n) 5)):=fun u=>by
 obtain ⟨i0,hi,GV,GJ,GO⟩:=info_parts CJ
 have h:=run_make (P:=Tryz.prog) u 107 5 i0 (.int .u8 0) EO hi GV .i64 .i64 (n:Int) (n:Int) aE (Int.le_refl _) (by rw [GO];omega) aE
 simpa [GJ,Value.cells] using h
theorem Xd (u:World) (n:Nat):Ez (u.alloc (.cells (madeCells #[.int .u8 0] n) 5)) u.heap.size (List.replicate n 0):=by
 refine ⟨by simp,fun i hi=>?_,fun i hi=>?_⟩
 . rw [jN]
   have hi':i<n:=by simpa using hi
   simp [madeCells,hi',Nat.mod_one]
 . exact (EY u (madeCells #[.int .u8 0] n) 5).free i
def lE (c:UInt8):Bool:=decide ((97<=c.toNat/\c.toNat<=122)\/(48<=c.toNat/\c.toNat<=57))
def uP (c:UInt8):Bool:=lE c||decide ((65<=c.toNat/\c.toNat<=90)\/c.toNat=95\/c.toNat=46\/c.toNat=45)
theorem eJ (c:UInt8) (w:World):Calls Tryz.prog 179 #[.int .u8 (c.toNat:Int)] w fun e w'=>e=.returned (.bool (lE c))/\w=w':=by
 have hc:=UInt8.toNat_lt c
 by_cases h1:97<=c.toNat
 . have d1:decide ((97:Int)<=(c.toNat:Int))=true:=DZ aE
   by_cases h2:c.toNat<=122
   . have d2:decide ((c.toNat:Int)<=122)=true:=DZ aE
     rw [show lE c=true from DZ aE];clear hc;go_enter Tryz.func179,Tryz.ntmps179;go_wp2;go_ret;exact ⟨rfl,rfl⟩
   . have d2:decide ((c.toNat:Int)<=122)=false:=DY aE
     exact Vs
 . have d1:decide ((97:Int)<=(c.toNat:Int))=false:=DY aE
   exact Vs
theorem dD (c:UInt8) (w:World):Calls Tryz.prog 95 #[.int .u8 (c.toNat:Int)] w fun e w'=>e=.returned (.bool (lE c))/\w=w':=by
 have hc:=UInt8.toNat_lt c
 by_cases h1:97<=c.toNat
 . have d1:decide ((97:Int)<=(c.toNat:Int))=true:=DZ aE
   by_cases h2:c.toNat<=122
   . have d2:decide ((c.toNat:Int)<=122)=true:=DZ aE
     rw [show lE c=true from DZ aE];clear hc;go_enter Tryz.func95,Tryz.ntmps95;go_wp2;go_ret;exact ⟨rfl,rfl⟩
   . have d2:decide ((c.toNat:Int)<=122)=false:=DY aE
     exact Vn
 . have d1:decide ((97:Int)<=(c.toNat:Int))=false:=DY aE
   exact Vn
theorem nL (c:UInt8) (w:World):Calls Tryz.prog 177 #[.int .u8 (c.toNat:Int)] w fun e w'=>e=.returned (.bool (uP c))/\w=w':=by
 have hc:=UInt8.toNat_lt c;unfold uP
 cases hp:lE c with
 | true =>
  rw [Bool.true_or];have HP:=DX hp;clear hp hc;exact Wc
 | false =>
  rw [Bool.false_or];have HP:=DX hp;clear hp
  by_cases h1:65<=c.toNat
  . have d1:(decide ((65:Int)<=(c.toNat:Int)))=true:=by first | exact DZ aE | exact beq_iff_eq.2 aE
    by_cases h2:c.toNat<=90
    . have d2:(decide ((c.toNat:Int)<=90))=true:=by first | exact DZ aE | exact beq_iff_eq.2 aE
      rw [show decide ((65<=c.toNat/\c.toNat<=90)\/c.toNat=95\/c.toNat=46\/c.toNat=45)=true from DZ aE];clear hc
      (try clear h3)
      (try clear h4)
      (try clear h5)
      exact Wc
    . have d2:(decide ((c.toNat:Int)<=90))=false:=by first | exact DY aE | exact beq_eq_false_iff_ne.2 aE
      exact Wy
  . have d1:(decide ((65:Int)<=(c.toNat:Int)))=false:=by first | exact DY aE | exact beq_eq_false_iff_ne.2 aE
    exact Wy
end Go.Proofs.YtkfmladhicapeaaGreatDoor
namespace Go.Proofs.YtkfmladhicapeaaGreatDoor
def jW (l:List UInt8):Bool:=l == [46]||l == [95]||l == [95,95]||l.all (· == 45)
def dH:List UInt8->List UInt8->Bool
 | _,[]=>true
 | cur,c :: l=>if lE c=true then jW cur&&dH [] l else dH (cur++[c]) l
theorem iI (cur:List UInt8) (c:UInt8) (l:List UInt8) (h:lE c=true):dH cur (c :: l)=(jW cur&&dH [] l):=by rw [dH,if_pos h]
theorem pA (cur:List UInt8) (c:UInt8) (l:List UInt8) (h:lE c=false):dH cur (c :: l)=dH (cur++[c]) l:=by rw [dH,if_neg (by rw [h];exact Bool.false_ne_true)]
theorem uF (cur:List UInt8):dH cur []=true:=by rw [dH]
def eM (l:List UInt8):Bool:=decide (l≠[])&&(lE (l.getD 0 0)&&(lE (l.getD (l.length - 1) 0)&&dH [] l))
def fQ (l:List UInt8):Bool:=decide (l≠[])&&(!(l.getD 0 0 == 46)&&(!(l.getD 0 0 == 45)&&l.all uP))
theorem rR (l:List UInt8) (i:Nat) (h:i<l.length):l.drop i=l.getD i 0 :: l.drop (i+1):=by
 rw [List.drop_eq_getElem_cons h]
 simp [List.getD,h]
def mF (l:List UInt8) (a b:Nat):List UInt8:=(l.drop a).take (b - a)
theorem sC (l:List UInt8) (a:Nat):mF l a a=[]:=by unfold mF;rw [Nat.sub_self,List.take_zero]
theorem Bf (l:List UInt8) (a b:Nat) (h:a<=b) (hb:b<l.length):mF l a (b+1)=mF l a b++[l.getD b 0]:=by
 unfold mF;rw [show b+1 - a=(b - a)+1 by omega,List.take_succ_eq_append_getElem (by rw [List.length_drop];omega),List.getElem_drop]
 simp [List.getD,hb,show a+(b - a)=b by omega]
theorem nT (s:ByteArray) (a b:Nat):(s.extract a b).data.toList=mF s.data.toList a b:=by
 unfold mF;rw [ByteArray.data_extract,Array.toList_extract]
theorem dL (s:ByteArray) (i:Nat) (h:i<s.size):s[i]=s.data.toList.getD i 0:=by
 have hl:i<s.data.toList.length:=by simpa using h
 rw [List.getD_eq_getElem?_getD,List.getElem?_eq_getElem hl];rfl
theorem Gr (l:List UInt8) (i:Nat):∀ k,i<=k->k<=l.length->(∀ j,i<=j->j<k->lE (l.getD j 0)=false)->dH [] (l.drop i)=dH (mF l i k) (l.drop k):=by
 intro k
 induction k with
 | zero =>
  intro h _ _;obtain rfl:i=0:=by omega
  rw [sC]
 | succ k ih =>
  intro h hk hp
  by_cases he:i=k+1
  . subst he;rw [sC]
  . rw [ih aE aE (fun j h1 h2=>hp j h1 aE),rR l k aE,pA _ _ _ (hp k aE aE),Bf l i k aE aE]
theorem wF:jW []=true:=rfl
def bH (l:List UInt8) (low:Nat):Nat:=low+((l.drop low).takeWhile (fun c=>!(c == 47))).length
def cM (l:List UInt8):Nat->Nat
 | 0=>0
 | k+1=>bH l (cM l k)+1
theorem kO (l:List UInt8) (low:Nat):low<=bH l low:=by unfold bH;omega
theorem pZ (l:List UInt8) (low:Nat) (h:low<=l.length):bH l low<=l.length:=by
 unfold bH
 have h1:=(List.takeWhile_sublist (fun c:UInt8=>!(c == 47)) (l:=l.drop low)).length_le
 rw [List.length_drop] at h1;omega
theorem lX (p:UInt8->Bool):∀ (l:List UInt8) (i:Nat),i<(l.takeWhile p).length->p (l.getD i 0)=true
 | [],i,h=>by simp at h
 | x :: l,i,h=>by
  rw [List.takeWhile_cons] at h
  by_cases hx:p x=true
  . rw [if_pos hx,List.length_cons] at h
    cases i with
    | zero=>simpa using hx
    | succ i=>simpa using lX p l i aE
  . rw [if_neg hx] at h;simp at h
theorem kI (p:UInt8->Bool):∀ (l:List UInt8),(l.takeWhile p).length<l.length->p (l.getD (l.takeWhile p).length 0)=false
 | [],h=>by simp at h
 | x :: l,h=>by
  rw [List.takeWhile_cons] at h ⊢
  by_cases hx:p x=true
  . rw [if_pos hx,List.length_cons] at h ⊢
    simpa using kI p l (by simpa using h)
  . rw [if_neg hx];simpa using hx
theorem vS (l:List UInt8) (a i:Nat):(l.drop a).getD i 0=l.getD (a+i) 0:=by
 rw [List.getD_eq_getElem?_getD,List.getElem?_drop,List.getD_eq_getElem?_getD]
theorem Dm (l:List UInt8) (low j:Nat) (h1:low<=j) (h2:j<bH l low):(l.getD j 0 == 47)=false:=by
 unfold bH at h2;have h:=lX (fun c=>!(c == 47)) (l.drop low) (j - low) aE;rw [vS,show low+(j - low)=j by omega] at h
 simpa using h
theorem Dn (l:List UInt8) (low:Nat) (h:low<=l.length) (h2:bH l low<l.length):(l.getD (bH l low) 0 == 47)=true:=by
 unfold bH at h2 ⊢;have h:=kI (fun c=>!(c == 47)) (l.drop low) (by rw [List.length_drop];omega);rw [vS] at h
 simpa using h
theorem wX (l:List UInt8):∀ k,k<=cM l k
 | 0=>EA _
 | k+1=>by have h1:=wX l k;have h2:=kO l (cM l k);show k+1<=bH l (cM l k)+1;omega
theorem Qa (l:List UInt8) (k:Nat):cM l k<cM l (k+1):=by have h2:=kO l (cM l k);show cM l k<bH l (cM l k)+1;omega
theorem iB (l:List UInt8) (k:Nat):cM l (k+1)=bH l (cM l k)+1:=rfl
theorem yU {p:Nat->Prop} (hd:∀ k,p (k+1)->p k):∀ M,¬ p M->∃ N,∀ k,k<N↔p k
 | 0,h=>⟨0,fun k=>⟨fun e=>absurd e (Nat.not_lt_zero k),fun e=>absurd (by
  induction k with
  | zero=>exact e
  | succ k ih=>exact ih (hd k e)) h⟩⟩
 | M+1,h=>by
  by_cases hM:p M
  . refine ⟨M+1,fun k=>⟨fun hk=>?_,fun hk=>?_⟩⟩
    . have:∀ j,j<=M->p (M - j):=fun j=>by
       induction j with
       | zero=>intro _;exact hM
       | succ j ih=>intro hj;have:=ih aE;rw [show M - j=(M - (j+1))+1 by omega] at this;exact hd _ this
      have h2:=this (M - k) aE
      rwa [show M - (M - k)=k by omega] at h2
    . by_cases FV:k<M+1
      . exact FV
      . exfalso
        have:∀ j,p (M+1+j)->p (M+1):=fun j=>by
         induction j with
         | zero=>exact id
         | succ j ih=>exact fun e=>ih (hd _ e)
        exact h (this (k - (M+1)) (by rwa [show M+1+(k - (M+1))=k by omega]))
  . exact yU hd M hM
theorem Jv (l:List UInt8):∃ N,∀ k,k<N↔cM l k<=l.length :=
 yU (fun k h=>by have:=Qa l k;omega) (l.length+1) (by have:=wX l (l.length+1);omega)
noncomputable def fA (l:List UInt8):Nat:=Classical.choose (Jv l)
theorem lL (l:List UInt8) (k:Nat):k<fA l↔cM l k<=l.length:=Classical.choose_spec (Jv l) k
theorem Bn (l:List UInt8):0<fA l:=(lL l 0).2 (Nat.zero_le _)
theorem yD (l:List UInt8):fA l<=l.length+1:=by
 by_cases h:l.length+1<fA l
 . have h1:=(lL l _).1 h
   have h2:=wX l (l.length+1);omega
 . omega
def eO (l:List UInt8) (k:Nat):List UInt8:=mF l (cM l k) (bH l (cM l k))
def hQ (l:List UInt8) (k:Nat):Bool:=(List.range k).all fun i=>eM (eO l i)
theorem qV (l:List UInt8) (k:Nat):hQ l (k+1)=(hQ l k&&eM (eO l k)):=by
 unfold hQ;rw [List.range_succ,List.all_append]
 simp
theorem lH (l:List UInt8) (k:Nat) (h:eM (eO l k)=false):∀ n,k<n->hQ l n=false:=fun n hn=>by
 unfold hQ;rw [List.all_eq_false];exact ⟨k,List.mem_range.2 hn,by rw [h];exact Bool.false_ne_true⟩
end Go.Proofs.YtkfmladhicapeaaGreatDoor
namespace Go.Proofs.YtkfmladhicapeaaGreatDoor
open Go.RowKit Go.Shelf
theorem dU (u:ByteArray):u.data.toList=u.toList:=by simp [ByteArray.toList_eq]
theorem kD {α:Type} {p:α->Bool} {x:α} (hx:p x=false):∀ l:List α,x∈l->x∈l.dropWhile p
 | y :: l,h=>by
  rw [List.dropWhile_cons]
  by_cases hy:p y=true
  . rw [if_pos hy]
    refine kD hx l ((List.mem_cons.1 h).resolve_left (fun e=>?_));rw [e,hy] at hx;cases hx
  . rw [if_neg hy];exact h
theorem Dg (l:List UInt8) (c:UInt8):(Lib.trimB l c).isEmpty=l.all (· == c):=by
 cases h:l.all (· == c) with
 | true =>
  have GH:=List.all_eq_true.1 h
  have h0:∀ k:List UInt8,(∀ x∈k,(x == c)=true)->k.dropWhile (· == c)=[]:=fun k=>by
   induction k with
   | nil=>intro _;rfl
   | cons y k ih=>intro hk;rw [List.dropWhile_cons,if_pos (hk y (List.mem_cons_self ..))];exact ih (fun x hx=>hk x (List.mem_cons_of_mem _ hx))
  unfold Lib.trimB Lib.trimLeftB Lib.trimRightB;rw [h0 l.reverse (fun x hx=>GH x (List.mem_reverse.1 hx))];rfl
 | false =>
  obtain ⟨x,hx,hp⟩:=List.all_eq_false.1 h
  have hp':(x == c)=false:=by simpa using hp
  have h1:x∈Lib.trimB l c:=kD (p:=(· == c)) hp' _ (List.mem_reverse.2 (kD (p:=(· == c)) hp' _ (List.mem_reverse.2 hx)))
  cases e:Lib.trimB l c with
  | nil=>rw [e] at h1;cases h1
  | cons y k=>rfl
theorem Ce (u:ByteArray) (w:World) (hu:u.size<=9223372036854775807):Calls Tryz.prog 180 #[.string u] w fun e w'=>e=.returned (.bool (jW u.data.toList))/\aB w w':=by
 have hT:=BR u 45 aF w hu;have aBE:=Dg u.data.toList 45;rw [dU] at hT aBE ⊢
 obtain ⟨t,ht⟩:∃ t:ByteArray,(⟨(Lib.trimB u.toList 45).toArray⟩:ByteArray)=t:=⟨_,rfl⟩
 have LX:t.toList.isEmpty=u.toList.all (· == 45):=by rw [<- aBE,<- dU,<- ht]
 rw [ht] at hT;have HT:=DX hT;clear hT ht aBE hu;generalize hl:u.toList=l at LX ⊢;have HR:=DX (show jW l=(l == [46]||l == [95]||l == [95,95]||l.all (· == 45)) from rfl)
 cases e0:l.isEmpty with
 | true =>
  obtain rfl:l=[]:=List.isEmpty_iff.1 e0
  have e1:u.toList.isEmpty=true:=by rw [hl];rfl
  clear HR LX hl e0;go_enter Tryz.func180,Tryz.ntmps180;go_wp2;go_ret;exact ⟨rfl,EX _⟩
 | false =>
  have f0:u.toList.isEmpty=false:=by rw [hl];exact e0
  cases e1:(l == [46]) with
  | true =>
   rw [HR.out,e1]
   have f1:(u.toList == [46])=true:=by rw [hl];exact e1
   exact Ka
  | false =>
   have f1:(u.toList == [46])=false:=by rw [hl];exact e1
   cases e2:(l == [95]) with
   | true =>
    rw [HR.out,e1,e2]
    have f2:(u.toList == [95])=true:=by rw [hl];exact e2
    exact Ka
   | false =>
    have f2:(u.toList == [95])=false:=by rw [hl];exact e2
    cases e3:(l == [95,95]) with
    | true =>
     rw [HR.out,e1,e2,e3]
     have f3:(u.toList == [95,95])=true:=by rw [hl];exact e3
     exact Ka
    | false =>
     have f3:(u.toList == [95,95])=false:=by rw [hl];exact e3
     rw [HR.out,e1,e2,e3,Bool.false_or,Bool.false_or,Bool.false_or,<- LX];clear HR LX hl e0 e1 e2 e3;generalize hte:t.toList.isEmpty=b;go_enter Tryz.func180,Tryz.ntmps180;go_wp2_with fail
     refine (HT.out).mono ?_
     rintro e w' ⟨rfl,hw⟩;have HK:=DX (show aB w w' by rcases hw with rfl | rfl;exact EX _;exact (EX _).drew);clear hw f0 f1 f2 f3;go_wp2;go_ret;exact ⟨rfl,HK.out⟩
theorem pJ (l:List UInt8) (h:lE (l.getD 0 0)=false):eM l=false:=by unfold eM;rw [h,Bool.false_and,Bool.and_false]
theorem pK (l:List UInt8) (h:lE (l.getD (l.length - 1) 0)=false):eM l=false:=by unfold eM;rw [h,Bool.false_and,Bool.and_false,Bool.and_false]
theorem oW (l:List UInt8) (h:dH [] l=false):eM l=false:=by unfold eM;rw [h,Bool.and_false,Bool.and_false,Bool.and_false]
theorem sO (l:List UInt8) (h0:l≠[]) (h1:lE (l.getD 0 0)=true) (h2:lE (l.getD (l.length - 1) 0)=true) (h3:dH [] l=true):eM l=true:=by unfold eM;rw [h1,h2,h3,DZ h0];rfl
theorem On (u:ByteArray) (w:World) (hu:u.size<=9223372036854775807):Calls Tryz.prog 154 #[.string u] w fun e w'=>e=.returned (.bool (eM u.data.toList))/\aB w w':=by
 have LW:u.data.toList.length=u.size:=rfl;have JU:=DX LW
 by_cases h0:0<u.size
 . have GW:u.toList.isEmpty=false:=by
    exact Mn
   have hu0:0<u.size:=by omega
   obtain ⟨m,hm⟩:∃ m,m=u.size - 1:=⟨_,rfl⟩
   have hmu:m<u.size:=by omega
   have hmi:(u.size:Int) - 1=(m:Int):=by omega
   have MT:=DX (dL u 0 hu0);have NL:=DX (show u[m]=u.data.toList.getD (u.data.toList.length - 1) 0 by rw [dL u m hmu,LW,hm]);have YW:=DX (fun i (h:i<u.size)=>dL u i h);have ZA:=DX (show u.data.toList≠[] from fun e=>by rw [e] at LW;simp at LW;omega);clear LW hm
   cases PX:lE u[0] with
   | false =>
    have HP:=DX (pJ u.data.toList (by rw [<- MT.out];exact PX));go_enter Tryz.func154,Tryz.ntmps154;go_wp2_with fail;go_step3;exact Ry
   | true =>
    cases QM:lE u[m] with
    | false =>
     have HP:=DX (pK u.data.toList (by rw [<- NL.out];exact QM));go_enter Tryz.func154,Tryz.ntmps154;go_wp2_with fail;go_step3;go_wp2_with fail
     refine (eJ _ _).mono ?_
     rintro e w' ⟨rfl,rfl⟩;exact Ry
    | true =>
     go_enter Tryz.func154,Tryz.ntmps154;go_wp2_with fail;go_step3;go_wp2_with fail
     refine (eJ _ _).mono ?_
     rintro e w' ⟨rfl,rfl⟩;go_wp2_with fail
     refine (eJ _ _).mono ?_
     rintro e w' ⟨rfl,rfl⟩;have HQ0:=DX (show lE (u.data.toList.getD 0 0)=true by rw [<- MT.out];exact PX);have HQ1:=DX (show lE (u.data.toList.getD (u.data.toList.length - 1) 0)=true by rw [<- NL.out];exact QM);rw [QM];clear PX QM hmi GW;go_wp2_with fail;go_step3;go_wp2_with fail;go_loopw [3,24] (fun f i wr=>∃ f' i':Nat,f'<=i'/\i'<=u.size/\f=.int .i64 f'/\i=.int .i64 i'/\dH [] u.data.toList=dH (mF u.data.toList f' i') (u.data.toList.drop i')/\aB w wr) (fun _ i _=>u.size - (intOf i).toNat)
     case atStart=>exact ⟨0,0,aE,aE,rfl,rfl,by rw [sC,List.drop_zero],EX _⟩
     case round =>
      obtain ⟨f,i,hfi,JN,rfl,rfl,YQ,hk⟩:=hrel;have HK:=DX hk;have QC:=DX YQ;clear hk YQ
      by_cases FV:i<u.size
      . have hiu:i<u.size:=by omega
        have GU:decide (i<u.size)=true:=DZ hiu;have hdr:=rR u.data.toList i (by rw [JU.out];exact FV);have hbi:=YW.out i hiu;have hss:=Bf u.data.toList f i hfi (by rw [JU.out];exact FV)
        cases hp:lE u[i] with
        | false =>
         have QV:=DX (show dH [] u.data.toList=dH (mF u.data.toList f (i+1)) (u.data.toList.drop (i+1)) by
          rw [QC.out,hdr,<- hbi,pA _ _ _ hp,hss,<- hbi])
         clear hdr hbi hss;go_wp2_with fail
         refine (eJ _ _).mono ?_
         rintro e w' ⟨rfl,rfl⟩;go_wp2;go_roundw
         case rel=>exact ⟨f,i+1,aE,aE,rfl,by go_num,QV.out,HK.out⟩
         case measure=>simp [intOf];omega
        | true =>
         have hrn:dH [] u.data.toList=(jW (mF u.data.toList f i)&&dH [] (u.data.toList.drop (i+1))):=by
          rw [QC.out,hdr,<- hbi,iI _ _ _ hp]
         have ZD:=DX hrn
         have hbt:=fun w=>Ce (u.extract f i) w (by rw [ByteArray.size_extract];omega)
         rw [nT] at hbt;generalize jW (mF u.data.toList f i)=ok at hbt ZD;have HBT:=DX hbt;clear hdr hbi hss hrn hbt;go_wp2_with fail
         refine (eJ _ _).mono ?_
         rintro e w' ⟨rfl,rfl⟩;go_wp2_with fail
         refine (HBT.out _).mono ?_
         rintro e w5 ⟨rfl,GZ⟩;have IQ:=DX (HK.out.trans GZ);clear GZ
         cases ok with
         | false =>
          have HP:=DX (oW u.data.toList (by rw [ZD.out];rfl));go_wp2;rw [Exit.noGoto_ret];go_ret;rw [HP.out];exact ⟨rfl,IQ.out⟩
         | true =>
          go_wp2;go_roundw
          case rel=>exact ⟨i+1,i+1,aE,aE,by go_num,by go_num,by rw [sC,ZD.out,Bool.true_and],IQ.out⟩
          case measure=>simp [intOf];omega
      . obtain rfl:i=u.size:=by omega
        have GU:decide (u.size<u.size)=false:=DY aE;have HP:=DX (sO u.data.toList ZA.out HQ0.out HQ1.out (by rw [QC.out,List.drop_of_length_le (by rw [JU.out];omega),uF]));go_wp2;rw [Exit.noGoto_ret];go_ret;rw [HP.out];exact ⟨rfl,HK.out⟩
 . have PV:u.data.toList=[]:=List.length_eq_zero_iff.1 aE
   have GW:u.toList.isEmpty=true:=by rw [<- dU,PV];rfl
   rw [PV,show eM []=false from rfl];clear PV JU LW h0;go_enter Tryz.func154,Tryz.ntmps154;go_wp2_with fail;go_step3;go_wp2;rw [Exit.noGoto_ret];go_ret;exact ⟨rfl,EX _⟩
end Go.Proofs.YtkfmladhicapeaaGreatDoor
