/-
  The walk of FnGrbIn: whatever the code, it comes out true, and nothing that was there is turned.
-/
import Derived.Test.YtncffcaabnjioaaGreatMEaa
set_option maxHeartbeats 8000000
set_option maxRecDepth 100000
namespace Go.Proofs.YtncffcaabnjioaaGreat
open Go.RowKit
set_option linter.unusedVariables false
theorem BW (w:World) (a0:Option Addr) (len0 cap0:Nat) (s0:EV w a0 len0 cap0) (a1:Option Addr) (len1 cap1:Nat) (s1:EV w a1 len1 cap1):Calls Tryz.prog 3 #[.slice a0 len0 cap0,.slice a1 len1 cap1] w fun e w'=>e= .returned (.bool true)∧Below w.heap.size w w':=by
 by_cases c0:(1048576:Int)<(len0:Int)
 ·go_enter Tryz.func3,Tryz.ntmps3;go_wp2;go_ret;exact⟨rfl,cE _ _⟩
 by_cases c1:(1048576:Int)<(len1:Int)
 ·go_enter Tryz.func3,Tryz.ntmps3;go_wp2;go_ret;exact⟨rfl,cE _ _⟩
 go_enter Tryz.func3,Tryz.ntmps3;go_wp2_with fail;refine(pG w a0 len0 cap0 s0).mono ?_;rintro e wd ⟨o,pa,pc,p,la0,n,lc0,ad0,cp0,L,rfl,hP,hG,hlp,hln,hbd⟩;have HP0:=aA hP
 have HG0:=aA hG;have Z0:=aA hbd
 have S1:=aA (s1.below hbd);clear hP hG hbd s0 s1;have hn5:(n:Int)≤12:=by omega
 have hp5:(p.length:Int)≤400:=by omega
 obtain⟨R,hR⟩:∃R,aP o p n (lN L) (fN L)=R:=⟨_,rfl⟩
 have HR:=aA (hR);clear hR;obtain⟨gk,hgk⟩:∃b,rU o n L=b:=⟨_,rfl⟩
 have HGK:=aA (hgk);clear hgk;rcases R with _|S
 ·go_wp2_with fail;refine(dH _ o _ _ _ _ n _ _ (lN L) _ (fN L) HP0.out HG0.out HR.out).mono ?_;rw[show nZ none=false from rfl];rintro e w1 ⟨rfl,b2⟩;have H3:=aA (HP0.out.below b2)
  clear HP0;have H4:=aA (HG0.out.below b2)
  clear HG0;have X5:=aA (S1.out.below b2)
  clear S1;have Z6:=aA (aB Z0.out b2)
  clear Z0;clear b2;go_wp2_with fail;refine(mY _ o _ _ _ _ n _ _ (lN L) _ (fN L) H3.out H4.out HR.out).mono ?_;rw[show nZ none=false from rfl];rintro e w7 ⟨rfl,b8⟩;have H9:=aA (H3.out.below b8)
  clear H3;have H10:=aA (H4.out.below b8)
  clear H4;have X11:=aA (X5.out.below b8)
  clear X5;have Z12:=aA (aB Z6.out b8)
  clear Z6;clear b8;go_wp2_with fail;refine(AU H9.out H10.out HR.out).mono ?_;rintro e w13 ⟨qa14,qc15,ad16,cp17,la18,lc19,rfl,b20,hq21,hl22⟩;have H23:=aA (H9.out.below b20)
  clear H9;have H24:=aA (H10.out.below b20)
  clear H10;have X25:=aA (X11.out.below b20)
  clear X11;have Z26:=aA (aB Z12.out b20)
  clear Z12;have H27:Hid (RL w13 la18 lc19 []):=hl22
  clear hl22;have H28:Hid (fZ w13 qa14 0 qc15 ad16 (lN (fun _=>[])) cp17 (fN (fun _=>[]))):=hq21
  clear hq21;clear b20;clear H28;clear H27;go_wp2_with fail;refine(tF _ o _ n _ _ _ L H24.out).mono ?_;rw[HGK.out];rintro e w29 ⟨rfl,b30⟩;have H31:=aA (H23.out.below b30)
  clear H23;have H32:=aA (H24.out.below b30)
  clear H24;have X33:=aA (X25.out.below b30)
  clear X25;have Z34:=aA (aB Z26.out b30)
  clear Z26;clear b30;cases gk
  ·go_wp2_with fail;refine(eC _).mono ?_;rintro e w35 ⟨rfl,b36⟩;have H37:=aA (H31.out.below b36)
   clear H31;have H38:=aA (H32.out.below b36)
   clear H32;have X39:=aA (X33.out.below b36)
   clear X33;have Z40:=aA (aB Z34.out b36)
   clear Z34;clear b36;go_wp2;go_ret;exact⟨rfl,Z40.out⟩
  ·obtain⟨hBas,ho3,hlst⟩:=sU HGK.out;have HBAS:=aA (hBas)
   clear hBas ho3 hlst;by_cases hn0:n=0
   ·have hn00:((n:Int)==0)=true:=by rw[hn0];rfl
    clear hn0;go_wp2_with fail;refine(eC _).mono ?_;rintro e w41 ⟨rfl,b42⟩;have H43:=aA (H31.out.below b42)
    clear H31;have H44:=aA (H32.out.below b42)
    clear H32;have X45:=aA (X33.out.below b42)
    clear X33;have Z46:=aA (aB Z34.out b42)
    clear Z34;clear b42;go_wp2;go_ret;exact⟨rfl,Z46.out⟩
   ·have hn00:((n:Int)==0)=false:=beq_eq_false_iff_ne.2 (by omega);have hn0p:(0:Int)<(n:Int):=by omega
    go_wp2_with fail;refine(mT w29 a1 len1 cap1 X33.out).mono ?_;rintro e we ⟨dc,dcc,C,dd,dcd,D,rfl,hC,hD,hlC,hlD,hbe⟩;have HC0:=aA hC
    clear hC hD X33;have H47:=aA (H31.out.below hbe)
    clear H31;have H48:=aA (H32.out.below hbe)
    clear H32;have Z49:=aA (aB Z34.out hbe)
    clear Z34;clear hbe;obtain⟨k,hk⟩:∃k:Nat,(len0:Int).tmod (n:Int)=(k:Int):=⟨((len0:Int).tmod (n:Int)).toNat,by have:=(lO (x:=(len0:Int)) (n:=(n:Int)) (by omega) (by omega)).1;omega⟩
    have hkn:k<n:=by have:=(lO (x:=(len0:Int)) (n:=(n:Int)) (by omega) (by omega)).2;omega
    have hkI:(k:Int)<(n:Int):=by omega
    have hwk:IntKind.i64.wrap (k:Int)=(k:Int):=by rw[IntKind.wrap_i64];omega
    obtain⟨m,hm⟩:∃m:Nat,m+1=n:=⟨n-1,by omega⟩
    have hmn:m<n:=by omega
    have hmI:(m:Int)<(n:Int):=by omega
    have hwm:IntKind.i64.wrap ((n:Int)-1)=(m:Int):=by rw[IntKind.wrap_i64];omega
    have hwm2:(n:Int)-1=(m:Int):=by omega
    clear hm;obtain⟨lb,off,rfl,hlb,hcl⟩:=H48.out.2.2.1.resolve_left hn0;have g0:we.cell? ⟨lb,off+k,none⟩=some (.slice (ad0 k) (L k).length (cp0 k)):=hcl k hkn
    have HE:Hid (RL we (ad0 k) (cp0 k) (L k)):=H48.out.2.2.2 k hkn;clear hcl hlb;obtain⟨X,o1,h1⟩:∃Q q,lF C (L k)=(Q,q):=⟨_,_,rfl⟩
    have H1:=aA (h1);clear h1;go_wp2_with fail;refine(sQ HC0.out HE.out).mono ?_;rw[H1.out];rintro e w50 ⟨a51,c52,rfl,b53,r54⟩;have H55:=aA (H47.out.below b53)
    clear H47;have H56:=aA (H48.out.below b53)
    clear H48;have H57:=aA (HC0.out.below b53)
    clear HC0;have H58:=aA (HE.out.below b53)
    clear HE;have Z59:=aA (aB Z49.out b53)
    clear Z49;have H60:Hid (RL w50 a51 c52 X):=r54
    clear r54;clear b53;clear g0;obtain⟨lb2,off2,e2,hlb2,hcl2⟩:=H56.out.2.2.1.resolve_left hn0;cases e2;have g1:w50.cell? ⟨lb,off+m,none⟩=some (.slice (ad0 m) (L m).length (cp0 m)):=hcl2 m hmn
    have HE2:Hid (RL w50 (ad0 m) (cp0 m) (L m)):=H56.out.2.2.2 m hmn;clear hcl2 hlb2;obtain⟨Y,o2,h2⟩:∃Q q,lF p (L m)=(Q,q):=⟨_,_,rfl⟩
    have H2:=aA (h2);clear h2;go_wp2_with fail;refine(sQ H55.out HE2.out).mono ?_;rw[H2.out];rintro e w61 ⟨a62,c63,rfl,b64,r65⟩;have H66:=aA (H55.out.below b64)
    clear H55;have H67:=aA (H56.out.below b64)
    clear H56;have H68:=aA (H57.out.below b64)
    clear H57;have H69:=aA (H58.out.below b64)
    clear H58;have H70:=aA (H60.out.below b64)
    clear H60;have H71:=aA (HE2.out.below b64)
    clear HE2;have Z72:=aA (aB Z59.out b64)
    clear Z59;have H73:Hid (RL w61 a62 c63 Y):=r65
    clear r65;clear b64;clear g1;obtain⟨Q3,o3,h3⟩:∃Q q,CH X Y=(Q,q):=⟨_,_,rfl⟩
    have H3:=aA (h3);clear h3;go_wp2_with fail;refine(EW H70.out H73.out).mono ?_;rw[H3.out];rintro e w74 ⟨a75,c76,rfl,b77,r78⟩;have H79:=aA (H66.out.below b77)
    clear H66;have H80:=aA (H67.out.below b77)
    clear H67;have H81:=aA (H68.out.below b77)
    clear H68;have H82:=aA (H69.out.below b77)
    clear H69;have H83:=aA (H70.out.below b77)
    clear H70;have H84:=aA (H71.out.below b77)
    clear H71;have H85:=aA (H73.out.below b77)
    clear H73;have Z86:=aA (aB Z72.out b77)
    clear Z72;have H87:Hid (RL w74 a75 c76 Q3):=r78
    clear r78;clear b77;cases o1
    ·go_wp2_with fail;refine(eC _).mono ?_;rintro e w88 ⟨rfl,b89⟩;have H90:=aA (H79.out.below b89)
     clear H79;have H91:=aA (H80.out.below b89)
     clear H80;have H92:=aA (H81.out.below b89)
     clear H81;have H93:=aA (H82.out.below b89)
     clear H82;have H94:=aA (H83.out.below b89)
     clear H83;have H95:=aA (H84.out.below b89)
     clear H84;have H96:=aA (H85.out.below b89)
     clear H85;have H97:=aA (H87.out.below b89)
     clear H87;have Z98:=aA (aB Z86.out b89)
     clear Z86;clear b89;go_wp2;go_ret;exact⟨rfl,Z98.out⟩
    ·cases o2
     ·go_wp2_with fail;refine(eC _).mono ?_;rintro e w99 ⟨rfl,b100⟩;have H101:=aA (H79.out.below b100)
      clear H79;have H102:=aA (H80.out.below b100)
      clear H80;have H103:=aA (H81.out.below b100)
      clear H81;have H104:=aA (H82.out.below b100)
      clear H82;have H105:=aA (H83.out.below b100)
      clear H83;have H106:=aA (H84.out.below b100)
      clear H84;have H107:=aA (H85.out.below b100)
      clear H85;have H108:=aA (H87.out.below b100)
      clear H87;have Z109:=aA (aB Z86.out b100)
      clear Z86;clear b100;go_wp2;go_ret;exact⟨rfl,Z109.out⟩
     ·cases o3
      ·go_wp2_with fail;refine(eC _).mono ?_;rintro e w110 ⟨rfl,b111⟩;have H112:=aA (H79.out.below b111)
       clear H79;have H113:=aA (H80.out.below b111)
       clear H80;have H114:=aA (H81.out.below b111)
       clear H81;have H115:=aA (H82.out.below b111)
       clear H82;have H116:=aA (H83.out.below b111)
       clear H83;have H117:=aA (H84.out.below b111)
       clear H84;have H118:=aA (H85.out.below b111)
       clear H85;have H119:=aA (H87.out.below b111)
       clear H87;have Z120:=aA (aB Z86.out b111)
       clear Z86;clear b111;go_wp2;go_ret;exact⟨rfl,Z120.out⟩
      ·obtain⟨R2,hR2⟩:∃R,aP o Q3 n (lN L) (fN L)=R:=⟨_,rfl⟩
       have HR2:=aA (hR2);clear hR2;rcases R2 with _|D2
       ·go_wp2_with fail;refine(dH _ o _ _ _ _ n _ _ (lN L) _ (fN L) H87.out H80.out HR2.out).mono ?_;rw[show nZ none=false from rfl];rintro e w121 ⟨rfl,b122⟩;have H123:=aA (H79.out.below b122)
        clear H79;have H124:=aA (H80.out.below b122)
        clear H80;have H125:=aA (H81.out.below b122)
        clear H81;have H126:=aA (H82.out.below b122)
        clear H82;have H127:=aA (H83.out.below b122)
        clear H83;have H128:=aA (H84.out.below b122)
        clear H84;have H129:=aA (H85.out.below b122)
        clear H85;have H130:=aA (H87.out.below b122)
        clear H87;have Z131:=aA (aB Z86.out b122)
        clear Z86;clear b122;go_wp2;go_ret;exact⟨rfl,Z131.out⟩
       ·have HLAW:=aA (FL HBAS.out hkn hmn H1.out H2.out H3.out HR2.out);go_wp2_with fail;refine(dH _ o _ _ _ _ n _ _ (lN L) _ (fN L) H87.out H80.out HR2.out).mono ?_;rw[HLAW.out];rintro e w132 ⟨rfl,b133⟩;have H134:=aA (H79.out.below b133)
        clear H79;have H135:=aA (H80.out.below b133)
        clear H80;have H136:=aA (H81.out.below b133)
        clear H81;have H137:=aA (H82.out.below b133)
        clear H82;have H138:=aA (H83.out.below b133)
        clear H83;have H139:=aA (H84.out.below b133)
        clear H84;have H140:=aA (H85.out.below b133)
        clear H85;have H141:=aA (H87.out.below b133)
        clear H87;have Z142:=aA (aB Z86.out b133)
        clear Z86;clear b133;go_wp2;go_ret;exact⟨rfl,Z142.out⟩
 ·by_cases hr0:S.r=[]
  ·have HGI:=aA (pH hr0);have HR0:=aA (hr0)
   have hl0:(S.r.length:Int)=0:=by rw[hr0];rfl
   have HL0:=aA (hl0);have hq0:((S.r.length:Int)==0)=true:=by rw[hl0];rfl
   clear hr0 hl0;go_wp2_with fail;refine(dH _ o _ _ _ _ n _ _ (lN L) _ (fN L) HP0.out HG0.out HR.out).mono ?_;rw[HGI.out];rintro e w143 ⟨rfl,b144⟩;have H145:=aA (HP0.out.below b144)
   clear HP0;have H146:=aA (HG0.out.below b144)
   clear HG0;have X147:=aA (S1.out.below b144)
   clear S1;have Z148:=aA (aB Z0.out b144)
   clear Z0;clear b144;go_wp2_with fail;refine(mY _ o _ _ _ _ n _ _ (lN L) _ (fN L) H145.out H146.out HR.out).mono ?_;rw[HGI.out];rintro e w149 ⟨rfl,b150⟩;have H151:=aA (H145.out.below b150)
   clear H145;have H152:=aA (H146.out.below b150)
   clear H146;have X153:=aA (X147.out.below b150)
   clear X147;have Z154:=aA (aB Z148.out b150)
   clear Z148;clear b150;go_wp2_with fail;refine(jF H151.out H152.out HR.out).mono ?_;rintro e w155 ⟨qa156,qc157,ad158,cp159,la160,lc161,rfl,b162,hq163,hl164⟩;have H165:=aA (H151.out.below b162)
   clear H151;have H166:=aA (H152.out.below b162)
   clear H152;have X167:=aA (X153.out.below b162)
   clear X153;have Z168:=aA (aB Z154.out b162)
   clear Z154;have H169:Hid (RL w155 la160 lc161 S.r):=hl164
   clear hl164;have H170:Hid (fZ w155 qa156 n qc157 ad158 (lN S.q) cp159 (fN S.q)):=hq163
   clear hq163;clear b162;clear H170;clear H169;go_wp2_with fail;refine(tF _ o _ n _ _ _ L H166.out).mono ?_;rw[HGK.out];rintro e w171 ⟨rfl,b172⟩;have H173:=aA (H165.out.below b172)
   clear H165;have H174:=aA (H166.out.below b172)
   clear H166;have X175:=aA (X167.out.below b172)
   clear X167;have Z176:=aA (aB Z168.out b172)
   clear Z168;clear b172;cases gk
   ·go_wp2_with fail;refine(eC _).mono ?_;rintro e w177 ⟨rfl,b178⟩;have H179:=aA (H173.out.below b178)
    clear H173;have H180:=aA (H174.out.below b178)
    clear H174;have X181:=aA (X175.out.below b178)
    clear X175;have Z182:=aA (aB Z176.out b178)
    clear Z176;clear b178;go_wp2;go_ret;exact⟨rfl,Z182.out⟩
   ·obtain⟨hBas,ho3,hlst⟩:=sU HGK.out;have HBAS:=aA (hBas)
    clear hBas ho3 hlst;by_cases hn0:n=0
    ·have hn00:((n:Int)==0)=true:=by rw[hn0];rfl
     clear hn0;go_wp2_with fail;refine(eC _).mono ?_;rintro e w183 ⟨rfl,b184⟩;have H185:=aA (H173.out.below b184)
     clear H173;have H186:=aA (H174.out.below b184)
     clear H174;have X187:=aA (X175.out.below b184)
     clear X175;have Z188:=aA (aB Z176.out b184)
     clear Z176;clear b184;go_wp2;go_ret;exact⟨rfl,Z188.out⟩
    ·have hn00:((n:Int)==0)=false:=beq_eq_false_iff_ne.2 (by omega);have hn0p:(0:Int)<(n:Int):=by omega
     go_wp2_with fail;refine(mT w171 a1 len1 cap1 X175.out).mono ?_;rintro e we ⟨dc,dcc,C,dd,dcd,D,rfl,hC,hD,hlC,hlD,hbe⟩;have HC0:=aA hC
     clear hC hD X175;have H189:=aA (H173.out.below hbe)
     clear H173;have H190:=aA (H174.out.below hbe)
     clear H174;have Z191:=aA (aB Z176.out hbe)
     clear Z176;clear hbe;obtain⟨k,hk⟩:∃k:Nat,(len0:Int).tmod (n:Int)=(k:Int):=⟨((len0:Int).tmod (n:Int)).toNat,by have:=(lO (x:=(len0:Int)) (n:=(n:Int)) (by omega) (by omega)).1;omega⟩
     have hkn:k<n:=by have:=(lO (x:=(len0:Int)) (n:=(n:Int)) (by omega) (by omega)).2;omega
     have hkI:(k:Int)<(n:Int):=by omega
     have hwk:IntKind.i64.wrap (k:Int)=(k:Int):=by rw[IntKind.wrap_i64];omega
     obtain⟨m,hm⟩:∃m:Nat,m+1=n:=⟨n-1,by omega⟩
     have hmn:m<n:=by omega
     have hmI:(m:Int)<(n:Int):=by omega
     have hwm:IntKind.i64.wrap ((n:Int)-1)=(m:Int):=by rw[IntKind.wrap_i64];omega
     have hwm2:(n:Int)-1=(m:Int):=by omega
     clear hm;obtain⟨lb,off,rfl,hlb,hcl⟩:=H190.out.2.2.1.resolve_left hn0;have g0:we.cell? ⟨lb,off+k,none⟩=some (.slice (ad0 k) (L k).length (cp0 k)):=hcl k hkn
     have HE:Hid (RL we (ad0 k) (cp0 k) (L k)):=H190.out.2.2.2 k hkn;clear hcl hlb;obtain⟨X,o1,h1⟩:∃Q q,lF C (L k)=(Q,q):=⟨_,_,rfl⟩
     have H1:=aA (h1);clear h1;go_wp2_with fail;refine(sQ HC0.out HE.out).mono ?_;rw[H1.out];rintro e w192 ⟨a193,c194,rfl,b195,r196⟩;have H197:=aA (H189.out.below b195)
     clear H189;have H198:=aA (H190.out.below b195)
     clear H190;have H199:=aA (HC0.out.below b195)
     clear HC0;have H200:=aA (HE.out.below b195)
     clear HE;have Z201:=aA (aB Z191.out b195)
     clear Z191;have H202:Hid (RL w192 a193 c194 X):=r196
     clear r196;clear b195;clear g0;obtain⟨lb2,off2,e2,hlb2,hcl2⟩:=H198.out.2.2.1.resolve_left hn0;cases e2;have g1:w192.cell? ⟨lb,off+m,none⟩=some (.slice (ad0 m) (L m).length (cp0 m)):=hcl2 m hmn
     have HE2:Hid (RL w192 (ad0 m) (cp0 m) (L m)):=H198.out.2.2.2 m hmn;clear hcl2 hlb2;obtain⟨Y,o2,h2⟩:∃Q q,lF p (L m)=(Q,q):=⟨_,_,rfl⟩
     have H2:=aA (h2);clear h2;go_wp2_with fail;refine(sQ H197.out HE2.out).mono ?_;rw[H2.out];rintro e w203 ⟨a204,c205,rfl,b206,r207⟩;have H208:=aA (H197.out.below b206)
     clear H197;have H209:=aA (H198.out.below b206)
     clear H198;have H210:=aA (H199.out.below b206)
     clear H199;have H211:=aA (H200.out.below b206)
     clear H200;have H212:=aA (H202.out.below b206)
     clear H202;have H213:=aA (HE2.out.below b206)
     clear HE2;have Z214:=aA (aB Z201.out b206)
     clear Z201;have H215:Hid (RL w203 a204 c205 Y):=r207
     clear r207;clear b206;clear g1;obtain⟨Q3,o3,h3⟩:∃Q q,CH X Y=(Q,q):=⟨_,_,rfl⟩
     have H3:=aA (h3);clear h3;go_wp2_with fail;refine(EW H212.out H215.out).mono ?_;rw[H3.out];rintro e w216 ⟨a217,c218,rfl,b219,r220⟩;have H221:=aA (H208.out.below b219)
     clear H208;have H222:=aA (H209.out.below b219)
     clear H209;have H223:=aA (H210.out.below b219)
     clear H210;have H224:=aA (H211.out.below b219)
     clear H211;have H225:=aA (H212.out.below b219)
     clear H212;have H226:=aA (H213.out.below b219)
     clear H213;have H227:=aA (H215.out.below b219)
     clear H215;have Z228:=aA (aB Z214.out b219)
     clear Z214;have H229:Hid (RL w216 a217 c218 Q3):=r220
     clear r220;clear b219;cases o1
     ·go_wp2_with fail;refine(eC _).mono ?_;rintro e w230 ⟨rfl,b231⟩;have H232:=aA (H221.out.below b231)
      clear H221;have H233:=aA (H222.out.below b231)
      clear H222;have H234:=aA (H223.out.below b231)
      clear H223;have H235:=aA (H224.out.below b231)
      clear H224;have H236:=aA (H225.out.below b231)
      clear H225;have H237:=aA (H226.out.below b231)
      clear H226;have H238:=aA (H227.out.below b231)
      clear H227;have H239:=aA (H229.out.below b231)
      clear H229;have Z240:=aA (aB Z228.out b231)
      clear Z228;clear b231;go_wp2;go_ret;exact⟨rfl,Z240.out⟩
     ·cases o2
      ·go_wp2_with fail;refine(eC _).mono ?_;rintro e w241 ⟨rfl,b242⟩;have H243:=aA (H221.out.below b242)
       clear H221;have H244:=aA (H222.out.below b242)
       clear H222;have H245:=aA (H223.out.below b242)
       clear H223;have H246:=aA (H224.out.below b242)
       clear H224;have H247:=aA (H225.out.below b242)
       clear H225;have H248:=aA (H226.out.below b242)
       clear H226;have H249:=aA (H227.out.below b242)
       clear H227;have H250:=aA (H229.out.below b242)
       clear H229;have Z251:=aA (aB Z228.out b242)
       clear Z228;clear b242;go_wp2;go_ret;exact⟨rfl,Z251.out⟩
      ·cases o3
       ·go_wp2_with fail;refine(eC _).mono ?_;rintro e w252 ⟨rfl,b253⟩;have H254:=aA (H221.out.below b253)
        clear H221;have H255:=aA (H222.out.below b253)
        clear H222;have H256:=aA (H223.out.below b253)
        clear H223;have H257:=aA (H224.out.below b253)
        clear H224;have H258:=aA (H225.out.below b253)
        clear H225;have H259:=aA (H226.out.below b253)
        clear H226;have H260:=aA (H227.out.below b253)
        clear H227;have H261:=aA (H229.out.below b253)
        clear H229;have Z262:=aA (aB Z228.out b253)
        clear Z228;clear b253;go_wp2;go_ret;exact⟨rfl,Z262.out⟩
       ·obtain⟨R2,hR2⟩:∃R,aP o Q3 n (lN L) (fN L)=R:=⟨_,rfl⟩
        have HR2:=aA (hR2);clear hR2;rcases R2 with _|D2
        ·go_wp2_with fail;refine(dH _ o _ _ _ _ n _ _ (lN L) _ (fN L) H229.out H222.out HR2.out).mono ?_;rw[show nZ none=false from rfl];rintro e w263 ⟨rfl,b264⟩;have H265:=aA (H221.out.below b264)
         clear H221;have H266:=aA (H222.out.below b264)
         clear H222;have H267:=aA (H223.out.below b264)
         clear H223;have H268:=aA (H224.out.below b264)
         clear H224;have H269:=aA (H225.out.below b264)
         clear H225;have H270:=aA (H226.out.below b264)
         clear H226;have H271:=aA (H227.out.below b264)
         clear H227;have H272:=aA (H229.out.below b264)
         clear H229;have Z273:=aA (aB Z228.out b264)
         clear Z228;clear b264;go_wp2;go_ret;exact⟨rfl,Z273.out⟩
        ·have HLAW:=aA (FL HBAS.out hkn hmn H1.out H2.out H3.out HR2.out);go_wp2_with fail;refine(dH _ o _ _ _ _ n _ _ (lN L) _ (fN L) H229.out H222.out HR2.out).mono ?_;rw[HLAW.out];rintro e w274 ⟨rfl,b275⟩;have H276:=aA (H221.out.below b275)
         clear H221;have H277:=aA (H222.out.below b275)
         clear H222;have H278:=aA (H223.out.below b275)
         clear H223;have H279:=aA (H224.out.below b275)
         clear H224;have H280:=aA (H225.out.below b275)
         clear H225;have H281:=aA (H226.out.below b275)
         clear H226;have H282:=aA (H227.out.below b275)
         clear H227;have H283:=aA (H229.out.below b275)
         clear H229;have Z284:=aA (aB Z228.out b275)
         clear Z228;clear b275;go_wp2;go_ret;exact⟨rfl,Z284.out⟩
  ·have HGI:=aA (vA hr0);have hq0:((S.r.length:Int)==0)=false:=beq_eq_false_iff_ne.2 (fun e=>hr0 (List.length_eq_zero_iff.1 (by omega)))
   clear hr0;go_wp2_with fail;refine(dH _ o _ _ _ _ n _ _ (lN L) _ (fN L) HP0.out HG0.out HR.out).mono ?_;rw[HGI.out];rintro e w285 ⟨rfl,b286⟩;have H287:=aA (HP0.out.below b286)
   clear HP0;have H288:=aA (HG0.out.below b286)
   clear HG0;have X289:=aA (S1.out.below b286)
   clear S1;have Z290:=aA (aB Z0.out b286)
   clear Z0;clear b286;go_wp2_with fail;refine(mY _ o _ _ _ _ n _ _ (lN L) _ (fN L) H287.out H288.out HR.out).mono ?_;rw[HGI.out];rintro e w291 ⟨rfl,b292⟩;have H293:=aA (H287.out.below b292)
   clear H287;have H294:=aA (H288.out.below b292)
   clear H288;have X295:=aA (X289.out.below b292)
   clear X289;have Z296:=aA (aB Z290.out b292)
   clear Z290;clear b292;go_wp2_with fail;refine(jF H293.out H294.out HR.out).mono ?_;rintro e w297 ⟨qa298,qc299,ad300,cp301,la302,lc303,rfl,b304,hq305,hl306⟩;have H307:=aA (H293.out.below b304)
   clear H293;have H308:=aA (H294.out.below b304)
   clear H294;have X309:=aA (X295.out.below b304)
   clear X295;have Z310:=aA (aB Z296.out b304)
   clear Z296;have H311:Hid (RL w297 la302 lc303 S.r):=hl306
   clear hl306;have H312:Hid (fZ w297 qa298 n qc299 ad300 (lN S.q) cp301 (fN S.q)):=hq305
   clear hq305;clear b304;clear H312;clear H311;go_wp2_with fail;refine(tF _ o _ n _ _ _ L H308.out).mono ?_;rw[HGK.out];rintro e w313 ⟨rfl,b314⟩;have H315:=aA (H307.out.below b314)
   clear H307;have H316:=aA (H308.out.below b314)
   clear H308;have X317:=aA (X309.out.below b314)
   clear X309;have Z318:=aA (aB Z310.out b314)
   clear Z310;clear b314;cases gk
   ·go_wp2_with fail;refine(eC _).mono ?_;rintro e w319 ⟨rfl,b320⟩;have H321:=aA (H315.out.below b320)
    clear H315;have H322:=aA (H316.out.below b320)
    clear H316;have X323:=aA (X317.out.below b320)
    clear X317;have Z324:=aA (aB Z318.out b320)
    clear Z318;clear b320;go_wp2;go_ret;exact⟨rfl,Z324.out⟩
   ·obtain⟨hBas,ho3,hlst⟩:=sU HGK.out;have HBAS:=aA (hBas)
    clear hBas ho3 hlst;by_cases hn0:n=0
    ·have hn00:((n:Int)==0)=true:=by rw[hn0];rfl
     clear hn0;go_wp2_with fail;refine(eC _).mono ?_;rintro e w325 ⟨rfl,b326⟩;have H327:=aA (H315.out.below b326)
     clear H315;have H328:=aA (H316.out.below b326)
     clear H316;have X329:=aA (X317.out.below b326)
     clear X317;have Z330:=aA (aB Z318.out b326)
     clear Z318;clear b326;go_wp2;go_ret;exact⟨rfl,Z330.out⟩
    ·have hn00:((n:Int)==0)=false:=beq_eq_false_iff_ne.2 (by omega);have hn0p:(0:Int)<(n:Int):=by omega
     go_wp2_with fail;refine(mT w313 a1 len1 cap1 X317.out).mono ?_;rintro e we ⟨dc,dcc,C,dd,dcd,D,rfl,hC,hD,hlC,hlD,hbe⟩;have HC0:=aA hC
     clear hC hD X317;have H331:=aA (H315.out.below hbe)
     clear H315;have H332:=aA (H316.out.below hbe)
     clear H316;have Z333:=aA (aB Z318.out hbe)
     clear Z318;clear hbe;obtain⟨k,hk⟩:∃k:Nat,(len0:Int).tmod (n:Int)=(k:Int):=⟨((len0:Int).tmod (n:Int)).toNat,by have:=(lO (x:=(len0:Int)) (n:=(n:Int)) (by omega) (by omega)).1;omega⟩
     have hkn:k<n:=by have:=(lO (x:=(len0:Int)) (n:=(n:Int)) (by omega) (by omega)).2;omega
     have hkI:(k:Int)<(n:Int):=by omega
     have hwk:IntKind.i64.wrap (k:Int)=(k:Int):=by rw[IntKind.wrap_i64];omega
     obtain⟨m,hm⟩:∃m:Nat,m+1=n:=⟨n-1,by omega⟩
     have hmn:m<n:=by omega
     have hmI:(m:Int)<(n:Int):=by omega
     have hwm:IntKind.i64.wrap ((n:Int)-1)=(m:Int):=by rw[IntKind.wrap_i64];omega
     have hwm2:(n:Int)-1=(m:Int):=by omega
     clear hm;obtain⟨lb,off,rfl,hlb,hcl⟩:=H332.out.2.2.1.resolve_left hn0;have g0:we.cell? ⟨lb,off+k,none⟩=some (.slice (ad0 k) (L k).length (cp0 k)):=hcl k hkn
     have HE:Hid (RL we (ad0 k) (cp0 k) (L k)):=H332.out.2.2.2 k hkn;clear hcl hlb;obtain⟨X,o1,h1⟩:∃Q q,lF C (L k)=(Q,q):=⟨_,_,rfl⟩
     have H1:=aA (h1);clear h1;go_wp2_with fail;refine(sQ HC0.out HE.out).mono ?_;rw[H1.out];rintro e w334 ⟨a335,c336,rfl,b337,r338⟩;have H339:=aA (H331.out.below b337)
     clear H331;have H340:=aA (H332.out.below b337)
     clear H332;have H341:=aA (HC0.out.below b337)
     clear HC0;have H342:=aA (HE.out.below b337)
     clear HE;have Z343:=aA (aB Z333.out b337)
     clear Z333;have H344:Hid (RL w334 a335 c336 X):=r338
     clear r338;clear b337;clear g0;obtain⟨lb2,off2,e2,hlb2,hcl2⟩:=H340.out.2.2.1.resolve_left hn0;cases e2;have g1:w334.cell? ⟨lb,off+m,none⟩=some (.slice (ad0 m) (L m).length (cp0 m)):=hcl2 m hmn
     have HE2:Hid (RL w334 (ad0 m) (cp0 m) (L m)):=H340.out.2.2.2 m hmn;clear hcl2 hlb2;obtain⟨Y,o2,h2⟩:∃Q q,lF p (L m)=(Q,q):=⟨_,_,rfl⟩
     have H2:=aA (h2);clear h2;go_wp2_with fail;refine(sQ H339.out HE2.out).mono ?_;rw[H2.out];rintro e w345 ⟨a346,c347,rfl,b348,r349⟩;have H350:=aA (H339.out.below b348)
     clear H339;have H351:=aA (H340.out.below b348)
     clear H340;have H352:=aA (H341.out.below b348)
     clear H341;have H353:=aA (H342.out.below b348)
     clear H342;have H354:=aA (H344.out.below b348)
     clear H344;have H355:=aA (HE2.out.below b348)
     clear HE2;have Z356:=aA (aB Z343.out b348)
     clear Z343;have H357:Hid (RL w345 a346 c347 Y):=r349
     clear r349;clear b348;clear g1;obtain⟨Q3,o3,h3⟩:∃Q q,CH X Y=(Q,q):=⟨_,_,rfl⟩
     have H3:=aA (h3);clear h3;go_wp2_with fail;refine(EW H354.out H357.out).mono ?_;rw[H3.out];rintro e w358 ⟨a359,c360,rfl,b361,r362⟩;have H363:=aA (H350.out.below b361)
     clear H350;have H364:=aA (H351.out.below b361)
     clear H351;have H365:=aA (H352.out.below b361)
     clear H352;have H366:=aA (H353.out.below b361)
     clear H353;have H367:=aA (H354.out.below b361)
     clear H354;have H368:=aA (H355.out.below b361)
     clear H355;have H369:=aA (H357.out.below b361)
     clear H357;have Z370:=aA (aB Z356.out b361)
     clear Z356;have H371:Hid (RL w358 a359 c360 Q3):=r362
     clear r362;clear b361;cases o1
     ·go_wp2_with fail;refine(eC _).mono ?_;rintro e w372 ⟨rfl,b373⟩;have H374:=aA (H363.out.below b373)
      clear H363;have H375:=aA (H364.out.below b373)
      clear H364;have H376:=aA (H365.out.below b373)
      clear H365;have H377:=aA (H366.out.below b373)
      clear H366;have H378:=aA (H367.out.below b373)
      clear H367;have H379:=aA (H368.out.below b373)
      clear H368;have H380:=aA (H369.out.below b373)
      clear H369;have H381:=aA (H371.out.below b373)
      clear H371;have Z382:=aA (aB Z370.out b373)
      clear Z370;clear b373;go_wp2;go_ret;exact⟨rfl,Z382.out⟩
     ·cases o2
      ·go_wp2_with fail;refine(eC _).mono ?_;rintro e w383 ⟨rfl,b384⟩;have H385:=aA (H363.out.below b384)
       clear H363;have H386:=aA (H364.out.below b384)
       clear H364;have H387:=aA (H365.out.below b384)
       clear H365;have H388:=aA (H366.out.below b384)
       clear H366;have H389:=aA (H367.out.below b384)
       clear H367;have H390:=aA (H368.out.below b384)
       clear H368;have H391:=aA (H369.out.below b384)
       clear H369;have H392:=aA (H371.out.below b384)
       clear H371;have Z393:=aA (aB Z370.out b384)
       clear Z370;clear b384;go_wp2;go_ret;exact⟨rfl,Z393.out⟩
      ·cases o3
       ·go_wp2_with fail;refine(eC _).mono ?_;rintro e w394 ⟨rfl,b395⟩;have H396:=aA (H363.out.below b395)
        clear H363;have H397:=aA (H364.out.below b395)
        clear H364;have H398:=aA (H365.out.below b395)
        clear H365;have H399:=aA (H366.out.below b395)
        clear H366;have H400:=aA (H367.out.below b395)
        clear H367;have H401:=aA (H368.out.below b395)
        clear H368;have H402:=aA (H369.out.below b395)
        clear H369;have H403:=aA (H371.out.below b395)
        clear H371;have Z404:=aA (aB Z370.out b395)
        clear Z370;clear b395;go_wp2;go_ret;exact⟨rfl,Z404.out⟩
       ·obtain⟨R2,hR2⟩:∃R,aP o Q3 n (lN L) (fN L)=R:=⟨_,rfl⟩
        have HR2:=aA (hR2);clear hR2;rcases R2 with _|D2
        ·go_wp2_with fail;refine(dH _ o _ _ _ _ n _ _ (lN L) _ (fN L) H371.out H364.out HR2.out).mono ?_;rw[show nZ none=false from rfl];rintro e w405 ⟨rfl,b406⟩;have H407:=aA (H363.out.below b406)
         clear H363;have H408:=aA (H364.out.below b406)
         clear H364;have H409:=aA (H365.out.below b406)
         clear H365;have H410:=aA (H366.out.below b406)
         clear H366;have H411:=aA (H367.out.below b406)
         clear H367;have H412:=aA (H368.out.below b406)
         clear H368;have H413:=aA (H369.out.below b406)
         clear H369;have H414:=aA (H371.out.below b406)
         clear H371;have Z415:=aA (aB Z370.out b406)
         clear Z370;clear b406;go_wp2;go_ret;exact⟨rfl,Z415.out⟩
        ·have HLAW:=aA (FL HBAS.out hkn hmn H1.out H2.out H3.out HR2.out);go_wp2_with fail;refine(dH _ o _ _ _ _ n _ _ (lN L) _ (fN L) H371.out H364.out HR2.out).mono ?_;rw[HLAW.out];rintro e w416 ⟨rfl,b417⟩;have H418:=aA (H363.out.below b417)
         clear H363;have H419:=aA (H364.out.below b417)
         clear H364;have H420:=aA (H365.out.below b417)
         clear H365;have H421:=aA (H366.out.below b417)
         clear H366;have H422:=aA (H367.out.below b417)
         clear H367;have H423:=aA (H368.out.below b417)
         clear H368;have H424:=aA (H369.out.below b417)
         clear H369;have H425:=aA (H371.out.below b417)
         clear H371;have Z426:=aA (aB Z370.out b417)
         clear Z370;clear b417;go_wp2;go_ret;exact⟨rfl,Z426.out⟩
end Go.Proofs.YtncffcaabnjioaaGreat
