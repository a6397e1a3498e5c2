package tests

import (
	"math"
	"slices"
	"strconv"
	"strings"
	"testing"

	"loop.example/selvedge/impl"
)

// badNumbers can't stand at a monomial.
var badNumbers = append([]int{0}, noNumbers...)

// numbersOf is what stands at each monomial of an operator.
func numbersOf(p []impl.PolTerm) map[impl.MonMon]int {
	numbers := map[impl.MonMon]int{}
	for _, term := range p {
		numbers[term.M] = term.C
	}
	return numbers
}

// plainSum is a and c times b, of any size, worked out without the program.
func plainSum(a []impl.PolTerm, c int, b []impl.PolTerm) []impl.PolTerm {
	numbers := numbersOf(a)
	for _, term := range b {
		numbers[term.M] += c * term.C
	}
	return fromNumbers(numbers)
}

// somePols are operators of many sizes: 0, 1, small ones that meet each other, and great ones.
func somePols() [][]impl.PolTerm {
	d := dice(3)
	pols := [][]impl.PolTerm{nil, {}, {{C: 1}}, {{C: impl.FldP - 1}}, {{C: 1, M: impl.MonMon{X: 15, Y: 15, D: 15, E: 15}}}, manyTerms(200), manyTerms(impl.PolMax)}
	for range 40 {
		pols = append(pols, d.pol(6, 1), d.pol(30, 2), d.pol(10, impl.MonMax))
	}
	return pols
}

// monsOf are the monomials that stand in one of some operators, and some more.
func monsOf(pols ...[]impl.PolTerm) []impl.MonMon {
	mons := gridMons(0, 1)
	for _, p := range pols {
		for _, term := range p {
			mons = append(mons, term.M)
		}
	}
	return mons
}

func TestPolTable(t *testing.T) {
	if impl.PolMax != 400 {
		t.Fatalf("PolMax is %d", impl.PolMax)
	}
}

// oneByOne is the sum of PolOf of terms, one by one, as far as it is true.
func oneByOne(p []impl.PolTerm) ([]impl.PolTerm, bool) {
	var sum []impl.PolTerm
	for _, term := range p {
		var ok bool
		if sum, ok = impl.PolAdd(sum, impl.PolOf(term.C, term.M)); !ok {
			return nil, false
		}
	}
	return sum, true
}

// P63
func TestPolOkIsASumOfTerms(t *testing.T) {
	for _, p := range somePols() {
		sum, ok := oneByOne(p)
		if !impl.PolOk(p) || !ok || !slices.Equal(sum, p) {
			t.Fatalf("PolOk of %v is %v; one by one it is %v", p, impl.PolOk(p), sum)
		}
	}
	for name, p := range badPols() {
		sum, ok := oneByOne(p)
		if impl.PolOk(p) || ok && slices.Equal(sum, p) {
			t.Fatalf("PolOk of one with %s is %v; one by one it is %v", name, impl.PolOk(p), sum)
		}
	}
	d := dice(63)
	for range 20000 {
		p := make([]impl.PolTerm, d.roll(4))
		for i := range p {
			p[i] = impl.PolTerm{C: d.roll(103) - 1, M: impl.MonMon{X: d.roll(2), D: d.roll(2), E: d.roll(40)/39*17 - d.roll(40)/39}}
		}
		sum, ok := oneByOne(p)
		if impl.PolOk(p) != (ok && slices.Equal(sum, p)) {
			t.Fatalf("PolOk of %v is %v; one by one it is %v, %v", p, impl.PolOk(p), sum, ok)
		}
	}
}

func TestPolOkEdges(t *testing.T) {
	for _, c := range []int{1, 2, 50, impl.FldP - 1} {
		if !impl.PolOk([]impl.PolTerm{{C: c, M: impl.MonMon{X: 15, E: 15}}}) {
			t.Fatalf("PolOk with number %d is false", c)
		}
	}
	for _, c := range badNumbers {
		if impl.PolOk([]impl.PolTerm{{C: c}}) {
			t.Fatalf("PolOk with number %d is true", c)
		}
	}
	for _, m := range badMons() {
		if impl.PolOk([]impl.PolTerm{{C: 1, M: m}}) || impl.PolOk([]impl.PolTerm{{C: 1, M: impl.MonMon{X: 15, Y: 15, D: 15, E: 15}}, {C: 1, M: m}}) {
			t.Fatalf("PolOk with monomial %v is true", m)
		}
	}
	if !impl.PolOk(manyTerms(impl.PolMax)) || impl.PolOk(manyTerms(impl.PolMax+1)) || impl.PolOk(manyTerms(4096)) {
		t.Fatal("PolOk at PolMax")
	}
	mons := gridMons(0, 1, 15)
	for _, a := range mons {
		for _, b := range mons {
			want := slices.Compare(orderKeys(impl.OrdDeg, a), orderKeys(impl.OrdDeg, b)) > 0
			if got := impl.PolOk([]impl.PolTerm{{C: 1, M: a}, {C: 1, M: b}}); got != want {
				t.Fatalf("PolOk of %v ahead of %v is %v", a, b, got)
			}
		}
	}
}

// P64
func TestPolOf(t *testing.T) {
	for _, m := range someMons() {
		for c := 1; c < impl.FldP; c++ {
			wantPol(t, impl.PolOf(c, m), []impl.PolTerm{{C: c, M: m}}, "PolOf")
		}
		for _, c := range badNumbers {
			wantPol(t, impl.PolOf(c, m), nil, "PolOf")
		}
	}
	for _, m := range badMons() {
		for _, c := range []int{0, 1, impl.FldP - 1, impl.FldP} {
			wantPol(t, impl.PolOf(c, m), nil, "PolOf")
		}
	}
}

// P65
func TestPolAddOrderAndBrackets(t *testing.T) {
	pols := somePols()
	for i, a := range pols {
		for k, b := range pols {
			ab, ok := impl.PolAdd(a, b)
			if want := plainSum(a, 1, b); ok != (len(want) <= impl.PolMax) || ok && !slices.Equal(ab, want) || !ok && len(ab) > 0 {
				t.Fatalf("PolAdd of %v and %v is %v, %v", a, b, ab, ok)
			}
			ba, baOk := impl.PolAdd(b, a)
			if ok != baOk || !slices.Equal(ab, ba) {
				t.Fatalf("PolAdd of %v and %v hangs on their order", a, b)
			}
			if !ok {
				continue
			}
			for _, m := range monsOf(a, b) {
				if impl.PolAt(ab, m) != impl.FldAdd(impl.PolAt(a, m), impl.PolAt(b, m)) {
					t.Fatalf("PolAt of PolAdd of %v and %v at %v is %d", a, b, m, impl.PolAt(ab, m))
				}
			}
			c := pols[(i*7+k*3)%len(pols)]
			left, leftOk := impl.PolAdd(ab, c)
			bc, bcOk := impl.PolAdd(b, c)
			right, rightOk := impl.PolAdd(a, bc)
			if leftOk && bcOk && rightOk && !slices.Equal(left, right) {
				t.Fatalf("PolAdd of %v, %v and %v hangs on brackets", a, b, c)
			}
		}
	}
}

// P66
func TestPolSub(t *testing.T) {
	pols := somePols()
	for _, a := range pols {
		for _, b := range pols {
			less, ok := impl.PolSub(a, b)
			if want := plainSum(a, -1, b); ok != (len(want) <= impl.PolMax) || ok && !slices.Equal(less, want) || !ok && len(less) > 0 {
				t.Fatalf("PolSub of %v and %v is %v, %v", a, b, less, ok)
			}
			if !ok {
				continue
			}
			if back, ok := impl.PolAdd(less, b); !ok || !slices.Equal(back, a) {
				t.Fatalf("PolAdd of PolSub of %v and %v is %v, %v", a, b, back, ok)
			}
		}
		if none, ok := impl.PolSub(a, a); !ok || len(none) != 0 {
			t.Fatalf("PolSub of %v and itself is %v, %v", a, none, ok)
		}
	}
}

// behind are so many terms behind the first so many of manyTerms.
func behind(first int, n int) []impl.PolTerm {
	numbers := numbersOf(manyTerms(first + n))
	for _, term := range manyTerms(first) {
		delete(numbers, term.M)
	}
	return fromNumbers(numbers)
}

func TestPolSumsAtPolMax(t *testing.T) {
	full := manyTerms(impl.PolMax)
	great := impl.PolOf(1, impl.MonMon{X: 15, Y: 15, D: 15, E: 15})
	least := impl.PolOf(1, impl.MonMon{E: 1})
	turned := append(slices.Clone(great), impl.PolTerm{C: impl.FldP - 1, M: full[0].M})
	cases := []struct {
		a, b  []impl.PolTerm
		terms int
	}{
		{manyTerms(200), behind(200, 200), 400},
		{manyTerms(200), behind(200, 201), 401},
		{manyTerms(1), behind(1, 399), 400},
		{manyTerms(1), behind(1, 400), 401},
		{full, nil, 400},
		{full, full, 400},
		{full, great, 401},
		{full, least, 401},
		{full, turned, 400},
		{full, behind(impl.PolMax, impl.PolMax), 800},
	}
	for _, c := range cases {
		for _, pair := range [][2][]impl.PolTerm{{c.a, c.b}, {c.b, c.a}} {
			sum, ok := impl.PolAdd(pair[0], pair[1])
			if ok != (c.terms <= impl.PolMax) || ok && len(sum) != c.terms || !ok && len(sum) != 0 {
				t.Fatalf("PolAdd that comes to %d terms has %d, %v", c.terms, len(sum), ok)
			}
			less, ok := impl.PolSub(pair[0], impl.PolScale(impl.FldP-1, pair[1]))
			if !slices.Equal(less, sum) || ok != (c.terms <= impl.PolMax) {
				t.Fatalf("PolSub that comes to %d terms has %d, %v", c.terms, len(less), ok)
			}
		}
	}
}

// P67
func TestPolScale(t *testing.T) {
	pols := somePols()
	for i, p := range pols {
		for c := range impl.FldP {
			scaled := impl.PolScale(c, p)
			wantPol(t, scaled, plainSum(nil, c, p), "PolScale")
			for _, e := range someNumbers {
				wantPol(t, impl.PolScale(e, scaled), impl.PolScale(impl.FldMul(e, c), p), "PolScale twice")
			}
		}
		wantPol(t, impl.PolScale(1, p), p, "PolScale by 1")
		wantPol(t, impl.PolScale(0, p), nil, "PolScale by 0")
		other := pols[(i*5+1)%len(pols)]
		sum, ok := impl.PolAdd(p, other)
		if !ok {
			continue
		}
		for _, c := range someNumbers {
			both, _ := impl.PolAdd(impl.PolScale(c, p), impl.PolScale(c, other))
			wantPol(t, impl.PolScale(c, sum), both, "PolScale of PolAdd")
		}
	}
	for _, c := range noNumbers {
		wantPol(t, impl.PolScale(c, pols[len(pols)-1]), nil, "PolScale by what is no number")
		wantPol(t, impl.PolScale(c, nil), nil, "PolScale by what is no number")
	}
}

// P68
func TestPolLead(t *testing.T) {
	for _, order := range allOrders {
		for _, p := range somePols() {
			lead, ok := impl.PolLead(order, p)
			if ok != (len(p) > 0) || !ok && lead != (impl.PolTerm{}) {
				t.Fatalf("PolLead(%d) of %v is %v, %v", order, p, lead, ok)
			}
			if !ok {
				continue
			}
			if !slices.Contains(p, lead) {
				t.Fatalf("PolLead(%d) of %v is %v", order, p, lead)
			}
			for _, term := range p {
				if impl.MonCmp(order, term.M, lead.M) > 0 {
					t.Fatalf("PolLead(%d) of %v is %v", order, p, lead)
				}
			}
		}
	}
	p := op(t, "7y5+5x2e+3yd+2")
	for order, want := range map[int]impl.PolTerm{
		impl.OrdDeg: {C: 7, M: impl.MonMon{Y: 5}},
		impl.OrdLex: {C: 3, M: impl.MonMon{Y: 1, D: 1}},
		impl.OrdOut: {C: 5, M: impl.MonMon{X: 2, E: 1}},
	} {
		if lead, ok := impl.PolLead(order, p); !ok || lead != want {
			t.Fatalf("PolLead(%d) is %v, %v", order, lead, ok)
		}
	}
	for _, order := range badOrders {
		if lead, ok := impl.PolLead(order, p); ok || lead != (impl.PolTerm{}) {
			t.Fatalf("PolLead(%d) is %v, %v", order, lead, ok)
		}
	}
}

// P69
func TestPolAt(t *testing.T) {
	for _, p := range somePols() {
		numbers := numbersOf(p)
		for _, m := range monsOf(p, manyTerms(20)) {
			if got := impl.PolAt(p, m); got != numbers[m] {
				t.Fatalf("PolAt of %v at %v is %d", p, m, got)
			}
		}
		for _, m := range badMons() {
			if got := impl.PolAt(p, m); got != 0 {
				t.Fatalf("PolAt of %v at %v is %d", p, m, got)
			}
		}
	}
}

func TestPolAtOfAny(t *testing.T) {
	x, d, bad := impl.MonMon{X: 1}, impl.MonMon{D: 1}, impl.MonMon{X: math.MinInt, Y: 16, D: -1, E: math.MaxInt}
	terms := []impl.PolTerm{{C: 0, M: impl.MonMon{}}, {C: 5, M: x}, {C: 6, M: x}, {C: 700, M: d}, {C: math.MinInt, M: bad}, {C: 3, M: bad}, {C: 9, M: impl.MonMon{}}}
	for m, want := range map[impl.MonMon]int{x: 5, d: 700, bad: math.MinInt, {}: 0, {E: 1}: 0, {X: -1}: 0} {
		if got := impl.PolAt(terms, m); got != want {
			t.Fatalf("PolAt at %v is %d, not %d", m, got, want)
		}
	}
	many := manyTerms(1000)
	if got := impl.PolAt(many, many[999].M); got != 1 {
		t.Fatalf("PolAt of more than PolMax terms is %d", got)
	}
}

// P70
func TestPolSame(t *testing.T) {
	pols := somePols()
	for _, a := range pols {
		for _, b := range pols {
			less, ok := impl.PolSub(a, b)
			if got := impl.PolSame(a, b); got != (ok && len(less) == 0) {
				t.Fatalf("PolSame of %v and %v is %v", a, b, got)
			}
		}
		if !impl.PolSame(a, slices.Clone(a)) || !impl.PolSame(a, roomy(a)) {
			t.Fatalf("PolSame of %v and its copy is false", a)
		}
		for i := range a {
			for _, other := range []impl.PolTerm{{C: a[i].C%100 + 1, M: a[i].M}, {C: a[i].C, M: atPlace(a[i].M, i%4, 17)}} {
				changed := slices.Clone(a)
				changed[i] = other
				if impl.PolSame(a, changed) || impl.PolSame(a, a[:i]) || impl.PolSame(a[:i], a) {
					t.Fatalf("PolSame of %v and one that differs at %d is true", a, i)
				}
			}
		}
	}
}

func TestPolSameOfAny(t *testing.T) {
	for name, p := range badPols() {
		if !impl.PolSame(p, slices.Clone(p)) {
			t.Fatalf("PolSame of one with %s and its copy is false", name)
		}
		for other, q := range badPols() {
			if impl.PolSame(p, q) != (name == other) {
				t.Fatalf("PolSame of one with %s and one with %s is %v", name, other, impl.PolSame(p, q))
			}
		}
		if impl.PolSame(p, nil) || impl.PolSame(nil, p) || impl.PolSame(p, p[1:]) {
			t.Fatalf("PolSame of one with %s and fewer terms is true", name)
		}
	}
	if !impl.PolSame(nil, []impl.PolTerm{}) || !impl.PolSame([]impl.PolTerm{}, nil) {
		t.Fatal("PolSame of nil and empty is false")
	}
}

func TestPolFree(t *testing.T) {
	for _, p := range append(somePols(), manyTerms(256), manyTerms(257)) {
		want := true
		for _, term := range p {
			want = want && term.M.D == 0 && term.M.E == 0
		}
		if got := impl.PolFree(p); got != want {
			t.Fatalf("PolFree of %v is %v", p, got)
		}
	}
	for text, want := range map[string]bool{"0": true, "1": true, "x": true, "x15y15+y+3": true, "d": false, "e": false, "xd+1": false, "x2+e": false} {
		if impl.PolFree(op(t, text)) != want {
			t.Fatalf("PolFree of %s is not %v", text, want)
		}
	}
}

func TestPolWrong(t *testing.T) {
	good := op(t, "2xd+y+100")
	for name, bad := range badPols() {
		if impl.PolOk(bad) || impl.PolFree(bad) || impl.PolText(bad) != "" {
			t.Fatalf("%s: PolOk %v, PolFree %v, PolText %q", name, impl.PolOk(bad), impl.PolFree(bad), impl.PolText(bad))
		}
		for _, c := range []int{0, 1, 2, impl.FldP - 1, impl.FldP, -1} {
			wantPol(t, impl.PolScale(c, bad), nil, "PolScale of one with "+name)
		}
		for _, order := range append(slices.Clone(allOrders), badOrders...) {
			if lead, ok := impl.PolLead(order, bad); ok || lead != (impl.PolTerm{}) {
				t.Fatalf("PolLead(%d) of one with %s is %v, %v", order, name, lead, ok)
			}
		}
		for _, other := range [][]impl.PolTerm{nil, good, bad, impl.PolOf(1, impl.MonMon{X: 1})} {
			for _, pair := range [][2][]impl.PolTerm{{bad, other}, {other, bad}} {
				sum, ok := impl.PolAdd(pair[0], pair[1])
				wantNothing(t, sum, ok, "PolAdd of one with "+name)
				less, ok := impl.PolSub(pair[0], pair[1])
				wantNothing(t, less, ok, "PolSub of one with "+name)
			}
		}
	}
}

// plainText writes an operator that is ok without the program.
func plainText(p []impl.PolTerm) string {
	var texts []string
	for _, term := range p {
		number, mon := strconv.Itoa(term.C), plainMonText(term.M)
		switch {
		case mon == "1":
			mon = ""
		case number == "1":
			number = ""
		}
		texts = append(texts, number+mon)
	}
	if len(texts) == 0 {
		return "0"
	}
	return strings.Join(texts, "+")
}

// P72
func TestPolTextAndRead(t *testing.T) {
	pols := somePols()
	for _, m := range gridMons(0, 1, 2, 15) {
		for _, c := range []int{1, 2, 10, 99, impl.FldP - 1} {
			pols = append(pols, impl.PolOf(c, m))
		}
	}
	for _, p := range pols {
		text := impl.PolText(p)
		if text != plainText(p) {
			t.Fatalf("PolText of %v is %q, not %q", p, text, plainText(p))
		}
		got, ok := impl.PolRead(text)
		if ok != (len(text) <= 400) {
			t.Fatalf("PolRead of %q is %v", text, ok)
		}
		if ok {
			wantPol(t, got, p, "PolRead of "+text)
		} else {
			wantNothing(t, got, ok, "PolRead of "+text)
		}
	}
}

// wantReadsBack asks that a text that is read is what is written of it.
func wantReadsBack(t *testing.T, text string) bool {
	t.Helper()
	p, ok := impl.PolRead(text)
	if ok && (impl.PolText(p) != text || !impl.PolOk(p)) {
		t.Fatalf("PolRead of %q is %v, which is written %q", text, p, impl.PolText(p))
	}
	if !ok && len(p) > 0 {
		t.Fatalf("PolRead of %q is %v and false", text, p)
	}
	return ok
}

func TestPolReadOfAnyText(t *testing.T) {
	textsOver("xde0129+", 5, func(text string) { wantReadsBack(t, text) })
	d := dice(72)
	read := 0
	for range 100000 {
		text := []byte(plainText(d.pol(4, 3)))
		place := d.roll(len(text))
		switch d.roll(3) {
		case 0:
			text[place] = byte(d.roll(256))
		case 1:
			text = slices.Delete(text, place, place+1)
		default:
			text = slices.Insert(text, place, "xyde0123456789+ "[d.roll(16)])
		}
		if wantReadsBack(t, string(text)) {
			read++
		}
	}
	if read < 1000 {
		t.Fatalf("only %d texts were read", read)
	}
}

func TestPolReadByHand(t *testing.T) {
	right := map[string][]impl.PolTerm{
		"0":            nil,
		"1":            {{C: 1}},
		"100":          {{C: 100}},
		"x":            {{C: 1, M: impl.MonMon{X: 1}}},
		"2x":           {{C: 2, M: impl.MonMon{X: 1}}},
		"11x11":        {{C: 11, M: impl.MonMon{X: 11}}},
		"x15y15d15e15": {{C: 1, M: impl.MonMon{X: 15, Y: 15, D: 15, E: 15}}},
		"xd+1":         {{C: 1, M: impl.MonMon{X: 1, D: 1}}, {C: 1}},
		"d+e+x+y+1":    {{C: 1, M: impl.MonMon{D: 1}}, {C: 1, M: impl.MonMon{E: 1}}, {C: 1, M: impl.MonMon{X: 1}}, {C: 1, M: impl.MonMon{Y: 1}}, {C: 1}},
	}
	for text, want := range right {
		p, ok := impl.PolRead(text)
		if !ok {
			t.Fatalf("PolRead of %q is false", text)
		}
		wantPol(t, p, want, "PolRead of "+text)
	}
}

func TestPolReadWrong(t *testing.T) {
	wrong := []string{
		"", "00", "01", "0+1", "1+0", "0x", "x+0", "+", "++", "+x", "x+", "x++1", "+1", "1+", "1x", "x1", "01x", "02", "2x0", "2x1", "2x02", "x16",
		"101", "101x", "1000", "102", "4294967297x", "18446744073709551617", "18446744073709551618x", "99999999999999999999", "-1", "-x", "x-1", "x+-1",
		"x+x", "x+2x", "1+1", "1+x", "x+d", "y+2xd", "x+y+1+1", "y+x", "e+d", "d+x2", "2 x", " 2x", "2x ", "2x +1", "2*x", "x2+x3", "xx", "dx", "2dx+1",
		"X", "A", "x\n", "x\x00", "\x00", "x+\xff", "\xff", "\x80+1", "2\xc3\x97x", "x²", "٢x", "x٢", "х+1", "1.0", "1e", "1e5", "0x1", "1_0", "1y2", "x2y1",
		strings.Repeat("+", 400), strings.Repeat("1", 400), strings.Repeat("1", 401), strings.Repeat("x", 400), strings.Repeat("0", 400), strings.Repeat("x+", 199) + "1", strings.Repeat("1", 1<<16),
	}
	for _, text := range wrong {
		p, ok := impl.PolRead(text)
		wantNothing(t, p, ok, "PolRead of "+text)
	}
}

// longText is an operator whose text has so many bytes, 389 to 419.
func longText(bytes int) []impl.PolTerm {
	numbers := map[impl.MonMon]int{}
	for _, m := range gridMons(13, 14, 15)[:30] {
		numbers[m] = 1
	}
	p := fromNumbers(numbers)
	more := bytes - 389
	for i := range p {
		if more > 0 {
			p[i].C = 2
			more--
		}
	}
	return p
}

func TestPolReadAtTheEdge(t *testing.T) {
	for bytes := 389; bytes <= 419; bytes++ {
		p := longText(bytes)
		text := impl.PolText(p)
		if len(text) != bytes || text != plainText(p) {
			t.Fatalf("PolText has %d bytes, not %d", len(text), bytes)
		}
		got, ok := impl.PolRead(text)
		if bytes > 400 {
			wantNothing(t, got, ok, "PolRead of a text of "+strconv.Itoa(bytes))
			continue
		}
		if !ok {
			t.Fatalf("PolRead of a text of %d bytes is false", bytes)
		}
		wantPol(t, got, p, "PolRead")
	}
	if text := impl.PolText(manyTerms(impl.PolMax)); text != plainText(manyTerms(impl.PolMax)) {
		t.Fatal("PolText of PolMax terms")
	}
}

func TestPolNewMemory(t *testing.T) {
	d := dice(77)
	for range 200 {
		a, b := d.pol(8, 1), d.pol(8, 1)
		c := d.roll(impl.FldP)
		calls := map[string]func(a []impl.PolTerm, b []impl.PolTerm) []impl.PolTerm{
			"PolAdd":        func(a, b []impl.PolTerm) []impl.PolTerm { p, _ := impl.PolAdd(a, b); return p },
			"PolAdd of 0":   func(a, b []impl.PolTerm) []impl.PolTerm { p, _ := impl.PolAdd(a, nil); return p },
			"PolAdd to 0":   func(a, b []impl.PolTerm) []impl.PolTerm { p, _ := impl.PolAdd(nil, b); return p },
			"PolSub":        func(a, b []impl.PolTerm) []impl.PolTerm { p, _ := impl.PolSub(a, b); return p },
			"PolSub of 0":   func(a, b []impl.PolTerm) []impl.PolTerm { p, _ := impl.PolSub(a, b[:0]); return p },
			"PolScale":      func(a, b []impl.PolTerm) []impl.PolTerm { return impl.PolScale(c, a) },
			"PolScale by 1": func(a, b []impl.PolTerm) []impl.PolTerm { return impl.PolScale(1, a) },
			"PolScale by 0": func(a, b []impl.PolTerm) []impl.PolTerm { return impl.PolScale(0, a) },
			"the others": func(a, b []impl.PolTerm) []impl.PolTerm {
				impl.PolOk(a)
				impl.PolLead(impl.OrdLex, a)
				impl.PolFree(a)
				impl.PolText(a)
				impl.PolAt(a, impl.MonMon{})
				impl.PolSame(a, b)
				return nil
			},
		}
		for name, call := range calls {
			wantNewMemory(t, a, b, name, call)
		}
	}
}

func TestPolNewMemoryOfReads(t *testing.T) {
	for _, text := range []string{"0", "1", "x", "2xd+y+100", impl.PolText(longText(400))} {
		first := op(t, text)
		kept := slices.Clone(first)
		scribble(op(t, text))
		if !slices.Equal(first, kept) {
			t.Fatalf("two answers of PolRead(%q) share memory", text)
		}
	}
	first := impl.PolOf(3, impl.MonMon{X: 1})
	scribble(impl.PolOf(3, impl.MonMon{X: 1}))
	wantPol(t, first, []impl.PolTerm{{C: 3, M: impl.MonMon{X: 1}}}, "PolOf")
}
