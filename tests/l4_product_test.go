package tests

import (
	"maps"
	"math"
	"math/big"
	"slices"
	"strings"
	"testing"

	"loop.example/selvedge/impl"
)

// plainLeft is one letter times operators without bounds, by nothing but dx = xd+1 and ey = ye+1.
func plainLeft(letter byte, p map[impl.MonMon]int) map[impl.MonMon]int {
	product := map[impl.MonMon]int{}
	add := func(c int, m impl.MonMon) { product[m] = (product[m] + c) % impl.FldP }
	for m, c := range p {
		less := m
		switch letter {
		case 'x':
			m.X++
		case 'y':
			m.Y++
		case 'd':
			m.D++
			less.X--
			add(c*(less.X+1), less)
		case 'e':
			m.E++
			less.Y--
			add(c*(less.Y+1), less)
		}
		add(c, m)
	}
	maps.DeleteFunc(product, func(m impl.MonMon, c int) bool { return c == 0 })
	return product
}

// lettersOf is a monomial written out.
func lettersOf(m impl.MonMon) string {
	return strings.Repeat("x", m.X) + strings.Repeat("y", m.Y) + strings.Repeat("d", m.D) + strings.Repeat("e", m.E)
}

// plainTerms is the product of two terms, letter by letter, without bounds.
func plainTerms(a impl.PolTerm, b impl.PolTerm) map[impl.MonMon]int {
	product := map[impl.MonMon]int{b.M: a.C * b.C % impl.FldP}
	for _, letter := range slices.Backward([]byte(lettersOf(a.M))) {
		product = plainLeft(letter, product)
	}
	return product
}

// ways is what the sums on the way to a product came to.
type ways struct {
	sum     map[impl.MonMon]int
	most    int  // terms of a sum behind one of the products
	last    int  // terms of the sum ahead of the last product
	tooMuch bool // a product past MonMax
}

func (w ways) ok() bool {
	return !w.tooMuch && w.most <= impl.PolMax
}

// plainWays goes through the products of each term with each, in order, without the program.
func plainWays(a []impl.PolTerm, b []impl.PolTerm) ways {
	w := ways{sum: map[impl.MonMon]int{}}
	for _, s := range a {
		for _, r := range b {
			w.last = len(w.sum)
			w.tooMuch = w.tooMuch || max(s.M.X+r.M.X, s.M.Y+r.M.Y, s.M.D+r.M.D, s.M.E+r.M.E) > impl.MonMax
			for m, c := range plainTerms(s, r) {
				w.sum[m] = (w.sum[m] + c) % impl.FldP
				if w.sum[m] == 0 {
					delete(w.sum, m)
				}
			}
			w.most = max(w.most, len(w.sum))
		}
	}
	return w
}

// wantProduct asks WylMul for what it is without the program, and says whether that is true.
func wantProduct(t *testing.T, a []impl.PolTerm, b []impl.PolTerm) bool {
	t.Helper()
	want := plainWays(a, b)
	got, ok := impl.WylMul(a, b)
	if ok != want.ok() {
		t.Fatalf("WylMul of %v and %v is %v", a, b, ok)
	}
	if ok {
		wantPol(t, got, fromNumbers(want.sum), "WylMul of "+plainText(a)+" and "+plainText(b))
	} else {
		wantNothing(t, got, ok, "WylMul")
	}
	return ok
}

// must is what a call answers that has to be true.
func must(t *testing.T) func(p []impl.PolTerm, ok bool) []impl.PolTerm {
	return func(p []impl.PolTerm, ok bool) []impl.PolTerm {
		t.Helper()
		if !ok {
			t.Fatal("an answer is false")
		}
		if !impl.PolOk(p) {
			t.Fatalf("an answer is not ok: %v", p)
		}
		return p
	}
}

// all gathers answers as long as all are true.
type all struct{ no bool }

func (a *all) of(p []impl.PolTerm, ok bool) []impl.PolTerm {
	a.no = a.no || !ok
	return p
}

// tries rolls operators, small ones and ones that come to MonMax, and tells how many were true.
func tries(t *testing.T, seed dice, least int, try func(d *dice, most int) bool) {
	t.Helper()
	held := 0
	for round := range 1200 {
		if try(&seed, []int{1, 2, 3, 3, 5, 9}[round%6]) {
			held++
		}
	}
	if held < least {
		t.Fatalf("only %d of 1200 were true", held)
	}
}

func TestWylMulIsWhatItsLettersSay(t *testing.T) {
	tries(t, 4, 500, func(d *dice, most int) bool {
		return wantProduct(t, d.pol(5, most), d.pol(5, most))
	})
	for _, a := range gridMons(0, 1, 2) {
		for _, b := range gridMons(0, 1, 2) {
			wantProduct(t, impl.PolOf(1, a), impl.PolOf(1, b))
		}
	}
}

// Each i up to the lesser of D and X, each k up to the lesser of E and Y, with the numbers that the document names.
func TestWylMulOfTwoTerms(t *testing.T) {
	number := func(n int, m int, i int) int {
		choose := new(big.Int).Binomial(int64(n), int64(i))
		return bigMod(choose.Mul(choose, bigFall(m, i)))
	}
	for d := range 16 {
		for x := range 16 {
			for _, ey := range [][2]int{{0, 0}, {0, 3}, {3, 0}, {2, 5}, {5, 2}, {15, 15}} {
				a, b := impl.MonMon{Y: 15 - ey[1], D: d, E: ey[0]}, impl.MonMon{X: x, Y: ey[1], D: 15 - d}
				want := map[impl.MonMon]int{}
				for i := range min(d, x) + 1 {
					for k := range min(ey[0], ey[1]) + 1 {
						m := impl.MonMon{X: x - i, Y: 15 - k, D: 15 - i, E: ey[0] - k}
						want[m] = 6 * number(d, x, i) * number(ey[0], ey[1], k)
					}
				}
				got := must(t)(impl.WylMul(impl.PolOf(2, a), impl.PolOf(3, b)))
				wantPol(t, got, fromNumbers(want), "WylMul of "+plainMonText(a)+" and "+plainMonText(b))
			}
		}
	}
}

func TestWylMulWhichSeesWhich(t *testing.T) {
	for _, c := range [][3]string{
		{"d", "x", "xd+1"}, {"x", "d", "xd"}, {"e", "y", "ye+1"}, {"y", "e", "ye"},
		{"d", "y", "yd"}, {"y", "d", "yd"}, {"e", "x", "xe"}, {"x", "e", "xe"},
		{"d", "e", "de"}, {"e", "d", "de"}, {"x", "y", "xy"}, {"y", "x", "xy"},
		{"xd", "x", "x2d+x"}, {"x", "xd", "x2d"}, {"xd", "d", "xd2"}, {"d", "xd", "xd2+d"},
		{"d2", "x2", "x2d2+4xd+2"}, {"x2", "d2", "x2d2"}, {"de", "xy", "xyde+xd+ye+1"}, {"xy", "de", "xyde"},
		{"d15", "x", "xd15+15d14"}, {"d", "x15", "x15d+15x14"}, {"d+x", "d+x", "d2+2xd+x2+1"},
		{"d+100x", "d+x", "d2+100x2+1"}, {"d+x", "d+100x", "d2+100x2+100"},
		{"d+1", "d+100", "d2+100"}, {"51d", "2x", "xd+1"},
	} {
		product := must(t)(impl.WylMul(op(t, c[0]), op(t, c[1])))
		wantPol(t, product, op(t, c[2]), "WylMul of "+c[0]+" and "+c[1])
	}
}

// P1
func TestWylMulBrackets(t *testing.T) {
	tries(t, 1, 500, func(d *dice, most int) bool {
		var all all
		a, b, c := d.pol(4, most), d.pol(4, most), d.pol(4, most)
		left := all.of(impl.WylMul(all.of(impl.WylMul(a, b)), c))
		right := all.of(impl.WylMul(a, all.of(impl.WylMul(b, c))))
		if !all.no {
			wantPol(t, left, right, "WylMul in other brackets")
		}
		return !all.no
	})
}

// P2
func TestWylDoOfAProduct(t *testing.T) {
	tries(t, 2, 500, func(d *dice, most int) bool {
		var all all
		q, p, f := d.pol(4, most), d.pol(4, most), d.form(6, impl.MonMax)
		whole := all.of(impl.WylDo(all.of(impl.WylMul(q, p)), f))
		inTurn := all.of(impl.WylDo(q, all.of(impl.WylDo(p, f))))
		if !all.no {
			wantPol(t, whole, inTurn, "WylDo of a product")
		}
		return !all.no
	})
	whole := must(t)(impl.WylDo(must(t)(impl.WylMul(op(t, "d"), op(t, "x"))), op(t, "x2")))
	wantPol(t, whole, op(t, "3x2"), "WylDo of d times x")
	whole = must(t)(impl.WylDo(must(t)(impl.WylMul(op(t, "x"), op(t, "d"))), op(t, "x2")))
	wantPol(t, whole, op(t, "2x2"), "WylDo of x times d")
}

// P3
func TestWylMulGreatestTerm(t *testing.T) {
	tries(t, 3, 500, func(d *dice, most int) bool {
		a, b := d.pol(6, most), d.pol(6, most)
		product, ok := impl.WylMul(a, b)
		if !ok {
			return false
		}
		if (len(product) == 0) != (len(a) == 0 || len(b) == 0) {
			t.Fatalf("WylMul of %v and %v is %v", a, b, product)
		}
		for _, order := range allOrders {
			ofA, _ := impl.PolLead(order, a)
			ofB, _ := impl.PolLead(order, b)
			lead, some := impl.PolLead(order, product)
			want, _ := impl.MonMul(ofA.M, ofB.M)
			if some && (lead.M != want || lead.C != impl.FldMul(ofA.C, ofB.C)) {
				t.Fatalf("PolLead(%d) of WylMul of %v and %v is %v", order, a, b, lead)
			}
		}
		return len(product) > 0
	})
}

// P13
func TestWylMulSpreads(t *testing.T) {
	tries(t, 13, 500, func(d *dice, most int) bool {
		var all all
		a, b, c, n := d.pol(5, most), d.pol(5, most), d.pol(5, most), d.roll(impl.FldP)
		ab, ba := all.of(impl.WylMul(a, b)), all.of(impl.WylMul(b, a))
		left := all.of(impl.WylMul(a, all.of(impl.PolAdd(b, c))))
		leftBoth := all.of(impl.PolAdd(ab, all.of(impl.WylMul(a, c))))
		right := all.of(impl.WylMul(all.of(impl.PolAdd(b, c)), a))
		rightBoth := all.of(impl.PolAdd(ba, all.of(impl.WylMul(c, a))))
		first := all.of(impl.WylMul(impl.PolScale(n, a), b))
		second := all.of(impl.WylMul(a, impl.PolScale(n, b)))
		if !all.no {
			wantPol(t, left, leftBoth, "WylMul with PolAdd on the right")
			wantPol(t, right, rightBoth, "WylMul with PolAdd on the left")
			wantPol(t, first, impl.PolScale(n, ab), "WylMul with PolScale on the left")
			wantPol(t, second, impl.PolScale(n, ab), "WylMul with PolScale on the right")
		}
		return !all.no
	})
}

// P14
func TestWylMulWithOne(t *testing.T) {
	one := op(t, "1")
	for _, p := range somePols() {
		wantPol(t, must(t)(impl.WylMul(one, p)), p, "WylMul of 1 and it")
		wantPol(t, must(t)(impl.WylMul(p, one)), p, "WylMul of it and 1")
		wantPol(t, must(t)(impl.WylMul(nil, p)), nil, "WylMul of 0 and it")
		wantPol(t, must(t)(impl.WylMul(p, []impl.PolTerm{})), nil, "WylMul of it and 0")
	}
	wantPol(t, must(t)(impl.WylMul(op(t, "d"), op(t, "x"))), op(t, "xd+1"), "d times x")
	wantPol(t, must(t)(impl.WylMul(op(t, "d"), op(t, "y"))), op(t, "yd"), "d times y")
}

// P15
func TestWylPow(t *testing.T) {
	tries(t, 15, 300, func(d *dice, most int) bool {
		var all all
		p, n, m := d.pol(3, (most+1)/2), d.roll(5), d.roll(5)
		power := all.of(impl.WylPow(p, n+m))
		both := all.of(impl.WylMul(all.of(impl.WylPow(p, n)), all.of(impl.WylPow(p, m))))
		if !all.no {
			wantPol(t, power, both, "WylPow")
		}
		return !all.no
	})
	for _, p := range somePols() {
		wantPol(t, must(t)(impl.WylPow(p, 0)), op(t, "1"), "WylPow of 0")
		wantPol(t, must(t)(impl.WylPow(p, 1)), p, "WylPow of 1")
	}
	for n := range 9 {
		power := op(t, "1")
		for range n {
			power = must(t)(impl.WylMul(power, op(t, "d+x+2")))
		}
		wantPol(t, must(t)(impl.WylPow(op(t, "d+x+2"), n)), power, "WylPow of d+x+2")
		wantPol(t, must(t)(impl.WylPow(op(t, "1"), n)), op(t, "1"), "WylPow of 1")
		wantPol(t, must(t)(impl.WylPow(op(t, "2"), n)), impl.PolOf(impl.FldPow(2, n), impl.MonMon{}), "WylPow of 2")
		if n > 0 {
			wantPol(t, must(t)(impl.WylPow(nil, n)), nil, "WylPow of 0")
			wantPol(t, must(t)(impl.WylPow(op(t, "x"), n)), impl.PolOf(1, impl.MonMon{X: n}), "WylPow of x")
		}
	}
}

func TestWylPowEdges(t *testing.T) {
	for _, n := range []int{9, 10, 16, 100, math.MaxInt, -1, -2, -8, math.MinInt} {
		for _, text := range []string{"0", "1", "2", "x", "d+x"} {
			p, ok := impl.WylPow(op(t, text), n)
			wantNothing(t, p, ok, "WylPow of "+text)
		}
	}
	for _, c := range []struct {
		text string
		most int
	}{{"x", 8}, {"x2", 7}, {"x3", 5}, {"x4y", 3}, {"y5", 3}, {"d7", 2}, {"e8", 1}, {"x15y15d15e15", 1}, {"x2+1", 7}, {"xd", 8}} {
		for n := range 9 {
			p, ok := impl.WylPow(op(t, c.text), n)
			if ok != (n <= c.most) || !ok && len(p) > 0 {
				t.Fatalf("WylPow of %s and %d is %v, %v", c.text, n, p, ok)
			}
		}
	}
	// The monomials with up to 7 factors are 330, those with up to 8 are 495.
	for n := range 9 {
		if p, ok := impl.WylPow(op(t, "d+e+x+y+1"), n); ok != (n < 8) || !ok && len(p) > 0 {
			t.Fatalf("WylPow of d+e+x+y+1 and %d has %d terms, %v", n, len(p), ok)
		}
	}
}

// A power times p on the right and p times that power are the same, but not on the way there.
func TestWylPowOnTheRight(t *testing.T) {
	for _, c := range []struct {
		text string
		n    int
		want bool
	}{
		{"de+e+100x+y+1", 7, true},
		{"yde+100xyd+yd+100xy+100x+1", 5, true},
		{"xyd2e+100x2yd2+xy2d2+100x2y2d+100x2yd+100yd2+y2e+100xy2+de", 3, false},
	} {
		p := op(t, c.text)
		before := must(t)(impl.WylPow(p, c.n-1))
		if plainWays(before, p).ok() != c.want || plainWays(p, before).ok() == c.want {
			t.Fatalf("power %d of %s is as good on either side", c.n, c.text)
		}
		if power, ok := impl.WylPow(p, c.n); ok != c.want || !ok && len(power) > 0 {
			t.Fatalf("WylPow of %s and %d is %v", c.text, c.n, ok)
		}
	}
}

// P16
func TestWylMulOfOneAndMany(t *testing.T) {
	for n := range impl.MonMax + 1 {
		for _, pair := range []struct{ slope, time string }{{"d", "x"}, {"e", "y"}} {
			times := func(letter string, n int) impl.MonMon {
				m, _ := impl.MonRead(letter)
				return impl.MonMon{X: m.X * n, Y: m.Y * n, D: m.D * n, E: m.E * n}
			}
			slope, time := times(pair.slope, 1), times(pair.time, 1)
			manyTimes, manySlopes := times(pair.time, n), times(pair.slope, n)
			oneSlope := map[impl.MonMon]int{}
			oneTime := map[impl.MonMon]int{}
			if n > 0 {
				oneSlope[times(pair.time, n-1)] = n
				oneTime[times(pair.slope, n-1)] = n
			}
			both, _ := impl.MonMul(slope, manyTimes)
			oneSlope[both] = 1
			both, _ = impl.MonMul(manySlopes, time)
			oneTime[both] = 1
			wantPol(t, must(t)(impl.WylMul(impl.PolOf(1, slope), impl.PolOf(1, manyTimes))), fromNumbers(oneSlope), "one slope, many times")
			wantPol(t, must(t)(impl.WylMul(impl.PolOf(1, manySlopes), impl.PolOf(1, time))), fromNumbers(oneTime), "many slopes, one time")
		}
	}
}

// P17
func TestWylApart(t *testing.T) {
	tries(t, 17, 500, func(d *dice, most int) bool {
		a, b := d.pol(6, most), d.pol(6, most)
		apart, ok := impl.WylApart(a, b)
		back, backOk := impl.WylApart(b, a)
		ab, abOk := impl.WylMul(a, b)
		ba, baOk := impl.WylMul(b, a)
		less, lessOk := impl.PolSub(ab, ba)
		if ok != (abOk && baOk && lessOk) || ok != backOk || !ok && len(apart) > 0 {
			t.Fatalf("WylApart of %v and %v is %v, %v", a, b, ok, backOk)
		}
		if !ok {
			return false
		}
		wantPol(t, apart, less, "WylApart")
		wantPol(t, back, impl.PolScale(impl.FldP-1, apart), "WylApart the other way round")
		sum, sumOk := impl.PolAdd(ba, apart)
		if sumOk {
			wantPol(t, sum, ab, "WylMul of b and a, and WylApart")
		}
		wantPol(t, must(t)(impl.WylApart(a, impl.PolOf(5, impl.MonMon{}))), nil, "WylApart of one and a number")
		return sumOk
	})
	for _, c := range [][3]string{{"d", "x", "1"}, {"x", "d", "100"}, {"e", "y", "1"}, {"d", "y", "0"}, {"d2", "x", "2d"}, {"d", "x2", "2x"}, {"xd", "x3", "3x3"}, {"xd", "d2", "99d2"}, {"x", "y", "0"}, {"0", "x", "0"}, {"x", "0", "0"}} {
		wantPol(t, must(t)(impl.WylApart(op(t, c[0]), op(t, c[1]))), op(t, c[2]), "WylApart of "+c[0]+" and "+c[1])
	}
}

// P18
func TestWylApartOfAProduct(t *testing.T) {
	tries(t, 18, 400, func(d *dice, most int) bool {
		var all all
		a, b, c := d.pol(3, most), d.pol(3, most), d.pol(3, most)
		whole := all.of(impl.WylApart(a, all.of(impl.WylMul(b, c))))
		first := all.of(impl.WylMul(all.of(impl.WylApart(a, b)), c))
		second := all.of(impl.WylMul(b, all.of(impl.WylApart(a, c))))
		both := all.of(impl.PolAdd(first, second))
		if !all.no {
			wantPol(t, whole, both, "WylApart of a product")
		}
		return !all.no
	})
}

// P19
func TestWylApartInTurn(t *testing.T) {
	tries(t, 19, 400, func(d *dice, most int) bool {
		var all all
		a, b, c := d.pol(4, most), d.pol(4, most), d.pol(4, most)
		one := all.of(impl.WylApart(a, all.of(impl.WylApart(b, c))))
		two := all.of(impl.WylApart(b, all.of(impl.WylApart(c, a))))
		three := all.of(impl.WylApart(c, all.of(impl.WylApart(a, b))))
		sum := all.of(impl.PolAdd(all.of(impl.PolAdd(one, two)), three))
		if !all.no {
			wantPol(t, sum, nil, "WylApart in turn")
		}
		return !all.no
	})
}

func TestWylMulAtMonMax(t *testing.T) {
	for place := range 4 {
		for n := range 16 {
			for m := range 16 {
				a, b := impl.PolOf(1, atPlace(impl.MonMon{}, place, n)), impl.PolOf(1, atPlace(impl.MonMon{}, place, m))
				product, ok := impl.WylMul(a, b)
				if ok != (n+m <= 15) || ok && !slices.Equal(product, impl.PolOf(1, atPlace(impl.MonMon{}, place, n+m))) || !ok && len(product) > 0 {
					t.Fatalf("WylMul of %v and %v is %v, %v", a, b, product, ok)
				}
				apart, ok := impl.WylApart(a, b)
				if ok != (n+m <= 15) || len(apart) > 0 {
					t.Fatalf("WylApart of %v and %v is %v, %v", a, b, apart, ok)
				}
			}
		}
	}
	for _, c := range [][2]string{
		{"d15", "x15"}, {"x15d15", "y15e15"}, {"x15y15d15e15", "1"}, {"x15y15", "d15e15"}, {"d15e15", "x15y15"}, {"x7d8", "x8d7"}, {"x8+1", "x7+1"},
	} {
		if !wantProduct(t, op(t, c[0]), op(t, c[1])) {
			t.Fatalf("WylMul of %s and %s is false", c[0], c[1])
		}
	}
	// Less its slopes and times a term might be small enough; what counts is MonMul.
	for _, c := range [][2]string{
		{"d8", "x8d8"}, {"x8d8", "x8d8"}, {"x15d", "x"}, {"d15", "xd"}, {"e15", "ye"}, {"y15e", "y"}, {"x15d15", "d"},
		{"x8", "x8+1"}, {"x8+1", "x8"}, {"y+1", "y15"}, {"d15", "d+1"}, {"e9+1", "e7+x+1"},
		// The products x8y8 and 100x8y8 take each other away; so do those with x16.
		{"x8+y8", "x8+100y8"}, {"x9+x8", "x8+100x7"},
	} {
		if wantProduct(t, op(t, c[0]), op(t, c[1])) {
			t.Fatalf("WylMul of %s and %s is true", c[0], c[1])
		}
	}
}

func TestWylApartAtMonMax(t *testing.T) {
	// What would be left, 0 or less than both, is not too much; the products are.
	for _, c := range [][2]string{{"x8", "x8"}, {"x8", "x8+d"}, {"x15", "x"}, {"d8", "d9"}, {"x15+d", "x15+d"}} {
		for _, pair := range [][2]string{{c[0], c[1]}, {c[1], c[0]}} {
			p, ok := impl.WylApart(op(t, pair[0]), op(t, pair[1]))
			wantNothing(t, p, ok, "WylApart of "+pair[0]+" and "+pair[1])
		}
	}
	wantPol(t, must(t)(impl.WylApart(op(t, "x15"), op(t, "x15y15")[:0])), nil, "WylApart of x15 and 0")
	wantPol(t, must(t)(impl.WylApart(op(t, "d15"), op(t, "x15")))[:1], op(t, "23x14d14"), "WylApart of d15 and x15")
}

// wayUp is an operator whose greatest term stands alone, while the others, times x less 1, take each other away but for two of each row of rows.
func wayUp(terms int, row int) []impl.PolTerm {
	numbers := map[impl.MonMon]int{{Y: 15, D: 15, E: 15}: 1}
	for i := range terms - 1 {
		numbers[impl.MonMon{X: i % row, Y: i / row % 8, D: i / row / 8}] = 1
	}
	return fromNumbers(numbers)
}

func TestWylMulSumsOnTheWay(t *testing.T) {
	less := op(t, "x+100")
	for _, c := range []struct {
		terms int
		most  int
	}{{398, 399}, {399, 400}, {400, 401}} {
		b := wayUp(c.terms, 14)
		want := plainWays(less, b)
		if len(want.sum) > 100 || want.most != c.most || want.tooMuch {
			t.Fatalf("%d terms come to %d, %d on the way", c.terms, len(want.sum), want.most)
		}
		if wantProduct(t, less, b) != (c.most <= impl.PolMax) {
			t.Fatalf("WylMul with %d terms on the way", c.most)
		}
	}
}

// rows is an operator of so many terms with fewer than 4 `x`, and one more, x4 times its last one, so often.
func rows(terms int, last int) []impl.PolTerm {
	numbers := map[impl.MonMon]int{}
	for i := range terms {
		numbers[impl.MonMon{X: i % 4, Y: i / 4 % 8, D: i / 32}] = 1
	}
	numbers[impl.MonMon{X: 4}] = last
	return fromNumbers(numbers)
}

func TestWylMulSumsAtTheEnd(t *testing.T) {
	for _, c := range []struct {
		a     string
		b     []impl.PolTerm
		terms int
	}{
		{"x8", rows(400, 0), 400}, {"y8", rows(399, 1), 400}, {"x4+1", rows(200, 0), 400}, {"x4+1", rows(201, 0), 402},
		{"x4+1", rows(199, 1), 399}, {"x4+1", rows(200, 1), 401}, {"x4+1", rows(200, 100), 400}, {"x4+1", rows(201, 100), 402},
		{"x8+x4+1", rows(133, 0), 399}, {"x8+x4+1", rows(134, 0), 402},
	} {
		if got := len(plainWays(op(t, c.a), c.b).sum); got != c.terms {
			t.Fatalf("%s and %d terms come to %d, not %d", c.a, len(c.b), got, c.terms)
		}
		if got := wantProduct(t, op(t, c.a), c.b); got != (c.terms <= impl.PolMax) {
			t.Fatalf("WylMul that comes to %d terms is %v", c.terms, got)
		}
	}
	for _, a := range []string{"d", "e", "de", "e15+1"} {
		if wantProduct(t, op(t, a), manyTerms(impl.PolMax)) {
			t.Fatalf("WylMul of %s and PolMax terms is true", a)
		}
	}
}

// The sum is asked behind each product, not amid its terms: the last product here brings a new one, and takes one away.
func TestWylMulSumsBehindAProduct(t *testing.T) {
	found := 0
	for n := range 140 {
		numbers := map[impl.MonMon]int{{X: 1}: 100, {Y: 1}: 1}
		for i := range n {
			numbers[impl.MonMon{X: 2 + i%2*2, D: 2 + i/2%6*2, E: 2 + i/12*2%14, Y: 2 + i/84*3}] = 1
		}
		b := fromNumbers(numbers)
		w := plainWays(op(t, "d+e"), b)
		if ok := wantProduct(t, op(t, "d+e"), b); w.last == impl.PolMax && len(w.sum) == impl.PolMax && ok {
			found++
		}
	}
	if found == 0 {
		t.Fatal("no product came to PolMax behind PolMax")
	}
}

func TestWylApartOneTooMuch(t *testing.T) {
	less, b := op(t, "x+100"), wayUp(impl.PolMax, 14)
	_, ok := impl.WylMul(less, b)
	_, backOk := impl.WylMul(b, less)
	if ok || !backOk {
		t.Fatalf("WylMul is %v, the other way round %v", ok, backOk)
	}
	for _, pair := range [][2][]impl.PolTerm{{less, b}, {b, less}} {
		p, ok := impl.WylApart(pair[0], pair[1])
		wantNothing(t, p, ok, "WylApart of which one is too much")
	}
}

func TestWylApartAtPolMax(t *testing.T) {
	a := op(t, "d7+y7")
	for n, want := range map[int]bool{1: true, 27: true, 28: true, 29: false, 30: false} {
		numbers := map[impl.MonMon]int{}
		for i := range n {
			numbers[impl.MonMon{X: 7, D: i % 8, E: 7 + i/8}] = 1
		}
		b := fromNumbers(numbers)
		ab, ba := plainWays(a, b), plainWays(b, a)
		less := plainSum(fromNumbers(ab.sum), -1, fromNumbers(ba.sum))
		if !ab.ok() || !ba.ok() || want != (len(less) <= impl.PolMax) {
			t.Fatalf("%d terms are %d apart", n, len(less))
		}
		apart, ok := impl.WylApart(a, b)
		if ok != want {
			t.Fatalf("WylApart that comes to %d terms is %v", len(less), ok)
		}
		if ok {
			wantPol(t, apart, less, "WylApart")
		} else {
			wantNothing(t, apart, ok, "WylApart")
		}
	}
}
