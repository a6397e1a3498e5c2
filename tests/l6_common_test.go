package tests

import (
	"testing"

	"loop.example/selvedge/impl"
)

// common is what the sums on the way to a product came to, as if all commuted.
type common struct {
	sum     map[impl.MonMon]int
	most    int  // terms behind one of the first one's terms
	amid    int  // terms behind one of the products
	tooMuch bool // a product past MonMax
}

func (c common) ok() bool {
	return !c.tooMuch && c.most <= impl.PolMax
}

// plainCommon goes through the products of each term with each, in order, without the program.
func plainCommon(a []impl.PolTerm, b []impl.PolTerm) common {
	c := common{sum: map[impl.MonMon]int{}}
	for _, s := range a {
		for _, r := range b {
			m := impl.MonMon{X: s.M.X + r.M.X, Y: s.M.Y + r.M.Y, D: s.M.D + r.M.D, E: s.M.E + r.M.E}
			c.tooMuch = c.tooMuch || max(m.X, m.Y, m.D, m.E) > impl.MonMax
			c.sum[m] = (c.sum[m] + s.C*r.C) % impl.FldP
			if c.sum[m] == 0 {
				delete(c.sum, m)
			}
			c.amid = max(c.amid, len(c.sum))
		}
		c.most = max(c.most, len(c.sum))
	}
	return c
}

// wantCommon asks ComMul for what it is without the program, and says whether that is true.
func wantCommon(t *testing.T, a []impl.PolTerm, b []impl.PolTerm) bool {
	t.Helper()
	want := plainCommon(a, b)
	got, ok := impl.ComMul(a, b)
	if ok != want.ok() {
		t.Fatalf("ComMul of %v and %v is %v; it comes to %d terms, and has %d on the way", a, b, ok, len(want.sum), want.most)
	}
	if ok {
		wantPol(t, got, fromNumbers(want.sum), "ComMul of "+plainText(a)+" and "+plainText(b))
	} else {
		wantNothing(t, got, ok, "ComMul")
	}
	return ok
}

func TestComMulIsWhatItsTermsSay(t *testing.T) {
	tries(t, 60, 600, func(d *dice, most int) bool {
		return wantCommon(t, d.pol(8, most), d.pol(8, most))
	})
	for _, a := range gridMons(0, 1, 2) {
		for _, b := range gridMons(0, 1, 2) {
			wantCommon(t, impl.PolOf(10, a), impl.PolOf(11, b))
		}
	}
}

func TestComMulByHand(t *testing.T) {
	for _, c := range [][3]string{
		{"d", "x", "xd"}, {"x", "d", "xd"}, {"e", "y", "ye"}, {"d", "e", "de"}, {"x", "y", "xy"}, {"d2", "x2", "x2d2"}, {"xd", "xd", "x2d2"},
		{"x2ye", "3y2d", "3x2y3de"}, {"51d", "2x", "xd"}, {"10", "11", "9"}, {"d+x", "d+x", "d2+2xd+x2"}, {"2d+3", "5x+7", "10xd+14d+15x+21"},
		// Terms take each other away: the numbers of one monomial come to 0.
		{"d+x", "d+100x", "d2+100x2"}, {"d+1", "d+100", "d2+100"}, {"x2+xy+y2", "x+100y", "x3+100y3"}, {"xd+1", "xd+100", "x2d2+100"}, {"d+50x", "d+51x", "d2+25x2"},
		{"0", "0", "0"}, {"0", "d+x", "0"}, {"d+x", "0", "0"}, {"1", "d+x", "d+x"}, {"d+x", "1", "d+x"}, {"100", "d+x", "100d+100x"}, {"d+x", "100", "100d+100x"},
	} {
		wantPol(t, must(t)(impl.ComMul(op(t, c[0]), op(t, c[1]))), op(t, c[2]), "ComMul of "+c[0]+" and "+c[1])
	}
}

func TestComMulWithNothing(t *testing.T) {
	for _, p := range somePols() {
		for _, none := range [][]impl.PolTerm{nil, {}} {
			wantPol(t, must(t)(impl.ComMul(p, none)), nil, "ComMul with 0")
			wantPol(t, must(t)(impl.ComMul(none, p)), nil, "ComMul of 0")
		}
		wantPol(t, must(t)(impl.ComMul(p, op(t, "1"))), p, "ComMul with 1")
		wantPol(t, must(t)(impl.ComMul(op(t, "1"), p)), p, "ComMul of 1")
		wantPol(t, must(t)(impl.ComMul(op(t, "7"), p)), impl.PolScale(7, p), "ComMul of 7")
	}
}

// P35
func TestComMulOrderAndBrackets(t *testing.T) {
	tries(t, 35, 600, func(d *dice, most int) bool {
		var all all
		a, b, c := d.pol(5, most), d.pol(5, most), d.pol(5, most)
		ab, ba := all.of(impl.ComMul(a, b)), all.of(impl.ComMul(b, a))
		left := all.of(impl.ComMul(ab, c))
		right := all.of(impl.ComMul(a, all.of(impl.ComMul(b, c))))
		if !all.no {
			wantPol(t, ab, ba, "ComMul the other way round")
			wantPol(t, left, right, "ComMul in other brackets")
		}
		return !all.no
	})
}

// P35
func TestComMulOfAForm(t *testing.T) {
	tries(t, 36, 600, func(d *dice, most int) bool {
		var all all
		f, p := d.form(6, most), d.pol(6, most)
		common, product := all.of(impl.ComMul(f, p)), all.of(impl.WylMul(f, p))
		if !all.no {
			wantPol(t, common, product, "ComMul with a form on the left")
		}
		return !all.no
	})
	// With the form on the right it is not, if a slope sees a time.
	for _, c := range [][2]string{{"d", "x"}, {"e", "y"}, {"xd2", "x+y"}} {
		product := must(t)(impl.WylMul(op(t, c[0]), op(t, c[1])))
		if impl.PolSame(product, must(t)(impl.ComMul(op(t, c[0]), op(t, c[1])))) {
			t.Fatalf("ComMul of %s and %s is WylMul", c[0], c[1])
		}
	}
}

func TestComMulAtMonMax(t *testing.T) {
	for place := range 4 {
		for n := range 16 {
			for m := range 16 {
				for _, beside := range []impl.MonMon{{}, {X: 7, Y: 7, D: 7, E: 7}} {
					a, b := impl.PolOf(2, atPlace(beside, place, n)), impl.PolOf(3, atPlace(beside, place, m))
					if wantCommon(t, a, b) != (n+m <= impl.MonMax) {
						t.Fatalf("ComMul of %v and %v is not %v", a, b, n+m <= impl.MonMax)
					}
				}
			}
		}
	}
	for _, c := range [][2]string{{"x15y15d15e15", "1"}, {"1", "x15y15d15e15"}, {"x15d15", "y15e15"}, {"d15e15", "x15y15"}, {"x8+1", "x7+1"}, {"x7d8+y", "x8d7+y"}} {
		if !wantCommon(t, op(t, c[0]), op(t, c[1])) {
			t.Fatalf("ComMul of %s and %s is false", c[0], c[1])
		}
	}
	for _, c := range [][2]string{
		{"x8+1", "x8"}, {"x8", "x8+1"}, {"y+1", "y15"}, {"d15", "d+1"}, {"e9+1", "e7+x+1"}, {"x+1", "x15+1"}, {"x15y15d15e15", "e"},
	} {
		if wantCommon(t, op(t, c[0]), op(t, c[1])) || wantCommon(t, op(t, c[1]), op(t, c[0])) {
			t.Fatalf("ComMul of %s and %s is true", c[0], c[1])
		}
	}
}

// Of the products past MonMax some take each other away (all never do, as what has the most of a letter stays): it is too much all the same.
func TestComMulPastMonMaxTakenAway(t *testing.T) {
	letters := []impl.MonMon{{X: 1}, {Y: 1}, {D: 1}, {E: 1}}
	for _, z := range letters {
		for _, w := range letters {
			if z == w {
				continue
			}
			eight := impl.MonMon{X: 8 * z.X, Y: 8 * z.Y, D: 8 * z.D, E: 8 * z.E}
			more, _ := impl.MonMul(eight, w)
			a := fromNumbers(map[impl.MonMon]int{eight: 1, more: 1})
			b := fromNumbers(map[impl.MonMon]int{eight: impl.FldP - 1, more: 1})
			if want := plainCommon(a, b); len(want.sum) != 2 || want.amid != 2 {
				t.Fatalf("nothing is taken away of %v times %v", a, b)
			}
			if wantCommon(t, a, b) || wantCommon(t, b, a) {
				t.Fatalf("ComMul of %v and %v is true", a, b)
			}
		}
	}
	for _, c := range [][2]string{{"x15+x14y", "x+100y"}, {"x9+x8", "x8+100x7"}, {"d8+e8", "d8+100e8"}} {
		if wantCommon(t, op(t, c[0]), op(t, c[1])) || wantCommon(t, op(t, c[1]), op(t, c[0])) {
			t.Fatalf("ComMul of %s and %s is true", c[0], c[1])
		}
	}
}

func TestComMulAtPolMax(t *testing.T) {
	for _, c := range []struct {
		a     string
		b     []impl.PolTerm
		terms int
	}{
		{"e", manyTerms(400), 400}, {"e+1", manyTerms(199), 398}, {"e+1", manyTerms(200), 400}, {"e+1", manyTerms(201), 402}, {"e+1", manyTerms(400), 800},
		{"x4+1", rows(199, 1), 399}, {"x4+1", rows(200, 1), 401}, {"x4+1", rows(200, 100), 400}, {"x4+1", rows(201, 100), 402},
		{"x8+x4+1", rows(133, 0), 399}, {"x8+x4+1", rows(134, 0), 402},
	} {
		if want := plainCommon(op(t, c.a), c.b); len(want.sum) != c.terms || want.tooMuch {
			t.Fatalf("%s and %d terms come to %d, not %d", c.a, len(c.b), len(want.sum), c.terms)
		}
		if got := wantCommon(t, op(t, c.a), c.b); got != (c.terms <= impl.PolMax) {
			t.Fatalf("ComMul that comes to %d terms is %v", c.terms, got)
		}
		wantCommon(t, c.b, op(t, c.a))
	}
}

// strip is an operator of so many terms in rows of 13 `x`, and, if so, one more that, times x2, is one of the others times d.
func strip(terms int, one bool) []impl.PolTerm {
	numbers := map[impl.MonMon]int{}
	for i := range terms {
		numbers[impl.MonMon{X: i % 13, Y: i / 13}] = 1
	}
	if one {
		numbers[impl.MonMon{D: 1}] = 1
	}
	return fromNumbers(numbers)
}

// Behind x2 and d there are twice as many; x takes nearly all of what x2 brought away.
func TestComMulMoreOnTheWay(t *testing.T) {
	a := op(t, "x2+d+100x")
	for _, c := range []struct {
		terms int
		one   bool
		most  int
	}{{199, false, 398}, {199, true, 399}, {200, false, 400}, {200, true, 401}, {201, false, 402}, {208, true, 417}} {
		b := strip(c.terms, c.one)
		want := plainCommon(a, b)
		if len(want.sum) > 300 || want.most != c.most || want.tooMuch {
			t.Fatalf("%d terms come to %d, %d on the way", len(b), len(want.sum), want.most)
		}
		if wantCommon(t, a, b) != (c.most <= impl.PolMax) {
			t.Fatalf("ComMul with %d terms on the way", c.most)
		}
		// The other way round there are never so many, behind none of them.
		if !wantCommon(t, b, a) {
			t.Fatalf("ComMul of %d terms and 3 is false", len(b))
		}
	}
}

// There are more than PolMax amid the products of the second term, but fewer behind it.
func TestComMulMoreAmid(t *testing.T) {
	less := op(t, "x+100")
	for _, terms := range []int{398, 399, 400} {
		b := wayUp(terms, 14)
		want := plainCommon(less, b)
		if len(want.sum) > 100 || want.most != terms || want.amid != terms+1 {
			t.Fatalf("%d terms come to %d, %d on the way, %d amid", terms, len(want.sum), want.most, want.amid)
		}
		if !wantCommon(t, less, b) {
			t.Fatalf("ComMul with %d terms amid is false", want.amid)
		}
	}
	// WylMul asks behind each product: so, with a form on the left, it may be false where ComMul is not.
	if p, ok := impl.WylMul(less, wayUp(impl.PolMax, 14)); ok {
		t.Fatalf("WylMul with more than PolMax on the way is %v", p)
	}
	// Of x2+x+1 the second term takes two away and brings one, behind all that the others bring: so just PolMax are left of one more.
	numbers := map[impl.MonMon]int{{Y: 15, D: 15, E: 15}: 1, {X: 2}: 1, {X: 1}: 1, {}: 1}
	for i := range 198 {
		numbers[impl.MonMon{X: i % 3 * 2, Y: 1 + i/3%7, D: 1 + i/21}] = 1
	}
	b := fromNumbers(numbers)
	want := plainCommon(less, b)
	if want.most != impl.PolMax || want.amid != impl.PolMax+1 || len(want.sum) != impl.PolMax {
		t.Fatalf("%d terms come to %d, %d on the way, %d amid", len(b), len(want.sum), want.most, want.amid)
	}
	if !wantCommon(t, less, b) {
		t.Fatal("ComMul that comes to PolMax behind one more is false")
	}
}
