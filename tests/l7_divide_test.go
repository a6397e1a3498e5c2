package tests

import (
	"maps"
	"slices"
	"strings"
	"testing"

	"loop.example/selvedge/impl"
)

// division is what a division came to, worked out without the program; it goes on past the bounds, so that a test can tell which of them it met.
type division struct {
	taken   []map[impl.MonMon]int
	left    map[impl.MonMon]int
	steps   int
	most    int  // terms of what was to be divided behind a step
	pastMon bool // a product past MonMax
	pastPol bool // a product with more than PolMax terms on its way
}

func (d division) ok() bool {
	return !d.pastMon && !d.pastPol && d.most <= impl.PolMax && d.steps <= impl.RedFuel
}

// plainLead is the greatest monomial of what is not 0.
func plainLead(order int, numbers map[impl.MonMon]int) impl.MonMon {
	var lead impl.MonMon
	var keys []int
	for m := range numbers {
		if own := orderKeys(order, m); keys == nil || slices.Compare(own, keys) > 0 {
			lead, keys = m, own
		}
	}
	return lead
}

func plainDivides(a impl.MonMon, b impl.MonMon) bool {
	return a.X <= b.X && a.Y <= b.Y && a.D <= b.D && a.E <= b.E
}

// plainQuotient is what, times the second number, is the first one.
func plainQuotient(a int, b int) int {
	for q := range impl.FldP {
		if q*b%impl.FldP == a {
			return q
		}
	}
	return 0
}

// plainDivide divides an operator by a list, both ok.
func plainDivide(order int, p []impl.PolTerm, list [][]impl.PolTerm) division {
	d := division{left: map[impl.MonMon]int{}}
	var leads []impl.MonMon
	for _, g := range list {
		d.taken = append(d.taken, map[impl.MonMon]int{})
		leads = append(leads, plainLead(order, numbersOf(g)))
	}
	rest := numbersOf(p)
	for len(rest) > 0 && d.steps < 3*impl.RedFuel && len(rest) < 3*impl.PolMax {
		d.steps++
		m := plainLead(order, rest)
		place := slices.IndexFunc(leads, func(lead impl.MonMon) bool { return plainDivides(lead, m) })
		if place < 0 {
			d.left[m] = rest[m]
			delete(rest, m)
			continue
		}
		lead := leads[place]
		q := impl.PolTerm{
			C: plainQuotient(rest[m], numbersOf(list[place])[lead]),
			M: impl.MonMon{X: m.X - lead.X, Y: m.Y - lead.Y, D: m.D - lead.D, E: m.E - lead.E},
		}
		d.taken[place][q.M] += q.C
		product := plainWays([]impl.PolTerm{q}, list[place])
		d.pastMon = d.pastMon || product.tooMuch
		d.pastPol = d.pastPol || product.most > impl.PolMax
		for m, c := range product.sum {
			rest[m] = (rest[m] + impl.FldP - c) % impl.FldP
		}
		maps.DeleteFunc(rest, func(m impl.MonMon, c int) bool { return c == 0 })
		d.most = max(d.most, len(rest))
	}
	return d
}

// wantDivision asks RedAll for what it is without the program, and tells that.
func wantDivision(t *testing.T, order int, p []impl.PolTerm, list [][]impl.PolTerm) division {
	t.Helper()
	want := plainDivide(order, p, list)
	taken, left, ok := impl.RedAll(order, p, list)
	if ok != want.ok() {
		t.Fatalf("RedAll(%d) of %s by %s is %v; it takes %d steps, with %d terms", order, plainText(p), listText(list), ok, want.steps, want.most)
	}
	if !ok {
		wantNoDivision(t, taken, left, ok, "RedAll")
		return want
	}
	wantInt(t, len(taken), len(list), "how many are told of what is taken", order)
	for place, q := range taken {
		wantPol(t, q, fromNumbers(want.taken[place]), "what is taken of "+plainText(list[place])+", of "+plainText(p)+" by "+listText(list))
	}
	wantPol(t, left, fromNumbers(want.left), "what is left of "+plainText(p)+" by "+listText(list))
	return want
}

func wantNoDivision(t *testing.T, taken [][]impl.PolTerm, left []impl.PolTerm, ok bool, name string) {
	t.Helper()
	if len(taken) != 0 || len(left) != 0 || ok {
		t.Fatalf("%s is %v, %v and %v", name, taken, left, ok)
	}
}

func listText(list [][]impl.PolTerm) string {
	text := ""
	for _, p := range list {
		text += " [" + plainText(p) + "]"
	}
	return text
}

// ops reads operators that a test writes down.
func ops(t *testing.T, texts ...string) [][]impl.PolTerm {
	t.Helper()
	var list [][]impl.PolTerm
	for _, text := range texts {
		list = append(list, op(t, text))
	}
	return list
}

// loose reads terms that a test writes down in the order in which they are to be thought of, not in that of an operator.
func loose(t *testing.T, text string) []impl.PolTerm {
	t.Helper()
	numbers := map[impl.MonMon]int{}
	for part := range strings.SplitSeq(text, "+") {
		for _, term := range op(t, part) {
			numbers[term.M] = term.C
		}
	}
	return fromNumbers(numbers)
}

// looseOps reads operators whose terms a test writes down in any order.
func looseOps(t *testing.T, texts ...string) [][]impl.PolTerm {
	t.Helper()
	var list [][]impl.PolTerm
	for _, text := range texts {
		list = append(list, loose(t, text))
	}
	return list
}

// list rolls up to so many operators, none of them 0.
func (d *dice) list(most int, terms int, counts int) [][]impl.PolTerm {
	var list [][]impl.PolTerm
	for range d.roll(most + 1) {
		if p := d.pol(terms, counts); len(p) > 0 {
			list = append(list, p)
		}
	}
	return list
}

// divided rolls an order, an operator and a list; the operator has some of the list in it, so that much is to be taken.
func (d *dice) divided(most int) (int, []impl.PolTerm, [][]impl.PolTerm) {
	order, p := allOrders[d.roll(3)], d.pol(6, most)
	list := d.list(4, 3, (most+1)/2)
	for _, g := range list {
		if product, ok := impl.WylMul(d.pol(2, most/2), g); ok && d.roll(3) > 0 {
			p = plainSum(p, 1, product)
		}
	}
	return order, p, list
}

func TestRedTable(t *testing.T) {
	if impl.RedFuel != 300 || impl.LstMax != 12 {
		t.Fatal("a constant is not that of the table")
	}
}

func TestRedAllIsWhatItsStepsSay(t *testing.T) {
	seen := map[int]int{}
	tries(t, 7, 500, func(d *dice, most int) bool {
		order, p, list := d.divided(most)
		ok := wantDivision(t, order, p, list).ok()
		if ok && len(list) > 1 {
			seen[order]++
		}
		return ok
	})
	for _, order := range allOrders {
		if seen[order] < 60 {
			t.Fatalf("only %d divisions in order %d", seen[order], order)
		}
	}
}

// wantTold asks a division for what a test writes down.
func wantTold(t *testing.T, order int, p string, list []string, taken []string, left string) {
	t.Helper()
	got, rest, ok := impl.RedAll(order, op(t, p), ops(t, list...))
	if !ok || len(got) != len(taken) {
		t.Fatalf("RedAll(%d) of %s by %v is %v, %v, %v", order, p, list, got, rest, ok)
	}
	for place, q := range got {
		wantPol(t, q, op(t, taken[place]), "what is taken of "+list[place]+" of "+p)
	}
	wantPol(t, rest, op(t, left), "what is left of "+p)
	wantDivision(t, order, op(t, p), ops(t, list...))
}

func TestRedAllByHand(t *testing.T) {
	for _, c := range []struct {
		p     string
		list  []string
		taken []string
		left  string
	}{
		{"x2d2+y", []string{"xd", "d+1"}, []string{"xd+100", "0"}, "y"},
		{"xd", []string{"d"}, []string{"x"}, "0"},
		{"xd", []string{"x"}, []string{"d"}, "100"},
		{"xd+1", []string{"x"}, []string{"d"}, "0"},
		{"d2", []string{"d+100x"}, []string{"d+x"}, "x2+1"},
		{"5x", []string{"3x"}, []string{"69"}, "0"},
		{"7", []string{"2"}, []string{"54"}, "0"},
		{"7", []string{"x"}, []string{"0"}, "7"},
		{"x", []string{"x2", "xy", "xd"}, []string{"0", "0", "0"}, "x"},
		// What takes first is the first that divides, not the greatest, the least or the last one.
		{"xd", []string{"d", "x"}, []string{"x", "0"}, "0"},
		{"xd", []string{"x", "d"}, []string{"d", "0"}, "100"},
		{"xd", []string{"1", "xd", "x"}, []string{"xd", "0", "0"}, "0"},
		{"xd", []string{"x2", "xd", "1"}, []string{"0", "1", "0"}, "0"},
		{"x2+x", []string{"x2", "x"}, []string{"1", "1"}, "0"},
		{"x2+x", []string{"x", "x2"}, []string{"x+1", "0"}, "0"},
		{"y3+y2+y", []string{"y3", "y2", "y"}, []string{"1", "1", "1"}, "0"},
		// Behind each step all of the list is asked again.
		{"d2+d", []string{"d+1", "d2+x"}, []string{"d", "0"}, "0"},
		{"d2+d", []string{"d2+d+x", "x"}, []string{"1", "100"}, "0"},
		{"d2e", []string{"de", "d2+e2", "e"}, []string{"d", "0", "0"}, "0"},
		// The same one twice.
		{"xd+y", []string{"d", "d"}, []string{"x", "0"}, "y"},
		{"d2+d+1", []string{"d+1", "d+1", "d+1"}, []string{"d", "0", "0"}, "1"},
		{"x", []string{"y", "x", "x"}, []string{"0", "1", "0"}, "0"},
		{"x", []string{"2x", "x"}, []string{"51", "0"}, "0"},
		// What is left stands amid what is taken.
		{"d2+de+x", []string{"d2+x2", "x"}, []string{"1", "100x+1"}, "de"},
		{"d+e+x+y", []string{"d+e"}, []string{"1"}, "x+y"},
	} {
		for _, order := range allOrders {
			wantTold(t, order, c.p, c.list, c.taken, c.left)
		}
	}
}

// Which term is the greatest one hangs on the order, in what divides and in what is divided.
func TestRedAllInEachOrder(t *testing.T) {
	for _, c := range []struct {
		order int
		p, g  string
		taken string
		left  string
	}{
		{impl.OrdDeg, "d", "x2+d", "0", "d"}, {impl.OrdLex, "d", "x2+d", "1", "100x2"}, {impl.OrdOut, "d", "x2+d", "0", "d"},
		{impl.OrdDeg, "x", "y2+x", "0", "x"}, {impl.OrdLex, "x", "y2+x", "1", "100y2"}, {impl.OrdOut, "x", "y2+x", "1", "100y2"},
		{impl.OrdDeg, "x", "e+x", "0", "x"}, {impl.OrdLex, "x", "e+x", "0", "x"}, {impl.OrdOut, "x", "e+x", "1", "100e"},
		{impl.OrdDeg, "e", "e+x", "1", "100x"}, {impl.OrdLex, "e", "e+x", "1", "100x"}, {impl.OrdOut, "e", "e+x", "0", "e"},
		{impl.OrdDeg, "y3+x2", "y2+x", "y", "x2+100xy"}, {impl.OrdLex, "y3+x2", "y2+x", "100y2+x", "y4+y3"}, {impl.OrdOut, "y3+x2", "y2+x", "100y2+x", "y4+y3"},
	} {
		wantTold(t, c.order, c.p, []string{c.g}, []string{c.taken}, c.left)
	}
}

// P5
func TestRedAllIsAll(t *testing.T) {
	tries(t, 5, 500, func(d *dice, most int) bool {
		order, p, list := d.divided(most)
		taken, left, ok := impl.RedAll(order, p, list)
		if !ok {
			return false
		}
		if !impl.RedFree(order, left, list) {
			t.Fatalf("RedFree(%d) of what is left, %s, by %s is false", order, plainText(left), listText(list))
		}
		sum, ok := impl.RedSum(taken, list)
		if !ok {
			return false
		}
		wantPol(t, must(t)(impl.PolAdd(sum, left)), p, "what is taken and what is left by "+listText(list))
		return true
	})
}

// P37
func TestRedAllIsNoMore(t *testing.T) {
	tries(t, 37, 500, func(d *dice, most int) bool {
		order, p, list := d.divided(most)
		taken, left, ok := impl.RedAll(order, p, list)
		if !ok || len(p) == 0 {
			return false
		}
		whole, _ := impl.PolLead(order, p)
		wantNoMore := func(m impl.MonMon, monOk bool) {
			t.Helper()
			if !monOk || slices.Compare(orderKeys(order, m), orderKeys(order, whole.M)) > 0 {
				t.Fatalf("RedAll(%d) of %s by %s has %v", order, plainText(p), listText(list), m)
			}
		}
		if rest, some := impl.PolLead(order, left); some {
			wantNoMore(rest.M, true)
		}
		for place, q := range taken {
			if quot, some := impl.PolLead(order, q); some {
				divisor, _ := impl.PolLead(order, list[place])
				wantNoMore(impl.MonMul(quot.M, divisor.M))
			}
		}
		return true
	})
}

// wantAllLeft asks for a division that takes nothing and leaves all.
func wantAllLeft(t *testing.T, order int, p []impl.PolTerm, list [][]impl.PolTerm) {
	t.Helper()
	taken, left, ok := impl.RedAll(order, p, list)
	if !ok || len(taken) != len(list) {
		t.Fatalf("RedAll(%d) of %s by %s is %v, %v", order, plainText(p), listText(list), taken, ok)
	}
	for _, q := range taken {
		wantPol(t, q, nil, "what is taken where nothing is")
	}
	wantPol(t, left, p, "what is left where nothing is taken")
}

// P38
func TestRedAllOfWhatIsLeft(t *testing.T) {
	tries(t, 38, 500, func(d *dice, most int) bool {
		order, p, list := d.divided(most)
		wantAllLeft(t, order, nil, list)
		wantAllLeft(t, order, []impl.PolTerm{}, list)
		wantAllLeft(t, order, p, nil)
		wantAllLeft(t, order, p, [][]impl.PolTerm{})
		_, left, ok := impl.RedAll(order, p, list)
		if ok {
			wantAllLeft(t, order, left, list)
		}
		return ok
	})
	wantAllLeft(t, impl.OrdDeg, nil, nil)
	wantAllLeft(t, impl.OrdLex, manyTerms(impl.RedFuel), nil)
}

// P39
func TestRedAllOfManyTimes(t *testing.T) {
	tries(t, 39, 500, func(d *dice, most int) bool {
		order, p, list := d.divided(most)
		taken, left, ok := impl.RedAll(order, p, list)
		for _, c := range []int{1, 2, 50, impl.FldP - 1, 1 + d.roll(impl.FldP-1)} {
			takenTimes, leftTimes, timesOk := impl.RedAll(order, impl.PolScale(c, p), list)
			if timesOk != ok || len(takenTimes) != len(taken) {
				t.Fatalf("RedAll(%d) of %s is %v, %d times %v", order, plainText(p), ok, c, timesOk)
			}
			for place, q := range takenTimes {
				wantPol(t, q, impl.PolScale(c, taken[place]), "what is taken, many times")
			}
			wantPol(t, leftTimes, impl.PolScale(c, left), "what is left, many times")
		}
		return ok
	})
}

// plainFree says whether no term is divided by a greatest monomial.
func plainFree(order int, p []impl.PolTerm, list [][]impl.PolTerm) bool {
	for _, g := range list {
		lead := plainLead(order, numbersOf(g))
		if slices.ContainsFunc(p, func(term impl.PolTerm) bool { return plainDivides(lead, term.M) }) {
			return false
		}
	}
	return true
}

func TestRedFree(t *testing.T) {
	free := 0
	tries(t, 41, 1200, func(d *dice, most int) bool {
		order, p, list := allOrders[d.roll(3)], d.pol(3, most), d.list(3, 3, most)
		want := plainFree(order, p, list)
		if impl.RedFree(order, p, list) != want {
			t.Fatalf("RedFree(%d) of %s by %s is not %v", order, plainText(p), listText(list), want)
		}
		if want && len(p) > 0 && len(list) > 0 {
			free++
		}
		return true
	})
	if free < 100 || free > 900 {
		t.Fatalf("%d of 1200 were free", free)
	}
}

func TestRedFreeByHand(t *testing.T) {
	for _, c := range []struct {
		order int
		p     string
		list  []string
		want  bool
	}{
		{impl.OrdDeg, "0", nil, true}, {impl.OrdDeg, "x", nil, true}, {impl.OrdLex, "0", []string{"1"}, true}, {impl.OrdOut, "1", []string{"1"}, false},
		{impl.OrdDeg, "y", []string{"xd"}, true}, {impl.OrdDeg, "x2d2+y", []string{"xd"}, false}, {impl.OrdDeg, "xd", []string{"xd"}, false}, {impl.OrdDeg, "d", []string{"xd"}, true},
		// At the first term, amid them, and at the last one; by the first of the list, and by the last one.
		{impl.OrdDeg, "d2+y2+x", []string{"d"}, false}, {impl.OrdDeg, "d2+y2+x", []string{"y"}, false}, {impl.OrdDeg, "d2+y2+x", []string{"x"}, false}, {impl.OrdDeg, "d2+y2+x", []string{"e"}, true},
		{impl.OrdLex, "x", []string{"x", "y", "d"}, false}, {impl.OrdLex, "x", []string{"d", "y", "x"}, false}, {impl.OrdLex, "x", []string{"d", "y", "e"}, true},
		// Only the greatest monomial of each is asked, and that hangs on the order.
		{impl.OrdDeg, "d", []string{"x2+d"}, true}, {impl.OrdLex, "d", []string{"x2+d"}, false}, {impl.OrdOut, "d", []string{"x2+d"}, true},
		{impl.OrdDeg, "x2", []string{"x2+d"}, false}, {impl.OrdLex, "x2", []string{"x2+d"}, true}, {impl.OrdOut, "x2", []string{"x2+d"}, false},
		{impl.OrdDeg, "e", []string{"e+x"}, false}, {impl.OrdLex, "e", []string{"e+x"}, false}, {impl.OrdOut, "e", []string{"e+x"}, true},
	} {
		if got := impl.RedFree(c.order, op(t, c.p), ops(t, c.list...)); got != c.want {
			t.Fatalf("RedFree(%d) of %s by %v is %v", c.order, c.p, c.list, got)
		}
	}
	// How long a division would be, or how much, does not matter here.
	if !impl.RedFree(impl.OrdDeg, manyTerms(impl.PolMax), ops(t, "e")) || impl.RedFree(impl.OrdDeg, manyTerms(impl.PolMax), ops(t, "e", "x15y15")) {
		t.Fatal("RedFree of PolMax terms")
	}
}
