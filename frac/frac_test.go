package frac_test

import (
	"math"
	"math/big"
	"math/rand"
	"slices"
	"strconv"
	"strings"
	"testing"

	"annuitant/api"
	"annuitant/frac"
	"annuitant/whole"
)

const maxBits = 16 * api.MaxLimbs

type binary func(a, b api.Frac) (api.Frac, api.Errno)

var operations = map[string]binary{"Add": frac.Add, "Sub": frac.Sub, "Mul": frac.Mul, "Div": frac.Div}

// calculate is the reference for the operations.
func calculate(name string, x, y *big.Rat) *big.Rat {
	switch name {
	case "Add":
		return new(big.Rat).Add(x, y)
	case "Sub":
		return new(big.Rat).Sub(x, y)
	case "Mul":
		return new(big.Rat).Mul(x, y)
	}
	return new(big.Rat).Quo(x, y)
}

func toInt(a api.Whole) *big.Int {
	x := new(big.Int)
	for _, limb := range slices.Backward(a.Limbs) {
		x.Lsh(x, 16).Add(x, big.NewInt(int64(limb)))
	}
	if a.Neg {
		x.Neg(x)
	}
	return x
}

func fromInt(x *big.Int) api.Whole {
	a := api.Whole{Neg: x.Sign() < 0}
	rest, mask := new(big.Int).Abs(x), big.NewInt(65535)
	for rest.Sign() > 0 {
		a.Limbs = append(a.Limbs, uint16(new(big.Int).And(rest, mask).Uint64()))
		rest.Rsh(rest, 16)
	}
	return a
}

func toRat(a api.Frac) *big.Rat {
	return new(big.Rat).SetFrac(toInt(a.N), toInt(a.D))
}

func fromRat(x *big.Rat) api.Frac {
	return api.Frac{N: fromInt(x.Num()), D: fromInt(x.Denom())}
}

// rat returns the fraction with a text of the form of math/big, which need not be in lowest terms.
func rat(text string) api.Frac {
	x, ok := new(big.Rat).SetString(text)
	if !ok {
		panic(text)
	}
	return fromRat(x)
}

// power returns 2 to the power n, less a number.
func power(n uint, less int64) *big.Int {
	x := new(big.Int).Lsh(big.NewInt(1), n)
	return x.Sub(x, big.NewInt(less))
}

func ratio(n, d *big.Int) api.Frac {
	return fromRat(new(big.Rat).SetFrac(n, d))
}

func isLong(x *big.Rat) bool {
	return x.Num().BitLen() > maxBits || x.Denom().BitLen() > maxBits
}

func isNothing(a api.Frac) bool {
	return !a.N.Neg && !a.D.Neg && len(a.N.Limbs)+len(a.D.Limbs) == 0
}

// expect compares a result with a value, which may be too long.
func expect(t *testing.T, got api.Frac, e api.Errno, want *big.Rat) {
	t.Helper()
	if isLong(want) {
		if e != api.ErrLong || !isNothing(got) {
			t.Errorf("error %d instead of ErrLong", e)
		}
	} else if e != api.OK || !frac.Same(got, fromRat(want)) || !frac.Valid(got) {
		t.Errorf("%v, %d instead of %v", got, e, want)
	}
}

// expectError checks that an error comes without a value.
func expectError(t *testing.T, got api.Frac, e, want api.Errno) {
	t.Helper()
	if e != want || !isNothing(got) {
		t.Errorf("%v, %d instead of error %d", got, e, want)
	}
}

func small() []api.Frac {
	var l []api.Frac
	for _, text := range []string{"0", "1", "-1", "2", "-2", "1/2", "-1/2", "1/3", "-2/3", "5/2", "-5/2", "7/2", "3/10", "1/6", "-12/35", "65535", "65536/65537", "-1/65536", "9223372036854775807", "-9223372036854775808/9223372036854775807", "1/18446744073709551616"} {
		l = append(l, rat(text))
	}
	return l
}

// long has fractions with as many limbs as there may be, or half of them.
func long() []api.Frac {
	top, half, one := power(maxBits, 1), power(maxBits/2, 1), big.NewInt(1)
	return []api.Frac{
		ratio(top, one), ratio(power(maxBits, 3), one), ratio(big.NewInt(-1), top), ratio(power(maxBits, 2), top),
		ratio(top, power(maxBits, 2)), ratio(new(big.Int).Neg(top), power(maxBits-1, 0)),
		ratio(half, one), ratio(one, half), ratio(power(maxBits/2, 3), half), ratio(power(maxBits-1, 0), one), ratio(one, power(maxBits-1, 0)),
	}
}

// random has fractions of some limbs, many of which have divisors in common.
func random(seed int64, n int) []api.Frac {
	source := rand.New(rand.NewSource(seed))
	number := func() *big.Int {
		x := big.NewInt(1)
		for range 1 + source.Intn(4) {
			x.Mul(x, big.NewInt([]int64{2, 3, 6, 10, 65536, 65535, 1 + source.Int63n(1<<40)}[source.Intn(7)]))
		}
		return x
	}
	var l []api.Frac
	for range n {
		x := number()
		if source.Intn(3) == 0 {
			x.Neg(x)
		}
		l = append(l, ratio(x, number()))
	}
	return l
}

func invalids() []api.Frac {
	one, two, six := whole.FromInt(1), whole.FromInt(2), whole.FromInt(6)
	wide := api.Whole{Limbs: slices.Repeat([]uint16{65535}, api.MaxLimbs+1)}
	padded, minusZero := api.Whole{Limbs: []uint16{1, 0}}, api.Whole{Neg: true}
	return []api.Frac{
		{}, {N: one}, {D: api.Whole{}, N: two}, {N: one, D: whole.FromInt(-2)}, {N: whole.FromInt(-1), D: whole.FromInt(-1)}, {N: one, D: minusZero},
		{N: two, D: six}, {N: six, D: two}, {N: two, D: two}, {N: whole.FromInt(-4), D: six}, {D: two}, {D: wide},
		{N: padded, D: one}, {N: one, D: padded}, {N: minusZero, D: one}, {N: one, D: api.Whole{Limbs: []uint16{0}}}, {N: api.Whole{Limbs: []uint16{0}}, D: one},
		{N: wide, D: one}, {N: one, D: wide}, {N: api.Whole{Neg: true, Limbs: wide.Limbs}, D: two},
		{N: api.Whole{Limbs: make([]uint16, 1<<20)}, D: one}, {N: one, D: api.Whole{Limbs: make([]uint16, 1<<20)}},
	}
}

// P2.1
func TestValid(t *testing.T) {
	for i, a := range slices.Concat(small(), long(), random(1, 50)) {
		if !frac.Valid(a) {
			t.Error(i, a)
		}
	}
	for i, a := range invalids() {
		if frac.Valid(a) {
			t.Error(i)
		}
	}
}

// P2.1
func TestSame(t *testing.T) {
	all := append(invalids(), small()...)
	for i, a := range all {
		for j, b := range all {
			if want := whole.Same(a.N, b.N) && whole.Same(a.D, b.D); frac.Same(a, b) != want {
				t.Error(i, j)
			}
		}
		if !frac.Same(a, a) {
			t.Error(i)
		}
	}
	if frac.Same(rat("1/2"), rat("3/2")) || frac.Same(rat("1/2"), rat("1/3")) || frac.Same(rat("1/2"), rat("-1/2")) {
		t.Error("different fractions are the same")
	}
}

// P2.1
func TestFromInt(t *testing.T) {
	for _, n := range []int{0, 1, -1, 65536, -65537, math.MaxInt, math.MinInt} {
		expect(t, frac.FromInt(n), api.OK, new(big.Rat).SetInt64(int64(n)))
	}
}

// P2.2
func TestMake(t *testing.T) {
	for n := -24; n <= 24; n++ {
		for d := -24; d <= 24; d++ {
			a, e := frac.Make(whole.FromInt(n), whole.FromInt(d))
			if d == 0 {
				expectError(t, a, e, frac.ErrZero)
			} else {
				expect(t, a, e, big.NewRat(int64(n), int64(d)))
			}
		}
	}
	if a, e := frac.Make(whole.FromInt(4), whole.FromInt(-6)); e != api.OK || !frac.Same(a, rat("-2/3")) {
		t.Error(a, e)
	}
}

// P2.2: whether a result is too long depends on its value in lowest terms only.
func TestMakeOfLongNumbers(t *testing.T) {
	wide := 4 * uint(maxBits)
	numbers := []*big.Int{
		big.NewInt(1), big.NewInt(-1), big.NewInt(6), power(maxBits, 1), power(maxBits, 0), power(maxBits-1, 0), power(wide, 1), power(wide-1, 0),
		power(wide-uint(maxBits), 0), new(big.Int).Neg(power(wide-uint(maxBits), 0)), new(big.Int).Mul(power(maxBits, 1), power(maxBits, 3)), power(3*maxBits, 1),
	}
	for _, n := range numbers {
		for _, d := range numbers {
			a, e := frac.Make(fromInt(n), fromInt(d))
			expect(t, a, e, new(big.Rat).SetFrac(n, d))
		}
	}
	a, e := frac.Make(fromInt(power(wide, 1)), api.Whole{})
	expectError(t, a, e, frac.ErrZero)
}

// P2.2, P2.6
func TestMakeOfInvalidNumbers(t *testing.T) {
	good := []api.Whole{{}, whole.FromInt(1), whole.FromInt(-3)}
	for _, bad := range []api.Whole{{Neg: true}, {Limbs: []uint16{0}}, {Limbs: []uint16{5, 0}}, fromInt(power(4*maxBits, 0))} {
		for _, other := range append(good, bad) {
			a, e := frac.Make(bad, other)
			expectError(t, a, e, api.ErrArg)
			a, e = frac.Make(other, bad)
			expectError(t, a, e, api.ErrArg)
		}
	}
}

// P2.2
func TestOperations(t *testing.T) {
	for _, l := range [][]api.Frac{append(small(), long()...), append(small(), random(2, 80)...)} {
		for _, a := range l {
			for _, b := range l {
				for name, operation := range operations {
					got, e := operation(a, b)
					if name == "Div" && len(b.N.Limbs) == 0 {
						expectError(t, got, e, frac.ErrZero)
						continue
					}
					expect(t, got, e, calculate(name, toRat(a), toRat(b)))
				}
			}
		}
	}
}

// P2.2: results that just are, and just are not, too long, and long operands that cancel.
func TestErrLong(t *testing.T) {
	one, top := frac.FromInt(1), ratio(power(maxBits, 1), big.NewInt(1))
	tiny := ratio(big.NewInt(1), power(maxBits, 1))
	third := ratio(power(maxBits, 1), big.NewInt(7*17))
	for i, c := range []struct {
		name string
		a, b api.Frac
		want api.Errno
	}{
		{"Add", top, one, api.ErrLong},
		{"Add", top, rat("-1"), api.OK},
		{"Sub", top, rat("-1"), api.ErrLong},
		{"Sub", top, top, api.OK},
		{"Sub", tiny, tiny, api.OK},
		{"Add", tiny, one, api.ErrLong},
		{"Add", tiny, rat("-1"), api.OK},
		{"Add", tiny, rat("1/2"), api.ErrLong},
		{"Mul", top, tiny, api.OK},
		{"Mul", top, top, api.ErrLong},
		{"Mul", tiny, tiny, api.ErrLong},
		{"Mul", top, rat("4/3"), api.ErrLong},
		{"Mul", top, rat("2/3"), api.OK},
		{"Mul", top, rat("1/3"), api.OK},
		{"Mul", third, rat("119"), api.OK},
		{"Div", top, top, api.OK},
		{"Div", tiny, tiny, api.OK},
		{"Div", top, tiny, api.ErrLong},
		{"Div", rat("2"), tiny, api.ErrLong},
		{"Div", one, tiny, api.OK},
	} {
		a, e := operations[c.name](c.a, c.b)
		if e != c.want || e != api.OK && !isNothing(a) {
			t.Error(i, e)
		}
	}
}

// P2.2
func TestNeg(t *testing.T) {
	for _, a := range slices.Concat(small(), long()) {
		got, e := frac.Neg(a)
		expect(t, got, e, new(big.Rat).Neg(toRat(a)))
	}
}

// P2.2
func TestPow(t *testing.T) {
	for _, a := range slices.Concat(small(), random(3, 20)) {
		want := big.NewRat(1, 1)
		for n := range 20 {
			got, e := frac.Pow(a, n)
			expect(t, got, e, want)
			got, e = frac.Pow(a, -n)
			switch {
			case n == 0:
				expect(t, got, e, big.NewRat(1, 1))
			case len(a.N.Limbs) == 0:
				expectError(t, got, e, frac.ErrZero)
			default:
				expect(t, got, e, new(big.Rat).Inv(want))
			}
			want.Mul(want, toRat(a))
		}
	}
	if a, e := frac.Pow(rat("-2/3"), -3); e != api.OK || !frac.Same(a, rat("-27/8")) {
		t.Error(a, e)
	}
}

// P2.2, R1
func TestPowWithGreatExponents(t *testing.T) {
	for i, c := range []struct {
		a    string
		n    int
		want string // or an empty text for ErrLong
	}{
		{"1", math.MaxInt, "1"}, {"1", math.MinInt, "1"}, {"-1", math.MaxInt, "-1"}, {"-1", math.MinInt, "1"}, {"-1", math.MinInt + 1, "-1"}, {"0", math.MaxInt, "0"}, {"0", math.MaxInt - 1, "0"},
		{"2", math.MaxInt, ""}, {"2", math.MinInt, ""}, {"-1/2", math.MaxInt, ""}, {"-1/2", math.MinInt, ""}, {"65537/65536", math.MaxInt, ""}, {"65537/65536", 1 << 32, ""},
		{"2", maxBits, ""}, {"-2", maxBits, ""}, {"1/2", maxBits, ""}, {"2", -maxBits, ""}, {"65535", api.MaxLimbs + 1, ""}, {"65536", api.MaxLimbs, ""},
	} {
		a, e := frac.Pow(rat(c.a), c.n)
		if c.want == "" {
			expectError(t, a, e, api.ErrLong)
		} else if e != api.OK || !frac.Same(a, rat(c.want)) {
			t.Error(i, a, e)
		}
	}
	top := new(big.Rat).SetInt(power(maxBits-1, 0))
	for n, base := range map[int]string{maxBits - 1: "2", 1 - maxBits: "1/2"} {
		a, e := frac.Pow(rat(base), n)
		expect(t, a, e, top)
	}
	for _, a := range long() {
		got, e := frac.Pow(a, 1)
		expect(t, got, e, toRat(a))
		got, e = frac.Pow(a, -1)
		expect(t, got, e, new(big.Rat).Inv(toRat(a)))
		got, e = frac.Pow(a, 3)
		expectError(t, got, e, api.ErrLong)
	}
	a, e := frac.Pow(frac.FromInt(0), math.MinInt)
	expectError(t, a, e, frac.ErrZero)
}

// P2.3
func TestCmp(t *testing.T) {
	all := slices.Concat(small(), long(), random(4, 40))
	for _, a := range all {
		for _, b := range all {
			if got, want := frac.Cmp(a, b), toRat(a).Cmp(toRat(b)); got != want {
				t.Error(a, b, got)
			}
		}
	}
	for i, a := range invalids() {
		if frac.Cmp(a, frac.FromInt(-7)) != 0 || frac.Cmp(frac.FromInt(-7), a) != 0 || frac.Cmp(a, a) != 0 {
			t.Error(i)
		}
	}
}

// floorOf returns the greatest whole number that is at most x.
func floorOf(x *big.Rat) *big.Int {
	return new(big.Int).Div(x.Num(), x.Denom()) // rounds down, since the divisor is positive
}

// P2.3
func TestFloorAndCeil(t *testing.T) {
	for _, a := range slices.Concat(small(), long(), random(5, 80)) {
		x := toRat(a)
		floor, e1 := frac.Floor(a)
		ceil, e2 := frac.Ceil(a)
		below := floorOf(x)
		above := new(big.Int).Neg(floorOf(new(big.Rat).Neg(x)))
		if e1 != api.OK || e2 != api.OK || !whole.Same(floor, fromInt(below)) || !whole.Same(ceil, fromInt(above)) {
			t.Error(x, floor, ceil, e1, e2)
		}
	}
	for _, c := range []struct {
		a           string
		floor, ceil int
	}{{"-1/2", -1, 0}, {"1/2", 0, 1}, {"-3", -3, -3}, {"0", 0, 0}, {"7/2", 3, 4}, {"-7/2", -4, -3}} {
		floor, _ := frac.Floor(rat(c.a))
		ceil, _ := frac.Ceil(rat(c.a))
		if !whole.Same(floor, whole.FromInt(c.floor)) || !whole.Same(ceil, whole.FromInt(c.ceil)) {
			t.Error(c, floor, ceil)
		}
	}
}

// P2.3
func TestInt(t *testing.T) {
	for _, n := range []int{0, 1, -1, 70000, math.MaxInt, math.MinInt} {
		if m, e := frac.Int(frac.FromInt(n)); m != n || e != api.OK {
			t.Error(n, m, e)
		}
	}
	for text, want := range map[string]api.Errno{
		"1/2": frac.ErrPart, "-7/3": frac.ErrPart, "9223372036854775809/2": frac.ErrPart, "100000000000000000001/2": frac.ErrPart,
		"9223372036854775808": api.ErrLong, "-9223372036854775809": api.ErrLong, "18446744073709551616": api.ErrLong,
	} {
		if n, e := frac.Int(rat(text)); n != 0 || e != want {
			t.Error(text, n, e)
		}
	}
}

// rounded follows the definition in the document's terms.
func rounded(x, unit *big.Rat, mode uint8) *big.Rat {
	k := floorOf(new(big.Rat).Quo(x, unit))
	times := func(k *big.Int) *big.Rat { return new(big.Rat).Mul(new(big.Rat).SetInt(k), unit) }
	next := new(big.Int).Add(k, big.NewInt(1))
	below, above := times(k), times(next)
	floor, ceil := below, above
	if below.Cmp(x) == 0 {
		ceil = below
	}
	distance := new(big.Rat).Sub(x, below).Cmp(new(big.Rat).Sub(above, x))
	switch mode {
	case api.RoundFloor:
		return floor
	case api.RoundCeil:
		return ceil
	case api.RoundDown:
		if x.Sign() >= 0 {
			return floor
		}
		return ceil
	case api.RoundUp:
		if x.Sign() >= 0 {
			return ceil
		}
		return floor
	}
	switch {
	case distance < 0:
		return below
	case distance > 0:
		return above
	case mode == api.RoundHalf && new(big.Rat).Abs(below).Cmp(new(big.Rat).Abs(above)) > 0:
		return below
	case mode == api.RoundEven && k.Bit(0) == 0:
		return below
	}
	return above
}

// P2.4
func TestRoundExamples(t *testing.T) {
	for text, want := range map[string][6]int{
		"7/2": {3, 4, 3, 4, 4, 4}, "-5/2": {-2, -3, -3, -2, -3, -2}, "5/2": {2, 3, 2, 3, 3, 2}, "-7/2": {-3, -4, -4, -3, -4, -4},
		"1/2": {0, 1, 0, 1, 1, 0}, "-1/2": {0, -1, -1, 0, -1, 0}, "3": {3, 3, 3, 3, 3, 3}, "-3": {-3, -3, -3, -3, -3, -3}, "0": {},
		"10/3": {3, 4, 3, 4, 3, 3}, "-10/3": {-3, -4, -4, -3, -3, -3}, "11/3": {3, 4, 3, 4, 4, 4},
	} {
		for i, n := range want {
			a, e := frac.Round(rat(text), frac.FromInt(1), uint8(i+1))
			if e != api.OK || !frac.Same(a, frac.FromInt(n)) {
				t.Error(text, i+1, a, e)
			}
		}
	}
	if a, e := frac.Round(frac.FromInt(1), rat("3/10"), api.RoundHalf); e != api.OK || !frac.Same(a, rat("9/10")) {
		t.Error(a, e)
	}
}

// P2.4
func TestRound(t *testing.T) {
	values := append(small(), random(6, 60)...)
	for n := -30; n <= 30; n++ {
		values = append(values, rat(strconv.Itoa(n)+"/8"))
	}
	units := append(random(7, 20), rat("1"), rat("1/4"), rat("3/4"), rat("2"), rat("5/3"), rat("100"), rat("1/18446744073709551616"))
	for _, a := range values {
		for _, unit := range units {
			for mode := api.RoundDown; mode <= api.RoundEven; mode++ {
				got, e := frac.Round(a, unit, mode)
				if unit.N.Neg {
					expectError(t, got, e, frac.ErrZero)
				} else {
					expect(t, got, e, rounded(toRat(a), toRat(unit), mode))
				}
			}
		}
	}
}

// P2.4: the number of units may be too long for a fraction although the result is not; and the result may be too long.
func TestRoundOfLongNumbers(t *testing.T) {
	long := append(long(), ratio(power(maxBits, 3), power(maxBits, 1)))
	count := 0
	for _, a := range append(long, small()...) {
		for _, unit := range append(long, rat("1"), rat("2/3"), rat("1/2")) {
			if unit.N.Neg {
				continue
			}
			for mode := api.RoundDown; mode <= api.RoundEven; mode++ {
				got, e := frac.Round(a, unit, mode)
				want := rounded(toRat(a), toRat(unit), mode)
				expect(t, got, e, want)
				if isLong(want) {
					count++
				}
			}
		}
	}
	if count == 0 {
		t.Error("no result is too long")
	}
	top, tiny := ratio(power(maxBits, 1), big.NewInt(1)), ratio(big.NewInt(1), power(maxBits, 1))
	if a, e := frac.Round(top, tiny, api.RoundHalf); e != api.OK || !frac.Same(a, top) {
		t.Error(e)
	}
	a, e := frac.Round(top, rat("2"), api.RoundUp)
	expectError(t, a, e, api.ErrLong)
}

// P2.4, P2.6: the first of several errors is returned.
func TestRoundErrors(t *testing.T) {
	one, bad := frac.FromInt(1), api.Frac{}
	for _, unit := range []api.Frac{frac.FromInt(0), frac.FromInt(-1), rat("-1/3")} {
		for _, mode := range []uint8{0, 7, 8, 128, 255} {
			a, e := frac.Round(one, unit, mode)
			expectError(t, a, e, api.ErrArg)
			a, e = frac.Round(one, one, mode)
			expectError(t, a, e, api.ErrArg)
		}
		for mode := api.RoundDown; mode <= api.RoundEven; mode++ {
			a, e := frac.Round(one, unit, mode)
			expectError(t, a, e, frac.ErrZero)
			a, e = frac.Round(bad, unit, mode)
			expectError(t, a, e, api.ErrArg)
		}
	}
}

// P2.5
func TestTextAndParse(t *testing.T) {
	for _, a := range slices.Concat(small(), long(), random(8, 60)) {
		want := toRat(a).RatString()
		if s, e := frac.Text(a); s != want || e != api.OK {
			t.Error(want, s, e)
		}
		if b, e := frac.Parse(want); e != api.OK || !frac.Same(a, b) || !frac.Valid(b) {
			t.Error(want, b, e)
		}
	}
}

// P2.5
func TestParseErrors(t *testing.T) {
	for _, text := range []string{
		"", "/", "1/", "/2", "-/2", "-", "1//2", "/1/2", "1/2/", "1/2/3", "2/4", "3/1", "0/1", "0/2", "1/-2", "-1/-2", "1/-1", "1/0", "0/0", "1/-0", "-0", "-0/3", "-4/6", "6/2",
		"01/2", "1/02", "+1/2", "1/+2", " 1/2", "1 /2", "1/ 2", "1/2 ", "1/2\n", "1\\2", "1:2", "1.5", "1/2.0", "x", "x/2", "1/x", "1e3", "1/0x2", "0x1/2", "\x00", "1/2\x00", "1∕2",
	} {
		a, e := frac.Parse(text)
		expectError(t, a, e, frac.ErrText)
	}
}

// P2.5: which error is returned for numbers of too many limbs.
func TestParseOfLongTexts(t *testing.T) {
	top, beyond := power(maxBits, 1).String(), power(maxBits, 0).String()
	even := power(maxBits, 2).String()
	huge := strings.Repeat("2", 1<<17)
	for _, text := range []string{
		beyond, "-" + beyond, "1/" + beyond, beyond + "/2", beyond + "/3", "2/" + beyond, beyond + "/" + beyond, "0/" + beyond,
		huge, "-" + huge, "1/" + huge, huge + "/2", huge + "/" + huge, top + "/" + huge,
	} {
		a, e := frac.Parse(text)
		expectError(t, a, e, api.ErrLong)
	}
	for _, text := range []string{
		beyond + "/1", beyond + "/0", beyond + "/-2", beyond + "/x", "x/" + beyond, "1/-" + beyond, "-0/" + beyond, beyond + "/", "0" + beyond, beyond + "/2/3",
		huge + "/1", huge + "/0", huge + "/-1", huge + "/", "/" + huge, "1/-" + huge, huge + "/-" + huge, huge + "x", "0" + huge, "1/0" + huge, "x/" + huge,
		top + "/" + top, even + "/2", "2/" + even,
	} {
		a, e := frac.Parse(text)
		expectError(t, a, e, frac.ErrText)
	}
	for _, text := range []string{top, "-" + top, "1/" + top, top + "/2", top + "/" + even, "-" + even + "/" + top} {
		if a, e := frac.Parse(text); e != api.OK || toRat(a).RatString() != text {
			t.Error(e)
		}
	}
}

// P2.6, R1, R2, R7
func TestInvalidArguments(t *testing.T) {
	for i, bad := range invalids() {
		for _, other := range []api.Frac{frac.FromInt(0), frac.FromInt(1), rat("-7/3"), bad} {
			for _, pair := range [][2]api.Frac{{bad, other}, {other, bad}} {
				for _, operation := range operations {
					a, e := operation(pair[0], pair[1])
					expectError(t, a, e, api.ErrArg)
				}
				for mode := range 256 {
					a, e := frac.Round(pair[0], pair[1], uint8(mode))
					expectError(t, a, e, api.ErrArg)
				}
			}
		}
		for _, n := range []int{0, 1, -1, 7, math.MaxInt, math.MinInt} {
			a, e := frac.Pow(bad, n)
			expectError(t, a, e, api.ErrArg)
		}
		a, e := frac.Neg(bad)
		expectError(t, a, e, api.ErrArg)
		floor, e1 := frac.Floor(bad)
		ceil, e2 := frac.Ceil(bad)
		if e1 != api.ErrArg || e2 != api.ErrArg || !whole.Same(floor, api.Whole{}) || !whole.Same(ceil, api.Whole{}) {
			t.Error(i, floor, ceil, e1, e2)
		}
		if n, e := frac.Int(bad); n != 0 || e != api.ErrArg {
			t.Error(i, n, e)
		}
		if s, e := frac.Text(bad); s != "" || e != api.ErrArg {
			t.Error(i, s, e)
		}
	}
}

// P2.7
func TestLaws(t *testing.T) {
	must := func(a api.Frac, e api.Errno) api.Frac {
		t.Helper()
		if e != api.OK {
			t.Fatal(e)
		}
		return a
	}
	same := func(a, b api.Frac) {
		t.Helper()
		if !frac.Same(a, b) || frac.Cmp(a, b) != 0 {
			t.Error(a, b)
		}
	}
	l := append(small(), random(9, 20)...)
	for i, a := range l {
		same(must(frac.Neg(must(frac.Neg(a)))), a)
		same(must(frac.Sub(a, a)), frac.FromInt(0))
		for j, b := range l {
			c := l[(i+j)%len(l)]
			same(must(frac.Add(a, b)), must(frac.Add(b, a)))
			same(must(frac.Mul(a, b)), must(frac.Mul(b, a)))
			same(must(frac.Sub(must(frac.Add(a, b)), b)), a)
			same(must(frac.Sub(a, b)), must(frac.Neg(must(frac.Sub(b, a)))))
			same(must(frac.Mul(a, must(frac.Add(b, c)))), must(frac.Add(must(frac.Mul(a, b)), must(frac.Mul(a, c)))))
			if len(b.N.Limbs) > 0 {
				same(must(frac.Mul(must(frac.Div(a, b)), b)), a)
				same(must(frac.Mul(must(frac.Pow(b, 3)), must(frac.Pow(b, -2)))), b)
			}
			if (frac.Cmp(a, b) == 0) != frac.Same(a, b) || frac.Cmp(a, b) != -frac.Cmp(b, a) {
				t.Error(a, b)
			}
		}
	}
}

const guard = 4711

func guarded(a api.Whole) api.Whole {
	limbs := append(slices.Clone(a.Limbs), guard, guard, guard, guard)
	return api.Whole{Neg: a.Neg, Limbs: limbs[:len(a.Limbs)]}
}

// untouched checks that a guarded number is what it was.
func untouched(t *testing.T, a, was api.Whole) {
	t.Helper()
	rest := a.Limbs[len(a.Limbs):][:4]
	if !whole.Same(a, was) || !slices.Equal(rest, []uint16{guard, guard, guard, guard}) {
		t.Fatal("an argument is changed")
	}
}

func overwrite(a api.Whole) {
	full := a.Limbs[:cap(a.Limbs)]
	for i := range full {
		full[i] = 12345
	}
}

// calls calls everything that takes fractions, and passes the results on.
func calls(a, b api.Frac, take func(result api.Frac)) {
	for _, operation := range []binary{frac.Add, frac.Sub, frac.Mul, frac.Div} {
		c, _ := operation(a, b)
		take(c)
	}
	for mode := api.RoundDown; mode <= api.RoundEven; mode++ {
		c, _ := frac.Round(a, b, mode)
		take(c)
	}
	for n := -2; n <= 2; n++ {
		c, _ := frac.Pow(a, n)
		take(c)
	}
	for _, pair := range [][2]api.Whole{{a.N, b.N}, {a.N, b.D}, {a.D, b.D}} {
		c, _ := frac.Make(pair[0], pair[1])
		take(c)
	}
	c, _ := frac.Neg(a)
	take(c)
	floor, _ := frac.Floor(a)
	ceil, _ := frac.Ceil(a)
	take(api.Frac{N: floor, D: ceil})
	frac.Cmp(a, b)
	frac.Same(a, b)
	frac.Int(a)
	frac.Text(a)
	frac.Valid(a)
}

// R3, R4: results are overwritten, which must change neither arguments, nor the other part of the result, nor later results.
func TestResultsShareNothing(t *testing.T) {
	l := append(small(), long()[0], long()[5], api.Frac{}, api.Frac{N: whole.FromInt(2), D: whole.FromInt(4)})
	for _, x := range l {
		for _, y := range l {
			a := api.Frac{N: guarded(x.N), D: guarded(x.D)}
			b := api.Frac{N: guarded(y.N), D: guarded(y.D)}
			var kept []api.Frac
			calls(a, b, func(c api.Frac) {
				copied := api.Frac{N: api.Whole{Neg: c.N.Neg, Limbs: slices.Clone(c.N.Limbs)}, D: api.Whole{Neg: c.D.Neg, Limbs: slices.Clone(c.D.Limbs)}}
				kept = append(kept, copied)
				overwrite(c.N)
				if !whole.Same(c.D, copied.D) {
					t.Fatal("a numerator shares memory with a denominator")
				}
				overwrite(c.D)
			})
			calls(a, b, func(c api.Frac) {
				if !frac.Same(c, kept[0]) {
					t.Fatal("a later result differs")
				}
				kept = kept[1:]
			})
			untouched(t, a.N, x.N)
			untouched(t, a.D, x.D)
			untouched(t, b.N, y.N)
			untouched(t, b.D, y.D)
		}
	}
	one := frac.FromInt(1)
	overwrite(one.N)
	if !whole.Same(one.D, whole.FromInt(1)) || !frac.Same(frac.FromInt(1), rat("1")) {
		t.Error("FromInt")
	}
}

// R5
func TestNilAndEmptyAreEquivalent(t *testing.T) {
	none, empty := frac.FromInt(0), api.Frac{N: api.Whole{Limbs: []uint16{}}, D: whole.FromInt(1)}
	none.N.Limbs = nil
	for _, other := range []api.Frac{none, empty, rat("-9/2")} {
		for _, swap := range []bool{false, true} {
			var kept []api.Frac
			collect := func(c api.Frac) { kept = append(kept, c) }
			compare := func(c api.Frac) {
				if !frac.Same(c, kept[0]) {
					t.Error(c, kept[0])
				}
				kept = kept[1:]
			}
			if swap {
				calls(other, none, collect)
				calls(other, empty, compare)
			} else {
				calls(none, other, collect)
				calls(empty, other, compare)
			}
		}
	}
	if !frac.Valid(none) || !frac.Valid(empty) || !frac.Same(none, empty) || frac.Cmp(none, empty) != 0 {
		t.Error("0 is not 0")
	}
}

func BenchmarkAddSmall(b *testing.B) {
	x, y := rat("1/6"), rat("1/3")
	for b.Loop() {
		frac.Add(x, y)
	}
}

func BenchmarkMulLong(b *testing.B) {
	x, y := ratio(power(2040, 3), power(2040, 1)), ratio(power(2030, 5), power(2030, 7))
	for b.Loop() {
		frac.Mul(x, y)
	}
}

func BenchmarkRound(b *testing.B) {
	x, y := rat("12345678/97"), rat("1/100")
	for b.Loop() {
		frac.Round(x, y, api.RoundHalf)
	}
}
