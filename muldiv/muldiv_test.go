package muldiv

import (
	"math"
	"math/big"
	"slices"
	"testing"

	"mimesis/api"
)

// chapterTable is the chapter's table, reckoned in numbers without bounds, without the machine's own products and signs.
var chapterTable = []struct {
	op     int
	answer func(a, b uint32) uint32
}{
	{api.Mul, func(a, b uint32) uint32 { return bitsFrom(0, times(number(a), number(b))) }},
	{api.Mulh, func(a, b uint32) uint32 { return bitsFrom(32, times(signedNumber(a), signedNumber(b))) }},
	{api.Mulhsu, func(a, b uint32) uint32 { return bitsFrom(32, times(signedNumber(a), number(b))) }},
	{api.Mulhu, func(a, b uint32) uint32 { return bitsFrom(32, times(number(a), number(b))) }},
	{api.Div, func(a, b uint32) uint32 { return quotientOf(signedNumber(a), signedNumber(b)) }},
	{api.Divu, func(a, b uint32) uint32 { return quotientOf(number(a), number(b)) }},
	{api.Rem, func(a, b uint32) uint32 { return restOf(signedNumber(a), signedNumber(b)) }},
	{api.Remu, func(a, b uint32) uint32 { return restOf(number(a), number(b)) }},
}

func number(w uint32) *big.Int {
	return big.NewInt(int64(w))
}

func signedNumber(w uint32) *big.Int {
	n := number(w)
	if w >= 1<<31 {
		n.Sub(n, powerOfTwo(32))
	}
	return n
}

func powerOfTwo(n uint) *big.Int {
	return new(big.Int).Lsh(big.NewInt(1), n)
}

func times(a, b *big.Int) *big.Int {
	return new(big.Int).Mul(a, b)
}

// bitsFrom answers 32 bits, from that one on, of n's rest by 2^64, which is none below 0.
func bitsFrom(from uint, n *big.Int) uint32 {
	rest := new(big.Int).Mod(n, powerOfTwo(64))
	rest.Div(rest, powerOfTwo(from))
	rest.Mod(rest, powerOfTwo(32))
	return uint32(rest.Uint64())
}

// quotientOf answers the quotient, rounded towards 0, as a word; that of -2^31 and -1 is 2^31, the word of -2^31.
func quotientOf(a, b *big.Int) uint32 {
	if b.Sign() == 0 {
		return 0xffffffff
	}
	return bitsFrom(0, new(big.Int).Quo(a, b))
}

// restOf answers the rest with the sign of a, as a word.
func restOf(a, b *big.Int) uint32 {
	if b.Sign() == 0 {
		return bitsFrom(0, a)
	}
	return bitsFrom(0, new(big.Int).Rem(a, b))
}

// edges are the words at which an answer could turn, and their neighbours.
func edges() []uint32 {
	out := []uint32{0x55555555, 0xaaaaaaaa, 0x33333333, 0xb504, 0xb505, 0x12345678, 0x87654321, 0x9abcdef0}
	for i := range 32 {
		p := uint32(1) << i
		out = append(out, p-1, p, p+1, -p, -p-1, -p+1)
	}
	for i := range uint32(20) {
		out = append(out, i, -i, 1<<31+i, 1<<31-i)
	}
	slices.Sort(out)
	return slices.Compact(out)
}

// mixed answers n words with all kinds of bits, the same ones each time.
func mixed(n int) []uint32 {
	out := make([]uint32, 0, n)
	x := uint64(1)
	for range n {
		x = x*6364136223846793005 + 1442695040888963407
		out = append(out, uint32(x>>32))
	}
	return out
}

// pairs calls do with each edge in each place beside each other, and with mixed words beside one another, beside shorter ones and beside edges.
func pairs(do func(a, b uint32)) {
	e := edges()
	for _, a := range e {
		for _, b := range e {
			do(a, b)
		}
	}
	m := mixed(4000)
	for i, a := range m {
		b := m[(i+1)%len(m)]
		do(a, b)
		do(a, a)
		do(a, -a)
		do(a, a+1)
		do(a, a-1)
		do(a, b>>(i%32))
		do(a, -(b >> (i % 32)))
		do(a>>(i%32), b)
		do(a, e[i%len(e)])
		do(e[i%len(e)], a)
	}
}

// numbers are every instruction's, those about them, and others up to the ends of int.
func numbers() []int {
	out := []int{math.MinInt, math.MinInt + 1, math.MinInt32, math.MinInt32 - 1, -1 << 16, math.MaxInt32, math.MaxInt32 + 1, math.MaxInt - 1, math.MaxInt}
	for op := -300; op <= 300; op++ {
		out = append(out, op)
	}
	// A number whose lowest bits alone are an instruction's is none.
	for op := range api.Ops {
		for _, shift := range []int{8, 16, 32, 62} {
			out = append(out, op+1<<shift, op-1<<shift)
		}
	}
	return out
}

func isOfTable(op int) bool {
	for _, r := range chapterTable {
		if r.op == op {
			return true
		}
	}
	return false
}

func mustDo(t *testing.T, op int, a, b uint32) uint32 {
	t.Helper()
	x, err := Do(op, a, b)
	if err != api.OK {
		t.Fatalf("Do(%d, %#x, %#x): %v", op, a, b, err)
	}
	return x
}

// The tests go by the table: nothing may be missing from it.
func TestTableIsWhole(t *testing.T) {
	// Mul to Remu stand side by side at the end in package api, and are all that the table names.
	if len(chapterTable) != api.Ops-50 {
		t.Errorf("the table has %d", len(chapterTable))
	}
	for i, r := range chapterTable {
		if r.op != 50+i {
			t.Errorf("place %d: %d", i, r.op)
		}
	}
}

// P8.1
func TestHasIsOfTheTable(t *testing.T) {
	for _, op := range numbers() {
		if got := Has(op); got != isOfTable(op) {
			t.Errorf("Has(%d): %v", op, got)
		}
	}
}

// P8.1
func TestDoAnswersTheTable(t *testing.T) {
	for _, r := range chapterTable {
		pairs(func(a, b uint32) {
			x, err := Do(r.op, a, b)
			if want := r.answer(a, b); err != api.OK || x != want {
				t.Fatalf("Do(%d, %#x, %#x): %#x %v, want %#x", r.op, a, b, x, err, want)
			}
		})
	}
}

// P8.1, in products that are written out.
func TestProductsByHand(t *testing.T) {
	for _, c := range []struct {
		a, b                     uint32
		mul, mulh, mulhsu, mulhu uint32
	}{
		{0, 0, 0, 0, 0, 0},
		{0, 0xffffffff, 0, 0, 0, 0},
		{0xffffffff, 0, 0, 0, 0, 0},
		{1, 1, 1, 0, 0, 0},
		{6, 7, 42, 0, 0, 0},
		{0x10000, 0x10000, 0, 1, 1, 1},
		{0xffff, 0x10001, 0xffffffff, 0, 0, 0},
		{0xffffffff, 1, 0xffffffff, 0xffffffff, 0xffffffff, 0},
		{1, 0xffffffff, 0xffffffff, 0xffffffff, 0, 0},
		{0xffffffff, 3, 0xfffffffd, 0xffffffff, 0xffffffff, 2},
		{3, 0xffffffff, 0xfffffffd, 0xffffffff, 2, 2},
		{0xffffffff, 0xffffffff, 1, 0, 0xffffffff, 0xfffffffe},
		{0xfffffffe, 0xffffffff, 2, 0, 0xfffffffe, 0xfffffffd},
		{0x7fffffff, 0x7fffffff, 1, 0x3fffffff, 0x3fffffff, 0x3fffffff},
		{0x7fffffff, 0x80000000, 0x80000000, 0xc0000000, 0x3fffffff, 0x3fffffff},
		{0x80000000, 0x7fffffff, 0x80000000, 0xc0000000, 0xc0000000, 0x3fffffff},
		{0x80000000, 0x80000000, 0, 0x40000000, 0xc0000000, 0x40000000},
		{0x80000000, 0xffffffff, 0x80000000, 0, 0x80000000, 0x7fffffff},
		{0xffffffff, 0x80000000, 0x80000000, 0, 0xffffffff, 0x7fffffff},
		{0x80000000, 2, 0, 0xffffffff, 0xffffffff, 1},
		{2, 0x80000000, 0, 0xffffffff, 1, 1},
		{0x12345678, 0x9abcdef0, 0x242d2080, 0xf8cc93d6, 0x0b00ea4e, 0x0b00ea4e},
	} {
		for i, want := range []uint32{c.mul, c.mulh, c.mulhsu, c.mulhu} {
			if x, err := Do(api.Mul+i, c.a, c.b); err != api.OK || x != want {
				t.Errorf("Do(%d, %#x, %#x): %#x %v, want %#x", api.Mul+i, c.a, c.b, x, err, want)
			}
		}
		if high, low := Wide(c.a, c.b); high != c.mulhu || low != c.mul {
			t.Errorf("Wide(%#x, %#x): %#x %#x", c.a, c.b, high, low)
		}
	}
}

// P8.1, in quotients and rests that are written out, as signed numbers.
func TestSignedQuotientsByHand(t *testing.T) {
	for _, c := range []struct {
		a, b, quotient, rest int32
	}{
		{7, 2, 3, 1},
		{-7, 2, -3, -1},
		{7, -2, -3, 1},
		{-7, -2, 3, -1},
		{6, 3, 2, 0},
		{-6, 3, -2, 0},
		{6, -3, -2, 0},
		{-6, -3, 2, 0},
		{2, 7, 0, 2},
		{-2, 7, 0, -2},
		{2, -7, 0, 2},
		{-2, -7, 0, -2},
		{0, 5, 0, 0},
		{0, -5, 0, 0},
		{1, -1, -1, 0},
		{-1, -1, 1, 0},
		{math.MaxInt32, 1, math.MaxInt32, 0},
		{math.MaxInt32, -1, -math.MaxInt32, 0},
		{math.MaxInt32, math.MinInt32, 0, math.MaxInt32},
		{math.MinInt32, math.MaxInt32, -1, -1},
		{math.MinInt32, math.MinInt32, 1, 0},
		{math.MinInt32, 1, math.MinInt32, 0},
		{math.MinInt32, 2, -1 << 30, 0},
		{math.MinInt32, -2, 1 << 30, 0},
		{math.MinInt32, 3, -715827882, -2},
		{math.MinInt32 + 1, -1, math.MaxInt32, 0},
		{5, math.MinInt32, 0, 5},
		{-5, math.MinInt32, 0, -5},
		// What has no quotient of its own.
		{math.MinInt32, -1, math.MinInt32, 0},
		{0, 0, -1, 0},
		{5, 0, -1, 5},
		{-5, 0, -1, -5},
		{math.MaxInt32, 0, -1, math.MaxInt32},
		{math.MinInt32, 0, -1, math.MinInt32},
	} {
		a, b := uint32(c.a), uint32(c.b)
		if x, err := Do(api.Div, a, b); err != api.OK || x != uint32(c.quotient) {
			t.Errorf("%d by %d: quotient %d %v, want %d", c.a, c.b, int32(x), err, c.quotient)
		}
		if x, err := Do(api.Rem, a, b); err != api.OK || x != uint32(c.rest) {
			t.Errorf("%d by %d: rest %d %v, want %d", c.a, c.b, int32(x), err, c.rest)
		}
	}
}

// P8.1, in quotients and rests that are written out, as numbers.
func TestQuotientsByHand(t *testing.T) {
	for _, c := range []struct {
		a, b, quotient, rest uint32
	}{
		{7, 2, 3, 1},
		{6, 3, 2, 0},
		{2, 7, 0, 2},
		{0, 5, 0, 0},
		{0xfffffff9, 2, 0x7ffffffc, 1},
		{0xffffffff, 1, 0xffffffff, 0},
		{0xffffffff, 0xffffffff, 1, 0},
		{0xffffffff, 0xfffffffe, 1, 1},
		{0xfffffffe, 0xffffffff, 0, 0xfffffffe},
		{0xffffffff, 0x80000000, 1, 0x7fffffff},
		{0x80000000, 0xffffffff, 0, 0x80000000},
		{0x80000000, 0x7fffffff, 1, 1},
		{0x80000000, 3, 0x2aaaaaaa, 2},
		// What has no quotient of its own.
		{0, 0, 0xffffffff, 0},
		{5, 0, 0xffffffff, 5},
		{0x7fffffff, 0, 0xffffffff, 0x7fffffff},
		{0x80000000, 0, 0xffffffff, 0x80000000},
		{0xffffffff, 0, 0xffffffff, 0xffffffff},
	} {
		if x, err := Do(api.Divu, c.a, c.b); err != api.OK || x != c.quotient {
			t.Errorf("%#x by %#x: quotient %#x %v, want %#x", c.a, c.b, x, err, c.quotient)
		}
		if x, err := Do(api.Remu, c.a, c.b); err != api.OK || x != c.rest {
			t.Errorf("%#x by %#x: rest %#x %v, want %#x", c.a, c.b, x, err, c.rest)
		}
	}
}

// P8.1
func TestByNought(t *testing.T) {
	for _, a := range append(edges(), mixed(4000)...) {
		for _, op := range []int{api.Div, api.Divu} {
			if x := mustDo(t, op, a, 0); x != 0xffffffff {
				t.Errorf("Do(%d, %#x, 0): %#x", op, a, x)
			}
		}
		for _, op := range []int{api.Rem, api.Remu} {
			if x := mustDo(t, op, a, 0); x != a {
				t.Errorf("Do(%d, %#x, 0): %#x", op, a, x)
			}
		}
	}
}

// P8.1
func TestDoOfOthersIsErrOp(t *testing.T) {
	for _, op := range numbers() {
		if isOfTable(op) {
			continue
		}
		for _, a := range []uint32{0, 1, 5, 0x7fffffff, 0x80000000, 0xffffffff} {
			for _, b := range []uint32{0, 1, 5, 0x7fffffff, 0x80000000, 0xffffffff} {
				if x, err := Do(op, a, b); err != api.ErrOp || x != 0 {
					t.Fatalf("Do(%d, %#x, %#x): %#x %v", op, a, b, x, err)
				}
			}
		}
	}
}

// P8.1
func TestWideIsTheWholeProduct(t *testing.T) {
	pairs(func(a, b uint32) {
		high, low := Wide(a, b)
		product := times(number(a), number(b))
		if high != bitsFrom(32, product) || low != bitsFrom(0, product) {
			t.Fatalf("Wide(%#x, %#x): %#x %#x, want %x", a, b, high, low, product)
		}
	})
}

// P8.2
func TestQuotientTimesAndRestAreA(t *testing.T) {
	for _, c := range []struct{ quotient, rest int }{{api.Divu, api.Remu}, {api.Div, api.Rem}} {
		pairs(func(a, b uint32) {
			q, r := mustDo(t, c.quotient, a, b), mustDo(t, c.rest, a, b)
			if back := mustDo(t, api.Mul, q, b) + r; back != a {
				t.Fatalf("%d, %d of %#x by %#x: %#x and %#x, together %#x", c.quotient, c.rest, a, b, q, r, back)
			}
		})
	}
}

// P8.2: as numbers, too, and not by their rest alone, where b is not 0.
func TestQuotientTimesAndRestAreANumber(t *testing.T) {
	pairs(func(a, b uint32) {
		if b == 0 {
			return
		}
		whole := times(number(mustDo(t, api.Divu, a, b)), number(b))
		if whole.Add(whole, number(mustDo(t, api.Remu, a, b))).Cmp(number(a)) != 0 {
			t.Fatalf("%#x by %#x as numbers: %v", a, b, whole)
		}
		if a == 1<<31 && b == 1<<32-1 {
			return // 2^31 is no signed number: the quotient is only right by its rest.
		}
		whole = times(signedNumber(mustDo(t, api.Div, a, b)), signedNumber(b))
		if whole.Add(whole, signedNumber(mustDo(t, api.Rem, a, b))).Cmp(signedNumber(a)) != 0 {
			t.Fatalf("%#x by %#x as signed numbers: %v", a, b, whole)
		}
	})
}

// P8.2
func TestRestIsLess(t *testing.T) {
	pairs(func(a, b uint32) {
		if b == 0 {
			return
		}
		if r := mustDo(t, api.Remu, a, b); r >= b {
			t.Fatalf("%#x by %#x: rest %#x", a, b, r)
		}
		r := signedNumber(mustDo(t, api.Rem, a, b))
		if r.CmpAbs(signedNumber(b)) >= 0 {
			t.Fatalf("%#x by %#x as signed numbers: rest %v", a, b, r)
		}
		if r.Sign() != 0 && r.Sign() != signedNumber(a).Sign() {
			t.Fatalf("%#x by %#x as signed numbers: rest %v has not the sign of a", a, b, r)
		}
	})
}
