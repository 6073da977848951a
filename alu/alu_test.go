package alu

import (
	"math"
	"slices"
	"testing"

	"mimesis/api"
)

// row is a line of the chapter's first table: the instructions of it, the one of two registers last, and what they answer.
type row struct {
	ops    []int
	answer func(a, b uint32) uint32
}

// chapterTable is the chapter's first table, reckoned in numbers of 64 bits, without the machine's own shifts and signs.
var chapterTable = []row{
	{[]int{api.Addi, api.Add}, func(a, b uint32) uint32 { return rest(int64(a) + int64(b)) }},
	{[]int{api.Sub}, func(a, b uint32) uint32 { return rest(int64(a) - int64(b)) }},
	{[]int{api.Slti, api.Slt}, func(a, b uint32) uint32 { return map[bool]uint32{true: 1}[signed(a) < signed(b)] }},
	{[]int{api.Sltiu, api.Sltu}, func(a, b uint32) uint32 { return map[bool]uint32{true: 1}[int64(a) < int64(b)] }},
	{[]int{api.Xori, api.Xor}, func(a, b uint32) uint32 { return bitwise(a, b, 1, 1) }},
	{[]int{api.Ori, api.Or}, func(a, b uint32) uint32 { return bitwise(a, b, 1, 2) }},
	{[]int{api.Andi, api.And}, func(a, b uint32) uint32 { return bitwise(a, b, 2, 2) }},
	{[]int{api.Slli, api.Sll}, func(a, b uint32) uint32 { return rest(int64(a) * power(b)) }},
	{[]int{api.Srli, api.Srl}, func(a, b uint32) uint32 { return rest(int64(a) / power(b)) }},
	{[]int{api.Srai, api.Sra}, func(a, b uint32) uint32 { return rest(floor(signed(a), power(b))) }},
}

// branches is what the chapter says of each branch.
var branches = []struct {
	op       int
	opposite int
	taken    func(a, b uint32) bool
}{
	{api.Beq, api.Bne, func(a, b uint32) bool { return int64(a) == int64(b) }},
	{api.Bne, api.Beq, func(a, b uint32) bool { return int64(a) != int64(b) }},
	{api.Blt, api.Bge, func(a, b uint32) bool { return signed(a) < signed(b) }},
	{api.Bge, api.Blt, func(a, b uint32) bool { return signed(a) >= signed(b) }},
	{api.Bltu, api.Bgeu, func(a, b uint32) bool { return int64(a) < int64(b) }},
	{api.Bgeu, api.Bltu, func(a, b uint32) bool { return int64(a) >= int64(b) }},
}

// rest answers n's rest by 2^32, which is none below 0.
func rest(n int64) uint32 {
	const all = int64(1) << 32
	return uint32((n%all + all) % all)
}

func signed(w uint32) int64 {
	if w >= 1<<31 {
		return int64(w) - 1<<32
	}
	return int64(w)
}

// power answers 2^s, s being b's rest by 32.
func power(b uint32) int64 {
	p := int64(1)
	for range b % 32 {
		p *= 2
	}
	return p
}

// floor answers n divided by d, rounded down; d is above 0.
func floor(n, d int64) int64 {
	q := n / d
	if q*d > n {
		q--
	}
	return q
}

// bitwise answers the word whose bits are set where from low to high of both words' bits are: Xor 1 to 1, Or 1 to 2, And 2 to 2.
func bitwise(a, b uint32, low, high uint32) uint32 {
	var w, place uint32 = 0, 1
	for range 32 {
		if n := a%2 + b%2; n >= low && n <= high {
			w += place
		}
		a, b, place = a/2, b/2, place*2
	}
	return w
}

// edges are the words at which an answer could turn, and their neighbours.
func edges() []uint32 {
	out := []uint32{0x55555555, 0xaaaaaaaa, 0x0f0f0f0f, 0xfffff800, 0x7ff, 0x12345678, 0x87654321}
	for i := range 32 {
		p := uint32(1) << i
		out = append(out, p-1, p, p+1, -p, -p-1)
	}
	for i := range uint32(70) {
		out = append(out, i, -i)
	}
	slices.Sort(out)
	return slices.Compact(out)
}

// mixed answers n words with all kinds of bits, the same ones each time.
func mixed(n int) []uint32 {
	out := make([]uint32, 0, n)
	x := uint64(1)
	for range n {
		x = x*6364136223846793005 + 1442695040888963407
		out = append(out, uint32(x>>32))
	}
	return out
}

// pairs calls do with each edge in each place beside each other, and with mixed words beside one another and beside edges.
func pairs(do func(a, b uint32)) {
	e := edges()
	for _, a := range e {
		for _, b := range e {
			do(a, b)
		}
	}
	m := mixed(4000)
	for i, a := range m {
		b := m[(i+1)%len(m)]
		do(a, b)
		do(a, a)
		do(a, a+1)
		do(a+1, a)
		do(a, a^1<<31)
		do(a, e[i%len(e)])
		do(e[i%len(e)], a)
	}
}

// numbers are every instruction's, those about them, and others up to the ends of int.
func numbers() []int {
	out := []int{math.MinInt, math.MinInt + 1, math.MinInt32, math.MinInt32 - 1, -1 << 16, math.MaxInt32, math.MaxInt32 + 1, math.MaxInt - 1, math.MaxInt}
	for op := -300; op <= 300; op++ {
		out = append(out, op)
	}
	// A number whose lowest bits alone are an instruction's is none.
	for op := range api.Ops {
		for _, shift := range []int{8, 16, 32, 62} {
			out = append(out, op+1<<shift, op-1<<shift)
		}
	}
	return out
}

// plainOf answers the table's instruction of two registers, and whether op stands in the table.
func plainOf(op int) (int, bool) {
	for _, r := range chapterTable {
		if slices.Contains(r.ops, op) {
			return r.ops[len(r.ops)-1], true
		}
	}
	return 0, false
}

func isBranch(op int) bool {
	return op >= 5 && op <= 10
}

func mustDo(t *testing.T, op int, a, b uint32) uint32 {
	t.Helper()
	x, err := Do(op, a, b)
	if err != api.OK {
		t.Fatalf("Do(%d, %#x, %#x): %v", op, a, b, err)
	}
	return x
}

func mustTake(t *testing.T, op int, a, b uint32) bool {
	t.Helper()
	is, err := Taken(op, a, b)
	if err != api.OK {
		t.Fatalf("Taken(%d, %#x, %#x): %v", op, a, b, err)
	}
	return is
}

// The tests go by the table and by branches: nothing may be missing from them.
func TestTablesAreWhole(t *testing.T) {
	var ops []int
	for _, r := range chapterTable {
		ops = append(ops, r.ops...)
	}
	slices.Sort(ops)
	// Addi to And stand side by side in package api, and are all that the first table names.
	var want []int
	for op := 19; op <= 37; op++ {
		want = append(want, op)
	}
	if !slices.Equal(ops, want) {
		t.Errorf("the table has %v", ops)
	}
	for i, c := range branches {
		if c.op != 5+i {
			t.Errorf("branch %d: %d", i, c.op)
		}
	}
}

// P7.1
func TestHasIsOfTheTable(t *testing.T) {
	for _, op := range numbers() {
		_, want := plainOf(op)
		if got := Has(op); got != want {
			t.Errorf("Has(%d): %v", op, got)
		}
	}
}

// P7.1
func TestDoAnswersTheTable(t *testing.T) {
	for _, r := range chapterTable {
		for _, op := range r.ops {
			pairs(func(a, b uint32) {
				x, err := Do(op, a, b)
				if want := r.answer(a, b); err != api.OK || x != want {
					t.Fatalf("Do(%d, %#x, %#x): %#x %v, want %#x", op, a, b, x, err, want)
				}
			})
		}
	}
}

// P7.1, in numbers that are written out.
func TestDoByHand(t *testing.T) {
	for _, c := range []struct {
		op         int
		a, b, want uint32
	}{
		{api.Sra, 0x80000000, 4, 0xf8000000},
		{api.Slt, 0xffffffff, 0, 1},
		{api.Add, 0xffffffff, 1, 0},
		{api.Add, 0x7fffffff, 1, 0x80000000},
		{api.Addi, 0x80000000, 0x80000000, 0},
		{api.Addi, 0xffffffff, 0xffffffff, 0xfffffffe},
		{api.Sub, 0, 1, 0xffffffff},
		{api.Sub, 0x80000000, 1, 0x7fffffff},
		{api.Sub, 0, 0x80000000, 0x80000000},
		{api.Sub, 5, 3, 2},
		{api.Slt, 0, 0xffffffff, 0},
		{api.Slt, 0x80000000, 0x7fffffff, 1},
		{api.Slti, 0x7fffffff, 0x80000000, 0},
		{api.Slti, 7, 7, 0},
		{api.Slti, 0xfffffffe, 0xffffffff, 1},
		{api.Sltu, 0xffffffff, 0, 0},
		{api.Sltu, 0, 0xffffffff, 1},
		{api.Sltu, 0x7fffffff, 0x80000000, 1},
		{api.Sltiu, 0x80000000, 0x7fffffff, 0},
		{api.Sltiu, 7, 7, 0},
		{api.Sltiu, 0, 1, 1},
		{api.Xor, 0xff00ff00, 0x0ff00ff0, 0xf0f0f0f0},
		{api.Xori, 0x12345678, 0xffffffff, 0xedcba987},
		{api.Or, 0xff00ff00, 0x0ff00ff0, 0xfff0fff0},
		{api.Ori, 0x12345678, 0, 0x12345678},
		{api.And, 0xff00ff00, 0x0ff00ff0, 0x0f000f00},
		{api.Andi, 0x12345678, 0xffffffff, 0x12345678},
		{api.Sll, 0x80000001, 0, 0x80000001},
		{api.Sll, 0x80000001, 1, 2},
		{api.Sll, 3, 31, 0x80000000},
		{api.Slli, 3, 32, 3},
		{api.Slli, 3, 33, 6},
		{api.Slli, 1, 0xffffffff, 0x80000000},
		{api.Sll, 1, 0x80000000, 1},
		{api.Srl, 0x80000001, 0, 0x80000001},
		{api.Srl, 0x80000001, 1, 0x40000000},
		{api.Srl, 0xffffffff, 31, 1},
		{api.Srli, 0x80000000, 32, 0x80000000},
		{api.Srli, 0x80000000, 33, 0x40000000},
		{api.Srli, 0x7fffffff, 0xffffffff, 0},
		{api.Sra, 0x80000001, 0, 0x80000001},
		{api.Sra, 0x80000001, 1, 0xc0000000},
		{api.Sra, 0xffffffff, 31, 0xffffffff},
		{api.Sra, 0x7fffffff, 31, 0},
		{api.Srai, 0x80000000, 32, 0x80000000},
		{api.Srai, 0x80000000, 33, 0xc0000000},
		{api.Srai, 0x7fffffff, 1, 0x3fffffff},
		{api.Srai, 0xfffffffd, 1, 0xfffffffe},
		{api.Srai, 0x80000000, 0xffffffff, 0xffffffff},
	} {
		if x, err := Do(c.op, c.a, c.b); err != api.OK || x != c.want {
			t.Errorf("Do(%d, %#x, %#x): %#x %v, want %#x", c.op, c.a, c.b, x, err, c.want)
		}
	}
}

// P7.1
func TestDoOfOthersIsErrOp(t *testing.T) {
	for _, op := range numbers() {
		if _, ok := plainOf(op); ok {
			continue
		}
		for _, a := range []uint32{0, 1, 5, 0x7fffffff, 0x80000000, 0xffffffff} {
			for _, b := range []uint32{0, 1, 5, 0x7fffffff, 0x80000000, 0xffffffff} {
				if x, err := Do(op, a, b); err != api.ErrOp || x != 0 {
					t.Fatalf("Do(%d, %#x, %#x): %#x %v", op, a, b, x, err)
				}
			}
		}
	}
}

// P7.1
func TestTakenAnswersTheChapter(t *testing.T) {
	for _, c := range branches {
		pairs(func(a, b uint32) {
			is, err := Taken(c.op, a, b)
			if want := c.taken(a, b); err != api.OK || is != want {
				t.Fatalf("Taken(%d, %#x, %#x): %v %v", c.op, a, b, is, err)
			}
		})
	}
}

// P7.1, written out: which of Beq, Bne, Blt, Bge, Bltu, Bgeu are taken.
func TestTakenByHand(t *testing.T) {
	for _, c := range []struct {
		a, b uint32
		want [6]bool
	}{
		{7, 7, [6]bool{true, false, false, true, false, true}},
		{0x80000000, 0x80000000, [6]bool{true, false, false, true, false, true}},
		{7, 8, [6]bool{false, true, true, false, true, false}},
		{8, 7, [6]bool{false, true, false, true, false, true}},
		{0xfffffffe, 0xffffffff, [6]bool{false, true, true, false, true, false}},
		{0xffffffff, 0xfffffffe, [6]bool{false, true, false, true, false, true}},
		{0xffffffff, 0, [6]bool{false, true, true, false, false, true}},
		{0, 0xffffffff, [6]bool{false, true, false, true, true, false}},
		{0x80000000, 0x7fffffff, [6]bool{false, true, true, false, false, true}},
		{0x7fffffff, 0x80000000, [6]bool{false, true, false, true, true, false}},
	} {
		for i, want := range c.want {
			if is, err := Taken(api.Beq+i, c.a, c.b); err != api.OK || is != want {
				t.Errorf("Taken(%d, %#x, %#x): %v %v", api.Beq+i, c.a, c.b, is, err)
			}
		}
	}
}

// P7.1
func TestTakenOfOthersIsErrOp(t *testing.T) {
	for _, op := range numbers() {
		if isBranch(op) {
			continue
		}
		for _, a := range []uint32{0, 1, 0x7fffffff, 0x80000000, 0xffffffff} {
			for _, b := range []uint32{0, 1, 0x7fffffff, 0x80000000, 0xffffffff} {
				if is, err := Taken(op, a, b); err != api.ErrOp || is {
					t.Fatalf("Taken(%d, %#x, %#x): %v %v", op, a, b, is, err)
				}
			}
		}
	}
}

// P7.2
func TestPlainIsOfTwoRegisters(t *testing.T) {
	for _, op := range numbers() {
		want, _ := plainOf(op)
		if got := Plain(op); got != want {
			t.Errorf("Plain(%d): %d, want %d", op, got, want)
		}
	}
}

// P7.2
func TestPlainReckonsTheSame(t *testing.T) {
	for op := range api.Ops {
		if !Has(op) {
			continue
		}
		plain := Plain(op)
		if Plain(plain) != plain {
			t.Errorf("Plain(%d) is not plain itself", op)
		}
		pairs(func(a, b uint32) {
			if mustDo(t, op, a, b) != mustDo(t, plain, a, b) {
				t.Fatalf("%d and %d differ at %#x, %#x", op, plain, a, b)
			}
		})
	}
}

// P7.3
func TestSubUndoesAdd(t *testing.T) {
	for _, add := range []int{api.Add, api.Addi} {
		pairs(func(a, b uint32) {
			if x := mustDo(t, api.Sub, mustDo(t, add, a, b), b); x != a {
				t.Fatalf("%#x and %#x, less the second: %#x", a, b, x)
			}
			if x := mustDo(t, add, mustDo(t, api.Sub, a, b), b); x != a {
				t.Fatalf("%#x less %#x, and the second again: %#x", a, b, x)
			}
		})
	}
}

// P7.3
func TestXorUndoesItself(t *testing.T) {
	for _, xor := range []int{api.Xor, api.Xori} {
		pairs(func(a, b uint32) {
			if x := mustDo(t, xor, mustDo(t, xor, a, b), b); x != a {
				t.Fatalf("%#x by %#x twice: %#x", a, b, x)
			}
		})
	}
}

// P7.3
func TestOneOfOppositesIsTaken(t *testing.T) {
	for _, c := range branches {
		pairs(func(a, b uint32) {
			if mustTake(t, c.op, a, b) == mustTake(t, c.opposite, a, b) {
				t.Fatalf("%d and %d at %#x, %#x", c.op, c.opposite, a, b)
			}
		})
	}
}
