package asm

import (
	"fmt"
	"slices"
	"strings"
	"testing"

	"mimesis/api"
	"mimesis/decode"
	"mimesis/disasm"
	"mimesis/encode"
)

const (
	wordMret  = 0x30200073
	wordEcall = 0x00000073
)

// jal and bne are the words of "jal x0, n" and "bne x1, x2, n".
func jal(t *testing.T, n int) uint32 {
	t.Helper()
	return wordOf(t, api.Instr{Op: api.Jal, Imm: uint32(n)})
}

func bne(t *testing.T, n int) uint32 {
	t.Helper()
	return wordOf(t, api.Instr{Op: api.Bne, Rs1: 1, Rs2: 2, Imm: uint32(n)})
}

func wordOf(t *testing.T, i api.Instr) uint32 {
	t.Helper()
	w, err := encode.Encode(i)
	if err != api.OK {
		t.Fatalf("the test has %+v, which has no word", i)
	}
	return w
}

// P6.2
func TestProgramNamed(t *testing.T) {
	for _, c := range []struct {
		s    string
		want []uint32
	}{
		{"", nil},
		{"\n", nil},
		{"\n\n\n", nil},
		{" ", nil},
		{"#", nil},
		{" \t# nothing \xff\n\t", nil},
		{"a:", nil},
		{"a:\n", nil},
		{"a:\nb:\n", nil},
		{"mret", []uint32{wordMret}},
		{"mret\n", []uint32{wordMret}},
		{"mret\n\n", []uint32{wordMret}},
		{"\nmret", []uint32{wordMret}},
		{"\n\t\n # a\nmret\n\n  ecall # b\n", []uint32{wordMret, wordEcall}},
		{"mret\necall", []uint32{wordMret, wordEcall}},
		{"mret # ecall\necall", []uint32{wordMret, wordEcall}},
		{"a: mret", []uint32{wordMret}},
		{"a:mret", []uint32{wordMret}},
		{" a\t:\tmret", []uint32{wordMret}},
		{"a: # mret", nil},
		{"mret: mret", []uint32{wordMret}},
		{"addi x1, x0, 10\nsw x5, 8(x2)", []uint32{0x00a00093, 0x00512423}},
		{"loop: addi x1, x1, -1\nbne x1, x0, loop", []uint32{0xfff08093, 0xfe009ee3}},
		{".word 0", []uint32{0}},
		{".word 1\n.word -1", []uint32{1, 0xffffffff}},
		{".word 4294967295\n.word 2147483648\n.word -2147483648", []uint32{0xffffffff, 0x80000000, 0x80000000}},
		{".word 0xdeadBEEF\n.word -0x10\n.word 0000000007", []uint32{0xdeadbeef, 0xfffffff0, 7}},
		{"a: .word 5", []uint32{5}},
		{"a:.word 0x30200073", []uint32{wordMret}},
		{"\t.word\t5#", []uint32{5}},
	} {
		wantProgram(t, c.s, c.want...)
	}
}

// P6.2
func TestLabels(t *testing.T) {
	for _, c := range []struct {
		s    string
		want []uint32
	}{
		{"a: jal x0, a", []uint32{jal(t, 0)}},
		{"a:\njal x0, a", []uint32{jal(t, 0)}},
		{"jal x0, a\na:", []uint32{jal(t, 4)}},
		{"jal x0, a\n\n\na:\n\n", []uint32{jal(t, 4)}},
		{"jal x0, a\na: mret", []uint32{jal(t, 4), wordMret}},
		{"jal x0, a\na:\n\n# b\nmret", []uint32{jal(t, 4), wordMret}},
		{"jal x0, a\nmret\na: mret", []uint32{jal(t, 8), wordMret, wordMret}},
		{"jal x0, a\n.word 5\na: .word 6", []uint32{jal(t, 8), 5, 6}},
		{"a: mret\njal x0, a", []uint32{wordMret, jal(t, -4)}},
		{"a: .word 7\n.word 8\njal x0, a", []uint32{7, 8, jal(t, -8)}},
		{"a:\nb: mret\njal x0, a\njal x0, b", []uint32{wordMret, jal(t, -4), jal(t, -8)}},
		{"a:\nb:\njal x0, a\njal x0, b", []uint32{jal(t, 0), jal(t, -4)}},
		{"bne x1, x2, b\na: bne x1, x2, a\nb: bne x1, x2, a", []uint32{bne(t, 8), bne(t, 0), bne(t, -4)}},
		{"bne x1, x2, -4\njal x0, 0x10", []uint32{bne(t, -4), jal(t, 16)}},
		{"A: mret\na: mret\njal x0, A\njal x0, a", []uint32{wordMret, wordMret, jal(t, -8), jal(t, -8)}},
		{"x1: mret\nbne x1, x2, x1", []uint32{wordMret, bne(t, -4)}},
		{"mret: mret\njal x0, mret", []uint32{wordMret, jal(t, -4)}},
		{"_: mret\njal x0, _", []uint32{wordMret, jal(t, -4)}},
		{"_1.a-b: mret\njal x0, _1.a-b", []uint32{wordMret, jal(t, -4)}},
		{"a-: mret\njal x0, a-\njal x0, a_\na_:", []uint32{wordMret, jal(t, -4), jal(t, 4)}},
		{"fence.i: mret\njal x0, fence.i", []uint32{wordMret, jal(t, -4)}},
		{"illegal: mret\njal x0, illegal", []uint32{wordMret, jal(t, -4)}},
		{"jal x0, a # b\na: # c", []uint32{jal(t, 4)}},
	} {
		wantProgram(t, c.s, c.want...)
	}
}

// P6.2: every branch and the jump may name a label.
func TestEveryInstructionThatMayNameALabel(t *testing.T) {
	for _, r := range chapterRows(t) {
		at := slices.IndexFunc(r.asked, func(a string) bool { return a == "J" || a == "B" })
		if at < 0 {
			continue
		}
		f := r.middle()
		pieces := r.texts(f)
		pieces[at] = "here"
		s := r.line(pieces)
		f[r.asked[at]] = -8
		wantProgram(t, "here: mret\nmret\n"+s, wordMret, wordMret, wordOf(t, r.instr(f)))
		f[r.asked[at]] = 12
		wantProgram(t, s+"\nmret\nmret\nhere:", wordOf(t, r.instr(f)), wordMret, wordMret)
		wantNoProgram(t, "mret\n"+s, 2, api.ErrForm)
	}
}

// P6.2
func TestProgramIsNone(t *testing.T) {
	for _, s := range []string{
		":", ": mret", "a", "a a:", "a b: mret", "a::", "a: :", "a: b: mret", "a: b:", "a: b", "a, mret", "a mret", "a: a: mret",
		"5: mret", "-a: mret", ".a: mret", ".word: mret", ".word:", "0x5: mret", ",: mret", "(a): mret", "é: mret",
		"mret mret", "mret: mret mret", "mret;", "mret a:", "mret, a:",
		"illegal", "a: illegal", "illegal: illegal", "illegal 0", "illegal x1", "illegal # mret", ".word illegal",
		".word", ".word 5 6", ".word 5, 6", ".word, 5", ".word a", "a: .word a", ".word x1", ".word -", ".word 0x", ".word +1", ".word 4294967296", ".word -2147483649", ".word 00000000001", ".word 0x000000001",
		".word mret", ".word .word 5", ".Word 5", ".WORD 5", "word 5", "..word 5", ".wor 5", "mret .word 5", ".word (5)", ".word 5:", ".word :",
		"a: foo", "foo", "a: mret 5", "a: addi x1, x1", "a: addi x1, x1, a", "a: lui x1, a", "a: lw x1, a(x2)", "a: lw x1, 0(a)", "a: csrrw x1, a, x2", "a: slli x1, x2, a", "a: add x1, x2, a", "a: jal a, 4", "a: jal a", "a: jal x0, a, a", "a: jal x0, a:", "a: jal x0, (a)", "a: jal x0 a", "a: beq x1, a, 4", "a: beq x1, a", "a: jalr x0, a",
		"lui x1, 1048576", "lui x1, -1", "mret\r", "mret\x00", "\xff", "\x80", "!", "mret \x0b", "\"\"",
	} {
		wantNoProgram(t, s, 1, api.ErrForm)
		wantNoProgram(t, s+"\n", 1, api.ErrForm)
		wantNoProgram(t, "mret\n\n"+s+"\nmret", 3, api.ErrForm)
	}
}

// P6.2
func TestLabelTwiceOrNowhere(t *testing.T) {
	for _, c := range []struct {
		s    string
		line int
	}{
		{"a:\na:", 2},
		{"a: mret\na: mret", 2},
		{"a: mret\n\nb: mret\na:", 4},
		{"a:\nb:\nb:\na:", 3},
		{"a: jal x0, a\na: mret", 2},
		{"a:\na:\na:", 2},
		{"jal x0, a\na:\na:", 3},
		{"jal x0, b", 1},
		{"mret\njal x0, b\njal x0, c", 2},
		{"a: jal x0, A", 1},
		{"a: jal x0, aa\nbne x1, x2, a", 1},
		{"a: jal x0, a\nbne x1, x2, _", 2},
		{"# b:\nbne x1, x2, b", 2},
		{"jal x0, mret\nmret", 1},
		{"jal x0, x1", 1},
	} {
		wantNoProgram(t, c.s, c.line, api.ErrForm)
	}
}

// P6.2: first what a line is by itself, of all lines; then what it names, of all lines.
func TestWhichLineIsWrong(t *testing.T) {
	for _, c := range []struct {
		s    string
		line int
		why  api.Errno
	}{
		{"addi x1, x1, 5000", 1, api.ErrOp},
		{"mret\naddi x1, x1, 5000", 2, api.ErrOp},
		{"addi x1, x1, 5000\naddi x1, x1, 2048", 1, api.ErrOp},
		{"mret\naddi x1, x1, 5000\nbad!", 3, api.ErrForm},
		{"jal x0, nowhere\nbad!", 2, api.ErrForm},
		{"bad!\nworse!", 1, api.ErrForm},
		{"jal x0, nowhere\naddi x1, x1, 5000", 1, api.ErrForm},
		{"addi x1, x1, 5000\njal x0, nowhere", 1, api.ErrOp},
		{"addi x1, x1, 5000\na:\na:", 3, api.ErrForm},
		{"jal x0, nowhere\na:\nmret\na: mret", 4, api.ErrForm},
		{"a:\na:\nbad!", 2, api.ErrForm},
		{"bad!\na:\na:", 1, api.ErrForm},
		{"jal x0, 3\nlui x1, 1048576", 2, api.ErrForm},
		{"slli x1, x1, 32\n.word 4294967296", 2, api.ErrForm},
		{"csrrw x1, 4096, x1\nadd x1, x2, x32", 2, api.ErrForm},
		{"a: addi x1, x1, 2048", 1, api.ErrOp},
		{"jal x0, 1", 1, api.ErrOp},
		{"jal x0, 0x100000", 1, api.ErrOp},
		{"bne x1, x2, 4096", 1, api.ErrOp},
		{"bne x1, x2, 3", 1, api.ErrOp},
		// No line is Illegal's, and it is so by itself.
		{"illegal", 1, api.ErrForm},
		{"illegal\n", 1, api.ErrForm},
		{"mret\na: illegal\njal x0, nowhere", 2, api.ErrForm},
		{"illegal\nbad!", 1, api.ErrForm},
		{"illegal\n@\n", 1, api.ErrForm},
		{"illegal\na:\na:", 1, api.ErrForm},
		{"bad!\nillegal", 1, api.ErrForm},
		{"a:\na:\nillegal", 2, api.ErrForm},
		{"jal x0, nowhere\nillegal\n", 2, api.ErrForm},
		{"addi x1, x1, 5000\nillegal", 2, api.ErrForm},
		{"jal x0, illegal\nillegal", 2, api.ErrForm},
	} {
		wantNoProgram(t, c.s, c.line, c.why)
	}
}

// P6.2
func TestHowFarALabelMayBe(t *testing.T) {
	// k words stand between the branch and its label.
	ahead := func(name string, k int) string { return name + ", far\n" + strings.Repeat("mret\n", k) + "far:" }
	behind := func(name string, k int) string { return "far: " + strings.Repeat("mret\n", k) + name + ", far" }
	mrets := func(k int) []uint32 { return slices.Repeat([]uint32{wordMret}, k) }
	wantProgram(t, ahead("bne x1, x2", 1022), append([]uint32{bne(t, 4092)}, mrets(1022)...)...)
	wantNoProgram(t, ahead("bne x1, x2", 1023), 1, api.ErrOp)
	wantNoProgram(t, ahead("bne x1, x2", 2047), 1, api.ErrOp)
	wantNoProgram(t, "\n"+ahead("bne x1, x2", 4095), 2, api.ErrOp)
	wantProgram(t, behind("bne x1, x2", 1024), append(mrets(1024), bne(t, -4096))...)
	wantNoProgram(t, behind("bne x1, x2", 1025), 1026, api.ErrOp)
	wantNoProgram(t, behind("bne x1, x2", 2048), 2049, api.ErrOp)
	// No program is so long that a jump could not reach all of it.
	wantProgram(t, ahead("jal x0", 4095), append([]uint32{jal(t, 16384)}, mrets(4095)...)...)
	wantProgram(t, behind("jal x0", 4095), append(mrets(4095), jal(t, -16380))...)
	wantNoProgram(t, ahead("bne x1, x2", 1023)+"\njal x0, nowhere", 1, api.ErrOp)
	wantNoProgram(t, "jal x0, nowhere\n"+ahead("bne x1, x2", 1023), 1, api.ErrForm)
	wantNoProgram(t, ahead("bne x1, x2", 1023)+"\nfar:", 1026, api.ErrForm)
}

// P6.2
func TestHowManyWords(t *testing.T) {
	full := strings.Repeat("mret\n", 4096)
	words := slices.Repeat([]uint32{wordMret}, 4096)
	wantProgram(t, full, words...)
	wantProgram(t, strings.TrimSuffix(full, "\n"), words...)
	wantProgram(t, full+"\n# more\nend:\nagain:", words...)
	wantProgram(t, strings.Repeat("\n.word 9", 4096), slices.Repeat([]uint32{9}, 4096)...)
	for _, more := range []string{"mret", "mret\n", ".word 5", "a: mret", "a: .word 5", "jal x0, nowhere", "addi x1, x1, 5000"} {
		wantNoProgram(t, full+more, 4097, api.ErrLong)
		wantNoProgram(t, full+"\n\n"+more, 4099, api.ErrLong)
		wantNoProgram(t, full+more+"\nbad!", 4097, api.ErrLong)
	}
	// Ahead of what lines name, but behind a line's form and its label.
	wantNoProgram(t, "jal x0, nowhere\n"+full, 4097, api.ErrLong)
	wantNoProgram(t, "addi x1, x1, 5000\n"+full, 4097, api.ErrLong)
	wantNoProgram(t, full+"foo", 4097, api.ErrForm)
	wantNoProgram(t, full+"illegal", 4097, api.ErrForm)
	wantNoProgram(t, full+"bad!\nmret", 4097, api.ErrForm)
	wantNoProgram(t, "a:"+full+"a: mret", 4097, api.ErrForm)
	wantNoProgram(t, "a:"+full+"a:\nmret", 4097, api.ErrForm)
	wantNoProgram(t, "a:"+full+"mret\na:", 4097, api.ErrLong)
}

// P6.2
func TestHowManyBytes(t *testing.T) {
	for _, c := range []struct {
		s    string
		want []uint32
	}{
		{"mret\n", []uint32{wordMret}},
		{"mret\n#", []uint32{wordMret}},
		{"a: .word 5\n", []uint32{5}},
	} {
		full := c.s + strings.Repeat(" ", api.MaxText-len(c.s))
		wantProgram(t, full, c.want...)
		wantNoProgram(t, full+" ", 0, api.ErrLong)
		wantNoProgram(t, full+"\n", 0, api.ErrLong)
	}
	lines := strings.Repeat("\n", api.MaxText)
	wantProgram(t, lines)
	wantNoProgram(t, lines+"\n", 0, api.ErrLong)
	wantNoProgram(t, lines[1:]+"!", api.MaxText, api.ErrForm)
	// Too many bytes come ahead of all that lines may have wrong.
	wantNoProgram(t, "bad!"+lines, 0, api.ErrLong)
	wantNoProgram(t, strings.Repeat("mret\n", 20000), 0, api.ErrLong)
	wantNoProgram(t, strings.Repeat("\xff", api.MaxText+1), 0, api.ErrLong)
	wantNoProgram(t, strings.Repeat("\xff", api.MaxText), 1, api.ErrForm)
	long := strings.Repeat("a", 20000)
	wantProgram(t, "jal x0, "+long+"\n"+long+"b:\n"+long+":mret", jal(t, 4), wordMret)
}

// P6.2: a program of many labels, reckoned by lists instead of by names.
func TestManyLabels(t *testing.T) {
	const words = 900
	var b strings.Builder
	var want []uint32
	for k, x := range mixed(words) {
		if k%3 == 0 {
			fmt.Fprintf(&b, "# %d\nl%d:\n", k, k)
		}
		to := int(x % words)
		fmt.Fprintf(&b, "w%d: ", k)
		switch x >> 30 {
		case 0:
			fmt.Fprintf(&b, "jal x0, w%d\n", to)
			want = append(want, jal(t, 4*(to-k)))
		case 1:
			fmt.Fprintf(&b, "bne x1, x2, l%d\n\n", to-to%3)
			want = append(want, bne(t, 4*(to-to%3-k)))
		case 2:
			fmt.Fprintf(&b, ".word %d # w%d:\n", x, k)
			want = append(want, x)
		default:
			fmt.Fprintf(&b, "addi x1, x0, %d\n", x&0x7ff)
			want = append(want, wordOf(t, api.Instr{Op: api.Addi, Rd: 1, Imm: x & 0x7ff}))
		}
	}
	wantProgram(t, b.String(), want...)
}

// P6.2: answers share no memory, and no call knows of another's labels.
func TestProgramsAreNew(t *testing.T) {
	first, _, _ := Program("a: mret\njal x0, a")
	clear(first)
	wantProgram(t, "a: mret\njal x0, a", wordMret, jal(t, -4))
	wantNoProgram(t, "jal x0, a", 1, api.ErrForm)
	pieces, _ := Pieces("a b")
	clear(pieces)
	if got, err := Pieces("a b"); err != api.OK || !slices.Equal(got, []string{"a", "b"}) {
		t.Errorf("a second Pieces shares memory with the first: %q, %v", got, err)
	}
}

// P6.3
func TestTextsAreReadAsTheyWere(t *testing.T) {
	for _, r := range chapterRows(t) {
		for _, f := range r.edges() {
			i := r.instr(f)
			s, err := disasm.Text(i)
			if err != api.OK {
				t.Fatalf("Text(%+v): %v", i, err)
			}
			wantLine(t, s, i)
			wantProgram(t, s, wordOf(t, i))
		}
	}
}

// someWords are words of which each instruction has some, and some that are none's.
func someWords(t *testing.T) []uint32 {
	out := []uint32{0, 1, 0xffffffff, 0x7fffffff, 0x80000000, 4096}
	mix := mixed(60000)
	for k, r := range chapterRows(t) {
		match, err := encode.Match(r.op)
		if err != api.OK {
			t.Fatalf("Match(%d): %v", r.op, err)
		}
		for _, x := range mix[500*k : 500*k+500] {
			out = append(out, match|x&^0xfe00707f, match|x&^0x707f, match|x&^0x7f, match)
		}
	}
	return append(out, mix...)
}

// P6.3
func TestWordsAreReadAsTheyWere(t *testing.T) {
	legal := 0
	for _, w := range someWords(t) {
		s := disasm.Word(w)
		wantProgram(t, s, w)
		if decode.Legal(w) {
			legal++
			wantLine(t, s, decode.Decode(w))
		} else {
			wantNoLine(t, s, api.ErrForm)
		}
	}
	if legal < 50000 {
		t.Errorf("only %d of these words are legal", legal)
	}
}

// P6.3: as many at once as a text has room for.
func TestLinesAreReadAsTheyWere(t *testing.T) {
	wantProgram(t, disasm.Lines(nil))
	all := someWords(t)
	for len(all) > 0 {
		n := min(len(all), 2500)
		wantProgram(t, disasm.Lines(all[:n]), all[:n]...)
		all = all[n:]
	}
	full := slices.Repeat([]uint32{wordMret, wordEcall, 0, 0x13}, 1024)
	wantProgram(t, disasm.Lines(full), full...)
	wantNoProgram(t, disasm.Lines(append(full, 0)), 4097, api.ErrLong)
}
