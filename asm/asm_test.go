package asm_test

import (
	"slices"
	"strconv"
	"strings"
	"testing"

	"trunnion/api"
	"trunnion/asm"
	"trunnion/bare"
	"trunnion/isa"
)

// told is all that a call answers.
type told struct {
	image  api.Image
	labels []api.Sym
	line   int
	err    api.Errno
}

func ask(s string) told {
	image, labels, line, err := asm.Assemble(s)
	return told{image, labels, line, err}
}

func (x told) same(y told) bool {
	return x.image.Entry == y.image.Entry && slices.Equal(x.image.Bytes, y.image.Bytes) &&
		slices.Equal(x.labels, y.labels) && x.line == y.line && x.err == y.err
}

func fails(line int, err api.Errno) told { return told{line: line, err: err} }

// tells is an image of bytes alone, with labels.
func tells(bytes []byte, labels ...api.Sym) told {
	return told{image: api.Image{Bytes: bytes}, labels: labels}
}

// words are the bytes of words, the lowest first.
func words(l ...int) []byte {
	var bytes []byte
	for _, w := range l {
		bytes = append(bytes, byte(w%256), byte(w/256%256), byte(w/65536%256), byte(w/16777216))
	}
	return bytes
}

func zeros(n int) []byte { return make([]byte, n) }

// row is a source and what is to be told of it.
type row struct {
	source string
	want   told
}

// short is a source as it is shown at a failure.
func short(s string) string { return strconv.Quote(s[:min(len(s), 80)]) }

// brief is an answer as it is shown at a failure.
func brief(x told) string {
	bytes := x.image.Bytes
	var text strings.Builder
	for _, b := range bytes[:min(len(bytes), 40)] {
		text.WriteString(strconv.FormatInt(int64(b)+256, 16)[1:])
	}
	text.WriteString(" (" + strconv.Itoa(len(bytes)) + ") entry " + strconv.Itoa(x.image.Entry))
	for _, l := range x.labels[:min(len(x.labels), 10)] {
		text.WriteString(" " + l.Name + "=" + strconv.Itoa(l.Addr))
	}
	return text.String() + " line " + strconv.Itoa(x.line) + " error " + strconv.Itoa(int(x.err))
}

func check(t *testing.T, rows []row) {
	t.Helper()
	for _, r := range rows {
		if got := ask(r.source); !got.same(r.want) {
			t.Errorf("%s: %s, want %s", short(r.source), brief(got), brief(r.want))
		}
	}
}

func TestP1201Example(t *testing.T) {
	check(t, []row{
		{"start: li r1, 5\nj start", tells(words(0x17100000, 0x12110005, 0x380FFFFE), api.Sym{Name: "start", Addr: 0})},
	})
}

func TestP1201Nothing(t *testing.T) {
	for _, s := range []string{"", "\n", " \t\r\n; x\n;\n", strings.Repeat("\n", api.MaxLines), ".ascii \"\"", ".space 0", ".org 0", ".align 4096", ".equ x, 5", ".entry 0"} {
		check(t, []row{{s, tells(nil)}})
	}
}

// TestP1201Operations holds each operation, with fields at their edges, to the word of which isa tells the same text.
func TestP1201Operations(t *testing.T) {
	seen := 0
	for op := range 256 {
		branch := op >= 48 && op <= 53 || op == 56
		for _, imm := range []int{0, 1, -1, 10, 31, 32767, -32768, 65535, 524287, -524288} {
			for _, r := range [][3]int{{0, 0, 0}, {1, 2, 3}, {15, 14, 13}, {7, 0, 0}, {7, 8, 0}} {
				i := api.Ins{Op: op, A: r[0], B: r[1], C: r[2], Imm: imm}
				w, err := isa.Encode(i)
				if err != api.OK {
					continue
				}
				seen++
				text, at := isa.Show(i), 0
				if branch {
					at = 1 << 18
					cut := strings.LastIndex(text, " ")
					text = text[:cut+1] + strconv.Itoa(at+4*imm)
				}
				got := ask(".org " + strconv.Itoa(at) + "\n" + text)
				if !got.same(tells(append(zeros(at), words(w)...))) {
					t.Errorf("%q: %s, want %x", text, brief(got), w)
				}
			}
		}
	}
	if seen < 500 {
		t.Errorf("only %d instructions", seen)
	}
}

func TestP1201Blanks(t *testing.T) {
	want := tells(words(0x01123000))
	for _, s := range []string{"add r1, r2, r3", "add r1,r2,r3", " add\tr1 ,r2\t, r3\r", "\tadd  r1,  r2,r3;r4", "add r1, r2, r3\n", "\n\nadd r1, r2, r3\n\n"} {
		check(t, []row{{s, want}})
	}
	check(t, []row{
		{"lw r1,-4(r2)", tells(words(0x2012FFFC))},
		{"lw r1 , - 4 ( r2 )", tells(words(0x2012FFFC))},
		{"a:b:nop", tells(words(0x10000000), api.Sym{Name: "a", Addr: 0}, api.Sym{Name: "b", Addr: 0})},
		{".word 1-2", tells(words(1<<32 - 1))},
	})
}

func TestP1201LoadsAndStores(t *testing.T) {
	for op, name := range map[int]string{32: "lw", 33: "lh", 34: "lhu", 35: "lb", 36: "lbu", 40: "sw", 41: "sh", 42: "sb"} {
		w := op<<24 | 0x3E0008
		check(t, []row{
			{name + " r3, r14, 8", tells(words(w))},
			{name + " r3, 8(r14)", tells(words(w))},
			{name + " r3, 10 - 2 (r14)", tells(words(w))},
			{name + " r3, x(r14)\n.equ x, 8", tells(words(w))},
			{name + " r3, x+4(r14)\n.equ x, 4", tells(words(w))},
			{name + " r3, r14, x+4\n.equ x, 4", tells(words(w))},
			{name + " r3, 32767(r14)", tells(words(w - 8 + 32767))},
			{name + " r3, -32768(r14)", tells(words(w - 8 + 32768))},
			{name + " r3, 32768(r14)", fails(1, api.ErrRange)},
			{name + " r3, r14, -32769", fails(1, api.ErrRange)},
			{name + " r3, (r14)", fails(1, api.ErrSyntax)},
			{name + " r3, r14", fails(1, api.ErrSyntax)},
			{name + " r3, 8, r14", fails(1, api.ErrSyntax)},
			{name + " r3, 8(x)", fails(1, api.ErrSyntax)},
			{name + " r3, 8(14)", fails(1, api.ErrSyntax)},
			{name + " r3, 8(r16)", fails(1, api.ErrSyntax)},
			{name + " r3, 8(r14", fails(1, api.ErrSyntax)},
			{name + " r3, 8 r14)", fails(1, api.ErrSyntax)},
			{name + " r3, 8(r14)+1", fails(1, api.ErrSyntax)},
			{name + " r3, x, 8", fails(1, api.ErrSyntax)},
			{name + " r3", fails(1, api.ErrSyntax)},
			{name + " 8(r14)", fails(1, api.ErrSyntax)},
		})
	}
	check(t, []row{
		{"jalr r3, 8(r14)", fails(1, api.ErrSyntax)},
		{"addi r3, 8(r14)", fails(1, api.ErrSyntax)},
		{"beq r3, 8(r14)", fails(1, api.ErrSyntax)},
	})
}

func TestP1201Targets(t *testing.T) {
	check(t, []row{
		{"a: beq r1, r2, a", tells(words(0x30120000), api.Sym{Name: "a"})},
		{"beq r1, r2, a\na:", tells(words(0x30120001), api.Sym{Name: "a", Addr: 4})},
		{"nop\nbne r1, r2, 0", tells(words(0x10000000, 0x3112FFFF))},
		{"blt r1, r2, a - 4\na:", tells(words(0x32120000), api.Sym{Name: "a", Addr: 4})},
		{"bgeu r1, r2, -4", tells(words(0x3512FFFF))},
		{"bge r1, r2, 131068", tells(words(0x33127FFF))},
		{"bge r1, r2, 131072", fails(1, api.ErrRange)},
		{"bge r1, r2, -131072", tells(words(0x33128000))},
		{"bge r1, r2, -131076", fails(1, api.ErrRange)},
		{"bltu r1, r2, 1", fails(1, api.ErrRange)},
		{"bltu r1, r2, 2", fails(1, api.ErrRange)},
		{"bltu r1, r2, -3", fails(1, api.ErrRange)},
		{"nop\nbltu r1, r2, 6", fails(2, api.ErrRange)},
		{"jal r1, 8", tells(words(0x38100002))},
		{"jal r1, 2097148", tells(words(0x3817FFFF))},
		{"jal r1, 2097152", fails(1, api.ErrRange)},
		{"jal r1, -2097152", tells(words(0x38180000))},
		{"jal r1, -2097156", fails(1, api.ErrRange)},
		{"jal r1, 4294967292", fails(1, api.ErrRange)}, // no address is as good as another by 2^32
		{"jal r1, -1", fails(1, api.ErrRange)},
		{"nop\njalr r1, r2, 1", tells(words(0x10000000, 0x39120001))},
		{"j 4", tells(words(0x38000001))},
		{"nop\nj 0", tells(words(0x10000000, 0x380FFFFF))},
		{"j 2", fails(1, api.ErrRange)},
		{"j 2097152", fails(1, api.ErrRange)},
		{"call 8", tells(words(0x38F00002))},
		{"nop\ncall a\na:", tells(words(0x10000000, 0x38F00001), api.Sym{Name: "a", Addr: 8})},
		{"call 3", fails(1, api.ErrRange)},
		{"call -2097156", fails(1, api.ErrRange)},
	})
}

func TestP1201Short(t *testing.T) {
	check(t, []row{
		{"li r1, 0", tells(words(0x17100000, 0x12110000))},
		{"li r15, 0x12345678", tells(words(0x17F01234, 0x12FF5678))},
		{"li r0, -1", tells(words(0x1700FFFF, 0x1200FFFF))},
		{"li r2, -2147483648", tells(words(0x17208000, 0x12220000))},
		{"li r2, 4294967295", tells(words(0x1720FFFF, 0x1222FFFF))},
		{"li r2, 4294967295 + 65538", tells(words(0x17200001, 0x12220001))},
		{"li r2, -4294967295", tells(words(0x17200000, 0x12220001))},
		{"li r2, a\na:", tells(words(0x17200000, 0x12220008), api.Sym{Name: "a", Addr: 8})},
		{"mv r1, r15", tells(words(0x101F0000))},
		{"ret", tells(words(0x390F0000))},
		{"nop", tells(words(0x10000000))},
		{"ecall\nsret\nwfi\nbrk", tells(words(0x40000000, 0x41000000, 0x42000000, 0x46000000))},
		{"csrr r1, 10\ncsrw r2, 0", tells(words(0x4410000A, 0x45200000))},
		{"csrr r1, 11", fails(1, api.ErrRange)},
	})
}

func TestP1201Immediates(t *testing.T) {
	check(t, []row{
		{"addi r1, r2, 32767", tells(words(0x10127FFF))},
		{"addi r1, r2, 32768", fails(1, api.ErrRange)},
		{"addi r1, r2, -32768", tells(words(0x10128000))},
		{"addi r1, r2, -32769", fails(1, api.ErrRange)},
		{"andi r1, r2, 65535", tells(words(0x1112FFFF))},
		{"andi r1, r2, 65536", fails(1, api.ErrRange)},
		{"andi r1, r2, -1", fails(1, api.ErrRange)},
		{"slli r1, r2, 31", tells(words(0x1412001F))},
		{"slli r1, r2, 32", fails(1, api.ErrRange)},
		{"lui r1, 65535", tells(words(0x1710FFFF))},
		{"lui r1, 65536", fails(1, api.ErrRange)},
		{"lui r1, -1", fails(1, api.ErrRange)},
		{"jalr r1, r2, 32768", fails(1, api.ErrRange)},
		{"addi r1, r2, 4294967295", fails(1, api.ErrRange)}, // a word, but no -1
		{"addi r1, r2, 'a' + 1", tells(words(0x10120062))},
		{"addi r1, r2, a\nnop\na:", tells(words(0x10120008, 0x10000000), api.Sym{Name: "a", Addr: 8})},
	})
}

func TestP1201Values(t *testing.T) {
	check(t, []row{
		{".word 1, -1, 0x10, 'a', 1+2, 1-2, -1+2, -1-2", tells(words(1, 1<<32-1, 16, 97, 3, 1<<32-1, 1, 1<<32-3))},
		{".word a, a+1, a-1\na:", tells(words(12, 13, 11), api.Sym{Name: "a", Addr: 12})},
		{".word - 5 + 4294967295, 4294967295 - 4294967295", tells(words(4294967290, 0))},
		{".equ a, 4294967295 + 4294967295\n.equ b, a - 4294967295\n.word b", tells(words(1<<32 - 1))},
		{".equ a, 4294967295 + 1\n.equ b, a\n.equ c, b - 1\n.word c\n.word a", fails(5, api.ErrRange)},
		{".equ a, -4294967295 - 4294967295\n.equ b, a - 4294967295\n.equ c, b + 4294967295\n.equ d, c + 4294967295\n.word d + 4294967295", tells(words(0))},
		{".word .word, li, add, é\n.word: .equ li, 7\nadd:é:", tells(words(16, 7, 16, 16), api.Sym{Name: ".word", Addr: 16}, api.Sym{Name: "add", Addr: 16}, api.Sym{Name: "é", Addr: 16})},
	})
}

func TestP1201Data(t *testing.T) {
	check(t, []row{
		{".word 0x01020304", tells([]byte{4, 3, 2, 1})},
		{".word 4294967295, -2147483648", tells(words(1<<32-1, 1<<31))},
		{".word 4294967295 + 1", fails(1, api.ErrRange)},
		{".word -2147483648 - 1", fails(1, api.ErrRange)},
		{".byte 0, 255, -128, -1, 'z'", tells([]byte{0, 255, 128, 255, 122})},
		{".byte 256", fails(1, api.ErrRange)},
		{".byte -129", fails(1, api.ErrRange)},
		{".byte 'é'\n.byte '€'", fails(2, api.ErrRange)},
		{".byte 1\n.word 2", tells([]byte{1, 2, 0, 0, 0})},
		{".ascii \"Hi\\n\\\"\\\\é€𐍈\"", tells([]byte("Hi\n\"\\é€𐍈"))},
		{".ascii \"a\"\n.ascii \"b\"", tells([]byte("ab"))},
		{".ascii \":\"\n.ascii \",\"", tells([]byte(":,"))},
		{".space 3\n.byte 1\n.space 2", tells([]byte{0, 0, 0, 1, 0, 0})},
		{".space -1", fails(1, api.ErrRange)},
		{".space 1 - 1", tells(nil)},
		{".byte 1\n.align 4\n.byte 2\n.align 1\n.byte 3\n.align 2\n.align 2", tells([]byte{1, 0, 0, 0, 2, 3})},
		{".byte 1\n.align 4096\n.byte 2", tells(append(append([]byte{1}, zeros(4095)...), 2))},
		{".byte 1\n.org 3\n.byte 2\n.org 4\n.org 6", tells([]byte{1, 0, 0, 2, 0, 0})},
		{".byte 1, 2\n.org 1", fails(2, api.ErrRange)},
		{".org -1", fails(1, api.ErrRange)},
	})
	for n := -2; n < 10000; n++ {
		want := fails(2, api.ErrRange)
		if n > 0 && n <= 4096 && strings.Trim(strconv.FormatInt(int64(n), 2), "0") == "1" {
			want = tells(append([]byte{9}, zeros(n-1)...))
		}
		check(t, []row{{".byte 9\n.align " + strconv.Itoa(n), want}})
	}
	check(t, []row{{".align 4294967295 + 1", fails(1, api.ErrRange)}})
}

func TestP1201Equ(t *testing.T) {
	check(t, []row{
		{".equ a, 5\n.equ b, a + 1\n.byte a, b", tells([]byte{5, 6})},
		{".byte b\n.equ b, 7", tells([]byte{7})},
		{"nop\nx: .equ y, x + 1\n.word y", tells(words(0x10000000, 5), api.Sym{Name: "x", Addr: 4})},
		{".equ a, b\n.equ b, 1", fails(1, api.ErrLabel)},
		{".equ a, a", fails(1, api.ErrLabel)},
		{".equ a, b\nb:", fails(1, api.ErrLabel)},
		{".equ a, 99999999 + 99999999", tells(nil)},
	})
}

func TestP1201Entry(t *testing.T) {
	entry := func(n int) told { return told{image: api.Image{Entry: n, Bytes: words(0x10000000)}} }
	check(t, []row{
		{"nop", entry(0)},
		{".entry 4\nnop", entry(4)},
		{".entry 4\nnop\n.entry 8", entry(8)},
		{".entry 8\nnop\n.entry 0", entry(0)},
		{".entry 3\nnop", entry(3)},
		{".entry -4\nnop", entry(1<<32 - 4)},
		{".entry 4294967295\nnop", entry(1<<32 - 1)},
		{".entry 4294967295 + 5\nnop", entry(4)},
		{".entry x\nnop\n.equ x, 12", entry(12)},
		{"nop\n.entry x", fails(2, api.ErrLabel)},
		{".entry x\n.entry 4", fails(1, api.ErrLabel)},
		{".entry s\nnop\ns: nop", told{image: api.Image{Entry: 4, Bytes: words(0x10000000, 0x10000000)}, labels: []api.Sym{{Name: "s", Addr: 4}}}},
	})
}

func TestP1201Labels(t *testing.T) {
	check(t, []row{
		{"a:\nb: c: nop\nd:", tells(words(0x10000000), api.Sym{Name: "a"}, api.Sym{Name: "b"}, api.Sym{Name: "c"}, api.Sym{Name: "d", Addr: 4})},
		{"z: .byte 1\ny: .align 4\nx: .org 8\nw: .equ v, 1\nu:", tells(append([]byte{1}, zeros(7)...), api.Sym{Name: "z"}, api.Sym{Name: "y", Addr: 1}, api.Sym{Name: "x", Addr: 4}, api.Sym{Name: "w", Addr: 8}, api.Sym{Name: "u", Addr: 8})},
		{"a: .org a + 2\nb: .space b\nc: .align c", tells(zeros(4), api.Sym{Name: "a"}, api.Sym{Name: "b", Addr: 2}, api.Sym{Name: "c", Addr: 4})},
		{"r16: R1: r01: r00: r: r1x:", tells(nil, api.Sym{Name: "r16"}, api.Sym{Name: "R1"}, api.Sym{Name: "r01"}, api.Sym{Name: "r00"}, api.Sym{Name: "r"}, api.Sym{Name: "r1x"})},
		{"li: mv: ret: .org: ecall: .x:", tells(nil, api.Sym{Name: "li"}, api.Sym{Name: "mv"}, api.Sym{Name: "ret"}, api.Sym{Name: ".org"}, api.Sym{Name: "ecall"}, api.Sym{Name: ".x"})},
		{"nop: nop\n.byte: .byte 1\nj: .equ j2, j", tells(append(words(0x10000000), 1), api.Sym{Name: "nop"}, api.Sym{Name: ".byte", Addr: 4}, api.Sym{Name: "j", Addr: 5})},
		{".byte 1\na:", tells([]byte{1}, api.Sym{Name: "a", Addr: 1})},
	})
	for n := range 16 {
		r := "r" + strconv.Itoa(n)
		check(t, []row{{"\n" + r + ": nop", fails(2, api.ErrLabel)}, {"\n.equ " + r + ", 1", fails(2, api.ErrLabel)}})
	}
	check(t, []row{
		{"a:\na:", fails(2, api.ErrLabel)},
		{"a: a:", fails(1, api.ErrLabel)},
		{"a:\nnop\n.equ a, 0", fails(3, api.ErrLabel)},
		{".equ a, 0\nnop\na:", fails(3, api.ErrLabel)},
		{".equ a, 0\n.equ a, 0", fails(2, api.ErrLabel)},
		{"a: .equ a, 0", fails(1, api.ErrLabel)},
		{"a:\nA:", tells(nil, api.Sym{Name: "a"}, api.Sym{Name: "A"})},
	})
}

// TestP1201NotALine holds that each of these lines is none, alone and behind a label that is there already.
func TestP1201NotALine(t *testing.T) {
	lines := []string{
		"x", "x y", "x 1", ":", ": nop", "a: :", "a b: nop", "5: nop", "\"a\": nop", "1", "\"a\"", "-", "(", "=", ",", "nop =", "a = 5",
		".org", ".org 1, 2", ".org \"a\"", ".org r1 r2", ".Org 1", ".foo 1", ".org,", ".org (1)", "org 1",
		".word", ".word ,", ".word 1,", ".word 1 2", ".word , 1", ".word 1,,2", ".word \"a\"", ".word 1 +", ".word 1 \"+\" 1", ".word + 1", ".word - x", ".word -", ".word --1", ".word 1 + -1",
		".word 1 + x", ".word x + y", ".word 1+2+3", ".word x-1-2", ".word (1)", ".word 1:", ".word a:", ".word x: 1",
		".byte", ".byte 1,", ".byte \"a\"", ".ascii", ".ascii 1", ".ascii 'a'", ".ascii a", ".ascii \"a\", \"b\"", ".ascii \"a\" \"b\"", ".ascii \"a\" 1",
		".space", ".space 1, 2", ".align", ".align 4, 0", ".equ", ".equ a", ".equ a,", ".equ a 1", ".equ 1, 1", ".equ a, 1, 2", ".equ \"a\", 1", ".equ , 1", ".equ a = 1", ".entry", ".entry 1, 2", ".entry \"a\"",
		"add", "add r1", "add r1, r2", "add r1, r2,", "add r1, r2, r3,", "add r1, r2, r3, r4", "add r1 r2 r3", "add r1, r2 r3", "add, r1, r2, r3", "add r1, r2, 3", "add r1, r2, x", "add r1, x, r3", "add x, r1, r2",
		"add r1, r2, r16", "add r01, r2, r3", "add R1, r2, r3", "add r-1, r2, r3", "add 1, 2, 3", "Add r1, r2, r3", "ADD r1, r2, r3", "add r1, r2, \"r3\"", "add r1 \",\" r2, r3",
		"addi r1, r2", "addi r1, r2,", "addi r1, 5", "addi r1, r2, 5, 6", "addi r1, r2, 5 6", "addi r1, r2 5", "addi r1, r2, \"5\"", "addi r1, r2, (5)", "addi r1, r2, 5(r3)",
		"lui r1", "lui r1, r2, 5", "lui 5", "jal 4", "jal r1", "jal r1, r2, 4", "jalr r1, r2", "jalr r1", "beq r1, 4", "beq r1, r2", "beq 4, r1, r2",
		"csrr r1", "csrr 1", "csrw 1, r1", "csrw r1, r2, 1", "ecall 1", "ecall r1", "sret 0", "wfi r0", "brk 1",
		"li", "li r1", "li r1,", "li 1, r1", "li r1 5", "li r1, 5, 6", "li x, 5", "mv r1", "mv r1, 5", "mv r1, r2, r3", "mv r1 r2", "mv r1, x", "j", "j 4, 4", "j r1, 4", "j \"a\"", "call", "call r1, 4", "ret r15", "ret 0", "nop 1", "nop nop",
	}
	for _, l := range lines {
		check(t, []row{
			{l, fails(1, api.ErrSyntax)},
			{"q: nop\n" + l + "\n$", fails(3, api.ErrSyntax)},
			{"q: nop\nq: r1: " + l + "\nnone", fails(2, api.ErrSyntax)},
			{".word none\n\n" + l + " ; x", fails(3, api.ErrSyntax)},
		})
	}
}

// TestP1201NoName holds at which line and in which pass a name that is not there is told.
func TestP1201NoName(t *testing.T) {
	for _, l := range []string{".org x", ".space x", ".align x", ".equ y, x", ".org x + 1", ".space x - 1", ".org r1", ".align r2", ".equ y, r3"} {
		check(t, []row{
			{"nop\n" + l, fails(2, api.ErrLabel)},
			{"nop\n" + l + "\nx: .equ r3, 1", fails(2, api.ErrLabel)},
			{".word none\n" + l, fails(2, api.ErrLabel)},
		})
	}
	for _, l := range []string{
		".word x", ".word 1, x", ".word x-1", ".byte 1, x", ".entry x", "addi r1, r2, x", "lui r1, x", "csrr r1, x", "beq r1, r2, x", "jal r1, x", "jalr r1, r2, x",
		"lw r1, r2, x", "sw r1, x(r2)", "li r1, x + 1", "j x", "call x",
		"addi r1, r2, r3", ".word r1", "j r1", "li r1, r2", "lw r1, r2, r3", "lw r1, r2(r3)", ".entry r0", // a register's name is no label's
	} {
		check(t, []row{
			{"nop\n" + l + "\n.word none", fails(2, api.ErrLabel)},
			{"nop\n" + l + "\n.byte 256", fails(2, api.ErrLabel)},
			{"nop\n" + l + "\n.space -1", fails(3, api.ErrRange)},
			{"nop\n" + l + "\nx: x:", fails(3, api.ErrLabel)},
			{"nop\n" + l + "\nadd", fails(3, api.ErrSyntax)},
		})
	}
}

func TestP1201Order(t *testing.T) {
	check(t, []row{
		{"add\n$", fails(2, api.ErrSyntax)},
		{"add\n\n\xFF", fails(3, api.ErrByte)},
		{"a: a:\n 99999999999", fails(2, api.ErrRange)},
		{"a: a:\n" + strings.Repeat("b", 41), fails(2, api.ErrLong)},
		{"add\n" + strings.Repeat("\n", api.MaxLines), fails(api.MaxLines+1, api.ErrLong)},
		{"add\n\n" + strings.Repeat(" ", api.MaxSource), fails(1, api.ErrLong)},

		{"a: a: .org -1 5", fails(1, api.ErrSyntax)},
		{"a:\na: .space -1", fails(2, api.ErrLabel)},
		{"r1: .org 9999999", fails(1, api.ErrLabel)},
		{".byte 0\na:\na: nop", fails(3, api.ErrLabel)},
		{".space -1\na: a:", fails(1, api.ErrRange)},
		{"a: a:\n.space -1", fails(1, api.ErrLabel)},
		{".org 1048577\nadd", fails(1, api.ErrLong)},
		{"add\n.org 1048577", fails(1, api.ErrSyntax)},

		{".byte 256\n.word none", fails(1, api.ErrRange)},
		{".word none\n.byte 256", fails(1, api.ErrLabel)},
		{".byte 256, none", fails(1, api.ErrLabel)}, // of a line names come ahead of what does not fit
		{".byte none, 256", fails(1, api.ErrLabel)},
		{".byte 256\n.space -1", fails(2, api.ErrRange)},
		{".byte 256\n\nnop", fails(3, api.ErrRange)},
		{".byte 256\n.org 1048577", fails(2, api.ErrLong)},
		{".word none\n.org 1048577", fails(2, api.ErrLong)},
		{".word none\nadd\n.space -1", fails(2, api.ErrSyntax)},
	})
}

// TestP1201Aligned holds each instruction to a multiple of 4; of data nothing is asked.
func TestP1201Aligned(t *testing.T) {
	for _, l := range []string{"nop", "ret", "mv r1, r2", "j 0", "call 0", "li r1, 1", "add r1, r2, r3", "lw r1, 4(r2)", "beq r1, r2, 0", "jal r1, 0", "ecall", "addi r1, r2, none", "andi r1, r2, -1"} {
		for n := 1; n < 4; n++ {
			check(t, []row{{".space " + strconv.Itoa(n) + "\n" + l, fails(2, api.ErrRange)}})
		}
		check(t, []row{
			{".org 1048577 - 2\n" + l, fails(2, api.ErrRange)}, // ahead of ErrLong
			{".org 3\na: " + l + "\na:", fails(2, api.ErrRange)},
			{".org 3\na:\na: " + l, fails(3, api.ErrLabel)},
		})
	}
	check(t, []row{
		{".byte 1\na:\n.word 5\n.byte 6", tells([]byte{1, 5, 0, 0, 0, 6}, api.Sym{Name: "a", Addr: 1})},
		{".byte 1\n.align 4\nnop", tells([]byte{1, 0, 0, 0, 0, 0, 0, 0x10})},
	})
}

func TestP1201Long(t *testing.T) {
	const most = 1 << 20
	full := zeros(most)
	check(t, []row{
		{".org 1048576", tells(full)},
		{".org 1048577", fails(1, api.ErrLong)},
		{".org 4294967295 + 4294967295", fails(1, api.ErrLong)},
		{".space 1048576", tells(full)},
		{".byte 0\n.space 1048576", fails(2, api.ErrLong)},
		{".space 4294967295 + 4294967295", fails(1, api.ErrLong)},
		{".org 1048576\na:", tells(full, api.Sym{Name: "a", Addr: most})},
		{".org 1048576\n.byte 0", fails(2, api.ErrLong)},
		{".org 1048576\n.ascii \"\"\n.space 0\n.align 4096\n.org 1048576\n.equ a, 1048577\n", tells(full)},
		{".org 1048575\n.align 4096", tells(full)},
		{".org 1048575\n.byte 0", tells(full)},
		{".org 1048575\n.byte 0, 0", fails(2, api.ErrLong)},
		{".org 1048573\n.word 0", fails(2, api.ErrLong)},
		{".org 1048572\n.word 0", tells(full)},
		{".org 1048575\n.ascii \"é\"", fails(2, api.ErrLong)},
		{".org 1048572\nnop", tells(append(zeros(most-4), words(0x10000000)...))},
		{".org 1048572\nli r1, 1", fails(2, api.ErrLong)},
		{".org 1048576\nnop", fails(2, api.ErrLong)},
		{".org 1048568\nli r0, 0\nadd", fails(3, api.ErrSyntax)},
		{".org 1048576\n\n.byte none", fails(3, api.ErrLong)},
	})
}

// TestP1201OnAMachine lets a machine do what was assembled.
func TestP1201OnAMachine(t *testing.T) {
	const source = `
; adds up the words of a row, and writes a text
.equ uart, 0xF0000000
row:    .word 3, -1, 40
        .entry start
text:   .ascii "Hé\n"
        .byte 0
        .align 4
sum:    li r3, 0
next:   lw r4, 0(r1)
        add r3, r3, r4
        addi r1, r1, 4
        addi r2, r2, -1
        bne r2, r0, next
        ret
start:  li r1, row
        li r2, 3
        call sum
        mv r5, r3
        li r1, text
        li r2, uart
loop:   lbu r3, r1, 0
        beq r3, r0, end
        sw r3, 0(r2)
        addi r1, r1, 1
        j loop
end:    li r1, 0
        ecall
`
	image, labels, line, err := asm.Assemble(source)
	if line != 0 || err != api.OK || len(labels) != 7 {
		t.Fatalf("%v at %d, %d labels", err, line, len(labels))
	}
	m := bare.New(1, image, nil)
	m.Run(1000)
	if s := m.State(); !s.Halt || s.Regs[5] != 42 || string(s.Out) != "Hé\n" {
		t.Errorf("%+v", s)
	}
}

func TestP1202Listing(t *testing.T) {
	check := func(want string, bytes ...byte) {
		t.Helper()
		for _, entry := range []int{0, 4, -1} {
			if got := asm.Listing(api.Image{Entry: entry, Bytes: bytes}); got != want {
				t.Errorf("%x: %q, want %q", bytes, got, want)
			}
		}
	}
	check("")
	check("00000000: 00000001\n", 1)
	check("00000000: 00000201\n", 1, 2)
	check("00000000: 00030201\n", 1, 2, 3)
	check("00000000: 04030201\n", 1, 2, 3, 4)
	check("00000000: 01123000  add r1, r2, r3\n", 0, 0x30, 0x12, 1)
	check("00000000: 01123001\n", 1, 0x30, 0x12, 1)
	check("00000000: 1010ffff  addi r1, r0, -1\n00000004: 40000000  ecall\n00000008: 0000abcd\n", words(0x1010FFFF, 0x40000000, 0xABCD)...)
	check("00000000: 380ffffe  jal r0, -2\n", words(0x380FFFFE)...)
	check("00000000: 00000000\n00000004: 00000042\n", 0, 0, 0, 0, 0x42)
	check("00000000: 42000000  wfi\n00000004: ffffffff\n", 0, 0, 0, 0x42, 255, 255, 255, 255)
}

// TestP1202Long asks for all words of the longest images, and of one that is longer.
func TestP1202Long(t *testing.T) {
	for _, n := range []int{1 << 20, 1<<20 + 5} {
		bytes := make([]byte, n)
		bytes[1<<20-1] = 0x42
		lines := strings.SplitAfter(asm.Listing(api.Image{Bytes: bytes}), "\n")
		if len(lines) != (n+3)/4+1 || lines[0x12345] != "00048d14: 00000000\n" || lines[1<<18-1] != "000ffffc: 42000000  wfi\n" {
			t.Errorf("%d lines", len(lines))
		}
		if n > 1<<20 && lines[1<<18+1] != "00100004: 00000000\n" {
			t.Errorf("%q", lines[1<<18+1])
		}
	}
}

// TestP1202Again holds that a listing's instructions, assembled, are the image again.
func TestP1202Again(t *testing.T) {
	image := ask("li r1, 5\nlw r2, -8(r3)\nadd r1, r2, r3\nsrai r4, r5, 31\ncsrw r6, 10\njalr r1, r2, 0\nsret").image
	var source strings.Builder
	for l := range strings.Lines(asm.Listing(image)) {
		_, text, _ := strings.Cut(l, "  ")
		source.WriteString(text)
	}
	check(t, []row{{source.String(), told{image: image}}})
}

func TestP1203SameAgain(t *testing.T) {
	sources := []string{"", "start: li r1, 5\nj start", "a: a:", ".word x", ".byte 256", ".org 1048577", "a: .ascii \"b\"\n.entry a", "$", ".space 4000\nx: y:"}
	var first []told
	for _, s := range sources {
		first = append(first, ask(s))
	}
	done := make(chan bool)
	for g := range 8 {
		go func() {
			same := true
			for k := range 50 * len(sources) {
				at := (k + g) % len(sources)
				same = same && ask(sources[at]).same(first[at])
			}
			done <- same
		}()
	}
	for range 8 {
		if !<-done {
			t.Error("a call answers otherwise than before")
		}
	}
}

// TestP1203NewMemory holds that what a call answered is its caller's own, and that what is handed in stays.
func TestP1203NewMemory(t *testing.T) {
	const source = "a: .byte 1, 2\nb: .ascii \"c\""
	want := tells([]byte{1, 2, 'c'}, api.Sym{Name: "a"}, api.Sym{Name: "b", Addr: 2})
	first, second := ask(source), ask(source)
	clear(first.image.Bytes[:cap(first.image.Bytes)])
	clear(first.labels[:cap(first.labels)])
	if !second.same(want) || !ask(source).same(want) {
		t.Error("two answers share their memory")
	}
	bytes := []byte{1, 2, 3, 4, 5, 6, 7, 8}
	asm.Listing(api.Image{Bytes: bytes[:5]})
	if !slices.Equal(bytes, []byte{1, 2, 3, 4, 5, 6, 7, 8}) {
		t.Error("a listing changes the image's bytes")
	}
}
