package isa_test

import (
	"math"
	"strconv"
	"strings"
	"testing"

	"trunnion/api"
	"trunnion/isa"
)

// row is a row of the chapter's table: how many registers, how many bits of 0 behind them, the width of Imm, and Imm's ends.
type row struct {
	form             string
	registers, zeros int
	width            int
	least, most      int
	operations       string
}

// rows is the chapter's table, its operations as they are written there.
var rows = []row{
	{"R", 3, 12, 0, 0, 0, "1 add, 2 sub, 3 and, 4 or, 5 xor, 6 sll, 7 srl, 8 sra, 9 mul, 10 slt, 11 sltu, 12 divu, 13 remu"},
	{"I", 2, 0, 16, -32768, 32767, "16 addi, 24 slti, 32 lw, 33 lh, 34 lhu, 35 lb, 36 lbu, 40 sw, 41 sh, 42 sb, 48 beq, 49 bne, 50 blt, 51 bge, 52 bltu, 53 bgeu, 57 jalr"},
	{"U", 2, 0, 16, 0, 65535, "17 andi, 18 ori, 19 xori"},
	{"H", 2, 0, 16, 0, 31, "20 slli, 21 srli, 22 srai"},
	{"L", 1, 4, 16, 0, 65535, "23 lui"},
	{"J", 1, 0, 20, -524288, 524287, "56 jal"},
	{"C", 1, 4, 16, 0, 10, "68 csrr, 69 csrw"},
	{"N", 0, 24, 0, 0, 0, "64 ecall, 65 sret, 66 wfi, 70 brk"},
}

type operation struct {
	name string
	row  row
}

// operations is every operation of the chapter, by its number.
func operations(t testing.TB) map[int]operation {
	t.Helper()
	all := map[int]operation{}
	for _, r := range rows {
		for _, text := range strings.Split(r.operations, ", ") {
			number, name, _ := strings.Cut(text, " ")
			op, err := strconv.Atoi(number)
			if err != nil {
				t.Fatal(err)
			}
			all[op] = operation{name, r}
		}
	}
	if len(all) != 44 {
		t.Fatalf("the chapter has 44 operations, the test %d", len(all))
	}
	return all
}

// digits is n's lowest bits, that many, as a text of 0 and 1.
func digits(n, bits int) string {
	var b strings.Builder
	for k := bits - 1; k >= 0; k-- {
		b.WriteByte('0' + byte(n>>k&1))
	}
	return b.String()
}

// wordOf is the model of Encode: the fields, one behind the other, from the highest bit down.
func wordOf(t testing.TB, i api.Ins, r row) int {
	t.Helper()
	text := digits(i.Op, 8)
	for _, register := range []int{i.A, i.B, i.C}[:r.registers] {
		text += digits(register, 4)
	}
	text += strings.Repeat("0", r.zeros) + digits(i.Imm, r.width)
	w, err := strconv.ParseUint(text, 2, 32)
	if err != nil || len(text) != 32 {
		t.Fatalf("a word of %d bits: %v", len(text), err)
	}
	return int(w)
}

// refusal is the model of Encode's error.
func refusal(i api.Ins, all map[int]operation) api.Errno {
	o, ok := all[i.Op]
	if !ok {
		return api.ErrCode
	}
	for k, register := range []int{i.A, i.B, i.C} {
		most := 15
		if k >= o.row.registers {
			most = 0
		}
		if register < 0 || register > most {
			return api.ErrArg
		}
	}
	if i.Imm < o.row.least || i.Imm > o.row.most {
		return api.ErrRange
	}
	return api.OK
}

// textOf is the model of Show.
func textOf(i api.Ins, o operation) string {
	a, b, c, imm := "r"+strconv.Itoa(i.A), "r"+strconv.Itoa(i.B), "r"+strconv.Itoa(i.C), strconv.Itoa(i.Imm)
	switch o.row.form {
	case "R":
		return o.name + " " + a + ", " + b + ", " + c
	case "I", "U", "H":
		return o.name + " " + a + ", " + b + ", " + imm
	case "L", "J", "C":
		return o.name + " " + a + ", " + imm
	}
	return o.name
}

// opEdges are all numbers of eight bits, and others, of which some have an operation's lowest eight bits.
func opEdges() []int {
	ops := []int{math.MinInt, -1 << 32, -255, -1, 256, 257, 326, 1 << 24, 1<<32 + 1, 1<<40 + 64, math.MaxInt}
	for op := range 256 {
		ops = append(ops, op)
	}
	return ops
}

var registerEdges = []int{0, 1, 7, 8, 15, 16, 17, 31, 256, 1 << 32, 1<<32 + 1, math.MaxInt, -1, -16, math.MinInt}

var immEdges = []int{
	0, 1, 2, 9, 10, 11, 30, 31, 32, 255, 32766, 32767, 32768, 65534, 65535, 65536, 524286, 524287, 524288, 1048575, 1048576,
	1 << 31, 1<<32 - 1, 1 << 32, 1<<32 + 1, math.MaxInt, -1, -2, -32767, -32768, -32769, -65536, -524287, -524288, -524289, -1 << 32, math.MinInt,
}

// edges goes over all instructions of the edges above.
func edges(yield func(api.Ins) bool) {
	for _, op := range opEdges() {
		for _, a := range registerEdges {
			for _, b := range []int{0, 3, 15, 16, -1} {
				for _, c := range []int{0, 5, 15, 16, -1} {
					for _, imm := range immEdges {
						if !yield(api.Ins{Op: op, A: a, B: b, C: c, Imm: imm}) {
							return
						}
					}
				}
			}
		}
	}
}

// encodable lists the instructions of all operations with all their registers, and with the edges of Imm that fit.
func encodable(all map[int]operation) []api.Ins {
	var list []api.Ins
	for op := range 256 {
		o, ok := all[op]
		if !ok {
			continue
		}
		for n := range 1 << (4 * o.row.registers) {
			for _, imm := range immEdges {
				i := api.Ins{Op: op, A: n & 15, B: n >> 4 & 15, C: n >> 8, Imm: imm}
				if refusal(i, all) == api.OK {
					list = append(list, i)
				}
			}
		}
	}
	return list
}

func TestP201Examples(t *testing.T) {
	for _, x := range []struct {
		i    api.Ins
		want int
	}{
		{api.Ins{Op: 1, A: 1, B: 2, C: 3}, 0x01123000},
		{api.Ins{Op: 16, A: 1, Imm: -1}, 0x1010FFFF},
		{api.Ins{Op: 56, A: 15, Imm: 2}, 0x38F00002},
		{api.Ins{Op: 56, Imm: -2}, 0x380FFFFE},
		{api.Ins{Op: 23, A: 1}, 0x17100000},
		{api.Ins{Op: 18, A: 1, B: 1, Imm: 5}, 0x12110005},
		{api.Ins{Op: 18, A: 1, B: 1, Imm: 65535}, 0x1211FFFF},
		{api.Ins{Op: 22, A: 9, B: 10, Imm: 31}, 0x169A001F},
		{api.Ins{Op: 69, A: 15, Imm: 10}, 0x45F0000A},
		{api.Ins{Op: 70}, 0x46000000},
	} {
		if got, err := isa.Encode(x.i); got != x.want || err != api.OK {
			t.Errorf("P201: Encode(%+v): %#x, %d, want %#x", x.i, got, err, x.want)
		}
		if got, err := isa.Decode(x.want); got != x.i || err != api.OK {
			t.Errorf("P201: Decode(%#x): %+v, %d, want %+v", x.want, got, err, x.i)
		}
	}
}

func TestP201Refused(t *testing.T) {
	for _, x := range []struct {
		i    api.Ins
		want api.Errno
	}{
		{api.Ins{}, api.ErrCode},
		{api.Ins{Op: 71}, api.ErrCode},
		{api.Ins{Op: -1, A: 99, Imm: 1 << 40}, api.ErrCode},
		{api.Ins{Op: 257}, api.ErrCode},
		{api.Ins{Op: 1, A: 16}, api.ErrArg},
		{api.Ins{Op: 1, C: -1, Imm: 1}, api.ErrArg},
		{api.Ins{Op: 16, C: 1}, api.ErrArg},
		{api.Ins{Op: 16, B: 16, Imm: 1 << 20}, api.ErrArg},
		{api.Ins{Op: 23, B: 1}, api.ErrArg},
		{api.Ins{Op: 56, B: 1}, api.ErrArg},
		{api.Ins{Op: 68, C: 1, Imm: 11}, api.ErrArg},
		{api.Ins{Op: 64, A: 1, Imm: 1}, api.ErrArg},
		{api.Ins{Op: 1, Imm: 1}, api.ErrRange},
		{api.Ins{Op: 64, Imm: -1}, api.ErrRange},
		{api.Ins{Op: 16, Imm: 32768}, api.ErrRange},
		{api.Ins{Op: 16, Imm: -32769}, api.ErrRange},
		{api.Ins{Op: 16, Imm: 1 << 32}, api.ErrRange},
		{api.Ins{Op: 17, Imm: -1}, api.ErrRange},
		{api.Ins{Op: 17, Imm: 65536}, api.ErrRange},
		{api.Ins{Op: 20, Imm: 32}, api.ErrRange},
		{api.Ins{Op: 23, Imm: -1}, api.ErrRange},
		{api.Ins{Op: 56, Imm: 524288}, api.ErrRange},
		{api.Ins{Op: 56, Imm: -524289}, api.ErrRange},
		{api.Ins{Op: 68, Imm: 11}, api.ErrRange},
		{api.Ins{Op: 69, Imm: -1}, api.ErrRange},
	} {
		if got, err := isa.Encode(x.i); got != 0 || err != x.want {
			t.Errorf("P201: Encode(%+v): %#x, %d, want 0, %d", x.i, got, err, x.want)
		}
	}
}

func TestP201Encode(t *testing.T) {
	all := operations(t)
	for i := range edges {
		want, refused := 0, refusal(i, all)
		if refused == api.OK {
			want = wordOf(t, i, all[i.Op].row)
		}
		if got, err := isa.Encode(i); got != want || err != refused {
			t.Fatalf("P201: Encode(%+v): %#x, %d, want %#x, %d", i, got, err, want, refused)
		}
	}
}

func TestP201Decode(t *testing.T) {
	all := operations(t)
	for _, i := range encodable(all) {
		w := wordOf(t, i, all[i.Op].row)
		for _, high := range []int{0, 1 << 32, 0x5A5A << 32, -1 << 32, math.MinInt} {
			if got, err := isa.Decode(w + high); got != i || err != api.OK {
				t.Fatalf("P201: Decode(%#x): %+v, %d, want %+v", w+high, got, err, i)
			}
		}
	}
}

// wordEdges goes over words of all operations' numbers, of all bits 23 to 16, and of edges of the bits below.
func wordEdges(yield func(int) bool) {
	low := []int{0, 1, 10, 11, 15, 16, 31, 32, 33, 0x0FFF, 0x1000, 0x1001, 0x7FFF, 0x8000, 0xF000, 0xF00F, 0xFFFF}
	for bit := range 16 {
		low = append(low, 1<<bit)
	}
	for high := range 1 << 16 {
		for _, l := range low {
			if !yield(high<<16 | l) {
				return
			}
		}
	}
}

// instructionOf is the model of Decode: it cuts the word's digits.
func instructionOf(w int, all map[int]operation) (api.Ins, api.Errno) {
	text := digits(w, 32)
	cut := func(bits int) int {
		n, _ := strconv.ParseUint("0"+text[:bits], 2, 32)
		text = text[bits:]
		return int(n)
	}
	i := api.Ins{Op: cut(8)}
	o, ok := all[i.Op]
	if !ok {
		return api.Ins{}, api.ErrCode
	}
	for _, register := range []*int{&i.A, &i.B, &i.C}[:o.row.registers] {
		*register = cut(4)
	}
	if cut(o.row.zeros) != 0 {
		return api.Ins{}, api.ErrCode
	}
	i.Imm = cut(o.row.width)
	if i.Imm > o.row.most && o.row.least < 0 {
		i.Imm -= 1 << o.row.width
	}
	if refusal(i, all) != api.OK {
		return api.Ins{}, api.ErrCode
	}
	return i, api.OK
}

func TestP201DecodeModel(t *testing.T) {
	all := operations(t)
	for w := range wordEdges {
		want, refused := instructionOf(w, all)
		got, err := isa.Decode(w)
		if got != want || err != refused {
			t.Fatalf("P201: Decode(%#x): %+v, %d, want %+v, %d", w, got, err, want, refused)
		}
		if err != api.OK {
			continue
		}
		if again, err := isa.Encode(got); again != w || err != api.OK {
			t.Fatalf("P201: Decode(%#x): %+v, of which Encode tells %#x, %d", w, got, again, err)
		}
	}
}

func TestP201DecodeRefused(t *testing.T) {
	for _, w := range []int{
		0, -1, 1 << 32, 0x00123000, 0x0E000000, 0x47000000, 0xFF000000,
		0x01123001, 0x01123800, // R: bits below C
		0x14120020, 0x14128000, // H: Imm above 31
		0x17110000, 0x17180000, // L: the four bits
		0x44010000, 0x4400000B, 0x45008000, // C: the four bits, Imm above 10
		0x40000001, 0x40800000, // N
	} {
		if got, err := isa.Decode(w); got != (api.Ins{}) || err != api.ErrCode {
			t.Errorf("P201: Decode(%#x): %+v, %d, want ErrCode", w, got, err)
		}
	}
}

func TestP202Names(t *testing.T) {
	all := operations(t)
	for _, op := range opEdges() {
		want := all[op].name
		if got := isa.Name(op); got != want {
			t.Errorf("P202: Name(%d): %q, want %q", op, got, want)
		}
		if want == "" {
			continue
		}
		if got := isa.Op(want); got != op {
			t.Errorf("P202: Op(%q): %d, want %d", want, got, op)
		}
		for _, name := range []string{strings.ToUpper(want), " " + want, want + " ", want + "\x00", want[:len(want)-1] + "?"} {
			if got := isa.Op(name); got != 0 {
				t.Errorf("P202: Op(%q): %d, want 0", name, got)
			}
		}
	}
	for _, name := range []string{"", " ", "ad", "addii", "li", "mv", "j", "call", "ret", "nop", "r1", "1", "\xFF", "ädd"} {
		if got := isa.Op(name); got != 0 {
			t.Errorf("P202: Op(%q): %d, want 0", name, got)
		}
	}
}

func TestP202ShowRows(t *testing.T) {
	for _, x := range []struct {
		i    api.Ins
		want string
	}{
		{api.Ins{Op: 1, A: 1, B: 2, C: 3}, "add r1, r2, r3"},
		{api.Ins{Op: 13, A: 15, B: 0, C: 10}, "remu r15, r0, r10"},
		{api.Ins{Op: 16, A: 1, Imm: -1}, "addi r1, r0, -1"},
		{api.Ins{Op: 32, A: 1, B: 14, Imm: -32768}, "lw r1, r14, -32768"},
		{api.Ins{Op: 48, A: 1, B: 2, Imm: 3}, "beq r1, r2, 3"},
		{api.Ins{Op: 57, B: 15}, "jalr r0, r15, 0"},
		{api.Ins{Op: 19, A: 1, B: 2, Imm: 65535}, "xori r1, r2, 65535"},
		{api.Ins{Op: 22, A: 1, B: 2, Imm: 31}, "srai r1, r2, 31"},
		{api.Ins{Op: 23, A: 12, Imm: 65535}, "lui r12, 65535"},
		{api.Ins{Op: 56, A: 15, Imm: 2}, "jal r15, 2"},
		{api.Ins{Op: 56, Imm: -524288}, "jal r0, -524288"},
		{api.Ins{Op: 69, A: 3, Imm: 10}, "csrw r3, 10"},
		{api.Ins{Op: 64}, "ecall"},
		{api.Ins{Op: 70}, "brk"},
		{api.Ins{}, ""},
		{api.Ins{Op: 1, A: 16}, ""},
		{api.Ins{Op: 64, Imm: 1}, ""},
		{api.Ins{Op: 16, C: 1}, ""},
		{api.Ins{Op: 20, Imm: 32}, ""},
		{api.Ins{Op: 257}, ""},
	} {
		if got := isa.Show(x.i); got != x.want {
			t.Errorf("P202: Show(%+v): %q, want %q", x.i, got, x.want)
		}
	}
}

func TestP202ShowModel(t *testing.T) {
	all := operations(t)
	for i := range edges {
		want := ""
		if refusal(i, all) == api.OK {
			want = textOf(i, all[i.Op])
		}
		if got := isa.Show(i); got != want {
			t.Fatalf("P202: Show(%+v): %q, want %q", i, got, want)
		}
	}
}

// told is what every call tells of a word.
type told struct {
	i              api.Ins
	w, op          int
	decoded, coded api.Errno
	name, text     string
}

func tell(w int) told {
	var x told
	x.i, x.decoded = isa.Decode(w)
	x.w, x.coded = isa.Encode(api.Ins{Op: w >> 24, A: w >> 20 & 15, B: w >> 16 & 15, Imm: w & 0xFFFF})
	x.name, x.text = isa.Name(w>>24), isa.Show(x.i)
	x.op = isa.Op(x.name)
	return x
}

// TestP203 plays the same calls twice, the second time from behind and beside others: nothing is kept between calls.
func TestP203(t *testing.T) {
	var words []int
	for op := range 256 {
		for _, low := range []int{0, 1, 0x123000, 0xF0000A, 0xF0FFFF, 0xFFFFFF} {
			words = append(words, op<<24|low)
		}
	}
	first := make([]told, len(words))
	for k, w := range words {
		first[k] = tell(w)
	}
	t.Run("again", func(t *testing.T) {
		for worker := range 4 {
			t.Run(strconv.Itoa(worker), func(t *testing.T) {
				t.Parallel()
				for k := len(words) - 1; k >= 0; k-- {
					if got := tell(words[k]); got != first[k] {
						t.Errorf("P203: of %#x: %+v, then %+v", words[k], first[k], got)
					}
				}
			})
		}
	})
}
