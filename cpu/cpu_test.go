package cpu_test

import (
	"math"
	"slices"
	"sync"
	"testing"

	"trunnion/api"
	"trunnion/cpu"
	"trunnion/isa"
)

// modulus is how many words there are; top is the first of those whose highest bit is 1, last the highest word.
const (
	modulus = 1 << 32
	top     = 1 << 31
	last    = modulus - 1
)

// asWord is a number as a word, found by division.
func asWord(n int) int { return (n%modulus + modulus) % modulus }

// signed is a number as a word with a sign.
func signed(n int) int {
	w := asWord(n)
	if w >= top {
		return w - modulus
	}
	return w
}

// numbers are words and other ints: edges, each bit alone, each bit missing, numbers beyond words.
func numbers() []int {
	list := []int{
		0, 3, 5, 6, 7, 10, 31, 32, 33, 63, 0x7F, 0x80, 0xFF, 0x7FFF, 0x8000, 0xFFFF, 0x55555555, 0xAAAAAAAA, 0x12345678,
		top - 1, top, top + 1, last - 1, last, modulus + 1, modulus + 5, 1<<40 | 7, 1<<40 | 31,
		-1, -2, -3, -5, -31, -32, -33, -128, -129, -32768, -32769, -top, -top - 1, -modulus, -modulus + 5,
		math.MaxInt, math.MaxInt - 1, math.MinInt, math.MinInt + 1,
	}
	for k := range 63 {
		list = append(list, 1<<k, ^(1 << k))
	}
	return list
}

// ops are all numbers near to operations, and others that have an operation's lowest bits.
func ops() []int {
	list := []int{
		math.MinInt, math.MinInt + 1, math.MinInt + 16, math.MinInt + 32, math.MinInt + 48, math.MaxInt, math.MaxInt - 1,
		modulus + 1, modulus + 16, modulus + 32, modulus + 48, -modulus + 1, -modulus + 35, -modulus + 50, 1<<40 + 24,
	}
	for op := -300; op <= 600; op++ {
		list = append(list, op)
	}
	return list
}

// power is 2^k.
func power(k int) int {
	p := 1
	for range k {
		p *= 2
	}
	return p
}

// bitwise is the word whose bits are what from tells of both numbers' bits.
func bitwise(x, y int, from func(p, q int) int) int {
	a, b, w := asWord(x), asWord(y), 0
	for k := range 32 {
		w += from(a%2, b%2) * power(k)
		a, b = a/2, b/2
	}
	return w
}

// product is the lowest 32 bits of a product, found by halves, none of which is beyond an int.
func product(a, b int) int {
	high := asWord(a * (b / 65536))
	return asWord(high*65536 + a*(b%65536))
}

// floor is the greatest number that is not above n / d; d is above 0.
func floor(n, d int) int {
	q := n / d
	if n%d < 0 {
		q--
	}
	return q
}

func count(b bool) int {
	if b {
		return 1
	}
	return 0
}

// aluOf is the model of Alu, by the operations' names.
func aluOf(name string, x, y int) int {
	a, b := asWord(x), asWord(y)
	places := power(b % 32)
	switch name {
	case "add", "addi":
		return asWord(a + b)
	case "sub":
		return asWord(a - b)
	case "and", "andi":
		return bitwise(x, y, func(p, q int) int { return p * q })
	case "or", "ori":
		return bitwise(x, y, func(p, q int) int { return p + q - p*q })
	case "xor", "xori":
		return bitwise(x, y, func(p, q int) int { return (p + q) % 2 })
	case "sll", "slli":
		return product(a, places)
	case "srl", "srli":
		return a / places
	case "sra", "srai":
		return asWord(floor(signed(x), places))
	case "mul":
		return product(a, b)
	case "slt", "slti":
		return count(signed(x) < signed(y))
	case "sltu":
		return count(a < b)
	case "divu":
		if b == 0 {
			return last
		}
		return a / b
	case "remu":
		if b == 0 {
			return a
		}
		return a % b
	}
	return product(b, 65536) // lui
}

// aluNames are the names of Alu's operations.
func aluNames() []string {
	return []string{
		"add", "sub", "and", "or", "xor", "sll", "srl", "sra", "mul", "slt", "sltu", "divu", "remu",
		"addi", "andi", "ori", "xori", "slli", "srli", "srai", "lui", "slti",
	}
}

// takenOf is the model of Taken, by the branches' names.
func takenOf(name string, x, y int) bool {
	a, b := asWord(x), asWord(y)
	return map[string]bool{
		"beq": a == b, "bne": a != b,
		"blt": signed(x) < signed(y), "bge": signed(x) >= signed(y),
		"bltu": a < b, "bgeu": a >= b,
	}[name]
}

func branchNames() []string { return []string{"beq", "bne", "blt", "bge", "bltu", "bgeu"} }

func TestP901Examples(t *testing.T) {
	if v, ok := cpu.Alu(2, 1, 2); v != 0xFFFFFFFF || !ok {
		t.Errorf("Alu(2, 1, 2) = %#x, %v", v, ok)
	}
}

func TestP901AluRows(t *testing.T) {
	for _, r := range []struct{ op, x, y, want int }{
		{1, 2, 3, 5}, {1, last, 2, 1}, {1, math.MaxInt, math.MaxInt, last - 1},
		{2, 9, 4, 5}, {2, 0, 1, last}, {2, math.MinInt, 1, last},
		{3, 12, 10, 8}, {3, -1, -1, last}, {3, modulus + 5, modulus + 4, 4},
		{4, 12, 10, 14}, {4, -1, 0, last}, {4, modulus, 1, 1},
		{5, 12, 10, 6}, {5, -1, 0, last}, {5, -1, last, 0}, {5, modulus, 1, 1},
		{6, 1, 31, top}, {6, 1, 32, 1}, {6, 3, -1, top},
		{7, top, 31, 1}, {7, -1, 28, 15}, {7, 8, 32, 8},
		{8, top, 31, last}, {8, top - 1, 30, 1}, {8, 8, -30, 2},
		{9, 6, 7, 42}, {9, 65536, 65536, 0}, {9, last, last, 1}, {9, -3, 5, last - 14},
		{10, 1, 2, 1}, {10, 2, 2, 0}, {10, last, 0, 1}, {10, 0, last, 0}, {10, top, top - 1, 1}, {10, modulus, 1, 1}, {10, modulus + top, 0, 1},
		{11, 1, 2, 1}, {11, 2, 2, 0}, {11, last, 0, 0}, {11, 0, last, 1}, {11, 0, -1, 1}, {11, top - 1, top, 1}, {11, modulus, 1, 1},
		{12, 7, 2, 3}, {12, last, 2, top - 1}, {12, top, -1, 0}, {12, 5, 0, last}, {12, 5, modulus, last},
		{13, 7, 4, 3}, {13, last, 16, 15}, {13, 5, 0, 5}, {13, -1, 0, last},
		{16, 5, -1, 4}, {16, 0, -32768, 0xFFFF8000}, {16, last, 1, 0},
		{17, 0xABCDEF, 0xFFFF, 0xCDEF}, {17, -1, -1, last},
		{18, 0xA0000, 0xFFFF, 0xAFFFF}, {18, 0, -1, last},
		{19, 0xFF, 0xF0, 0x0F}, {19, 0, -1, last},
		{20, 1, 31, top}, {20, 5, 0, 5}, {20, 1, 32, 1},
		{21, top, 31, 1}, {21, -1, 1, top - 1},
		{22, top, 31, last}, {22, top, 1, top + top/2},
		{23, 0, 0x1234, 0x12340000}, {23, 99, 0xFFFF, 0xFFFF0000}, {23, -1, 0, 0}, {23, 0, 0x12345, 0x23450000}, {23, 0, -1, 0xFFFF0000},
		{24, -1, 0, 1}, {24, 0, -1, 0}, {24, last, -1, 0}, {24, 5, 6, 1}, {24, top, -32768, 1},
	} {
		if v, ok := cpu.Alu(r.op, r.x, r.y); v != r.want || !ok {
			t.Errorf("Alu(%d, %d, %d) = %#x, %v, not %#x", r.op, r.x, r.y, v, ok, r.want)
		}
	}
}

func TestP901AluAsTheModel(t *testing.T) {
	list := numbers()
	for _, name := range aluNames() {
		op := isa.Op(name)
		for _, x := range list {
			for _, y := range list {
				if v, ok := cpu.Alu(op, x, y); v != aluOf(name, x, y) || !ok {
					t.Fatalf("Alu(%s, %d, %d) = %#x, %v, not %#x", name, x, y, v, ok, aluOf(name, x, y))
				}
			}
		}
	}
}

func TestP901AluOfAnotherOp(t *testing.T) {
	for _, op := range ops() {
		want := slices.Contains(aluNames(), isa.Name(op))
		if v, ok := cpu.Alu(op, 7, 3); ok != want || !ok && v != 0 {
			t.Errorf("Alu(%d, 7, 3) = %d, %v", op, v, ok)
		}
	}
}

func TestP901TakenRows(t *testing.T) {
	for _, r := range []struct {
		op, x, y int
		want     bool
	}{
		{48, 5, 5, true}, {48, 5, 6, false}, {48, -1, last, true}, {48, modulus, 0, true},
		{49, 5, 5, false}, {49, 5, 6, true}, {49, -1, last, false}, {49, modulus, 0, false},
		{50, 1, 2, true}, {50, 2, 2, false}, {50, 3, 2, false}, {50, last, 0, true}, {50, 0, last, false}, {50, top, top - 1, true},
		{51, 1, 2, false}, {51, 2, 2, true}, {51, 3, 2, true}, {51, last, 0, false}, {51, 0, last, true}, {51, top, top - 1, false},
		{52, 1, 2, true}, {52, 2, 2, false}, {52, 3, 2, false}, {52, last, 0, false}, {52, 0, last, true}, {52, top, top - 1, false}, {52, -1, 0, false},
		{53, 1, 2, false}, {53, 2, 2, true}, {53, 3, 2, true}, {53, last, 0, true}, {53, 0, last, false}, {53, top, top - 1, true}, {53, -1, 0, true},
	} {
		if taken, ok := cpu.Taken(r.op, r.x, r.y); taken != r.want || !ok {
			t.Errorf("Taken(%d, %d, %d) = %v, %v, not %v", r.op, r.x, r.y, taken, ok, r.want)
		}
	}
}

func TestP901TakenAsTheModel(t *testing.T) {
	list := numbers()
	for _, name := range branchNames() {
		op := isa.Op(name)
		for _, x := range list {
			for _, y := range list {
				if taken, ok := cpu.Taken(op, x, y); taken != takenOf(name, x, y) || !ok {
					t.Fatalf("Taken(%s, %d, %d) = %v, %v", name, x, y, taken, ok)
				}
			}
		}
	}
}

func TestP901TakenOfAnotherOp(t *testing.T) {
	for _, op := range ops() {
		want := slices.Contains(branchNames(), isa.Name(op))
		for _, x := range []int{3, 7, 11} {
			if taken, ok := cpu.Taken(op, x, 7); ok != want || !ok && taken {
				t.Errorf("Taken(%d, %d, 7) = %v, %v", op, x, taken, ok)
			}
		}
	}
}

// access is what Access answers.
type access struct {
	size, kind int
	sign, ok   bool
}

// accesses is the model of Access, by the operations' names.
func accesses() map[string]access {
	return map[string]access{
		"lw": {4, 1, false, true}, "lh": {2, 1, true, true}, "lhu": {2, 1, false, true}, "lb": {1, 1, true, true}, "lbu": {1, 1, false, true},
		"sw": {4, 2, false, true}, "sh": {2, 2, false, true}, "sb": {1, 2, false, true},
	}
}

func accessOf(op int) access {
	size, kind, sign, ok := cpu.Access(op)
	return access{size, kind, sign, ok}
}

func TestP902Access(t *testing.T) {
	all := accesses()
	for _, op := range ops() {
		if a, want := accessOf(op), all[isa.Name(op)]; a != want {
			t.Errorf("Access(%d) = %v, not %v", op, a, want)
		}
	}
	for _, op := range []int{31, 37, 38, 39, 43} { // beside and between loads and stores
		if a := accessOf(op); a != (access{}) {
			t.Errorf("Access(%d) = %v", op, a)
		}
	}
}

func TestP902LoadedRows(t *testing.T) {
	for _, r := range []struct{ op, v, want int }{
		{35, 0x80, 0xFFFFFF80}, // the chapter's example
		{35, 0, 0}, {35, 0x7F, 0x7F}, {35, 0xFF, last}, {35, 0x17F, 0x7F}, {35, 0x180, 0xFFFFFF80}, {35, -1, last},
		{33, 0, 0}, {33, 0x80, 0x80}, {33, 0x7FFF, 0x7FFF}, {33, 0x8000, 0xFFFF8000}, {33, 0xFFFF, last}, {33, 0x17FFF, 0x7FFF}, {33, modulus + 0x8000, 0xFFFF8000},
		{32, 0, 0}, {32, 0x80, 0x80}, {32, 0x8000, 0x8000}, {32, top, top}, {32, last, last},
		{34, 0, 0}, {34, 0x80, 0x80}, {34, 0x8000, 0x8000}, {34, 0xFFFF, 0xFFFF},
		{36, 0, 0}, {36, 0x7F, 0x7F}, {36, 0x80, 0x80}, {36, 0xFF, 0xFF},
		{36, 0x1FF, 0x1FF}, {34, 0x1FFFF, 0x1FFFF}, {32, modulus + 5, modulus + 5}, {32, -1, -1}, // as it is
		{40, 5, 0}, {41, 5, 0}, {42, 5, 0}, {37, 5, 0}, {0, 5, 0}, {1, 5, 0},
	} {
		if v := cpu.Loaded(r.op, r.v); v != r.want {
			t.Errorf("Loaded(%d, %#x) = %#x, not %#x", r.op, r.v, v, r.want)
		}
	}
}

// loadedOf is the model of Loaded: what is signed is below 0 from half of its numbers on.
func loadedOf(name string, v int) int {
	extended := func(numbers int) int {
		n := (v%numbers + numbers) % numbers
		if n >= numbers/2 {
			n -= numbers
		}
		return asWord(n)
	}
	switch name {
	case "lb":
		return extended(256)
	case "lh":
		return extended(65536)
	case "lw", "lhu", "lbu":
		return v
	}
	return 0
}

func TestP902LoadedAsTheModel(t *testing.T) {
	list := numbers()
	for _, op := range ops() {
		for _, v := range list {
			if got, want := cpu.Loaded(op, v), loadedOf(isa.Name(op), v); got != want {
				t.Fatalf("Loaded(%d, %#x) = %#x, not %#x", op, v, got, want)
			}
		}
	}
}

// whole is a state all of whose fields are told; its control registers are so many.
func whole(csrs int) api.State {
	s := api.State{Pc: 400, Halt: true, Stuck: true, Out: []byte("out")}
	for k := range 16 {
		s.Regs = append(s.Regs, 1000+k)
	}
	for k := range csrs {
		s.Csr = append(s.Csr, 100+4*k)
	}
	return s
}

// same tells whether two states are the same; no list is an empty one.
func same(a, b api.State) bool {
	return slices.Equal(a.Regs, b.Regs) && slices.Equal(a.Csr, b.Csr) && slices.Equal(a.Out, b.Out) &&
		a.Pc == b.Pc && a.Halt == b.Halt && a.Stuck == b.Stuck
}

// clone is the same state, in memory of its own.
func clone(s api.State) api.State {
	s.Regs, s.Csr, s.Out = slices.Clone(s.Regs), slices.Clone(s.Csr), slices.Clone(s.Out)
	return s
}

// filled is a state with all its control registers: missing ones are 0.
func filled(s api.State) api.State {
	s = clone(s)
	for len(s.Csr) < 11 {
		s.Csr = append(s.Csr, 0)
	}
	return s
}

// bit is the k-th bit of a number, found by halves.
func bit(n, k int) int { return asWord(n) / power(k) % 2 }

// entered is the model of Enter; Status goes bit by bit: IE, PIE, S, PS.
func entered(s api.State, cause, tval int) api.State {
	s = filled(s)
	status := s.Csr[0]
	s.Csr[0] = 2*bit(status, 0) + 4 + 8*bit(status, 2)
	s.Csr[2], s.Csr[3], s.Csr[4] = asWord(s.Pc), asWord(cause), asWord(tval)
	s.Pc = asWord(s.Csr[1])
	return s
}

// left is the model of Leave.
func left(s api.State) api.State {
	s = filled(s)
	status := s.Csr[0]
	s.Csr[0] = bit(status, 1) + 2 + 4*bit(status, 3)
	s.Pc = asWord(s.Csr[2])
	return s
}

func TestP903Enter(t *testing.T) {
	s := whole(0)
	s.Csr = []int{1, 0x2000, 3, 4, 5, 6, 7, 8, 9, 10, 11}
	want := whole(0)
	want.Pc = 0x2000
	want.Csr = []int{6, 0x2000, 400, 8, 77, 6, 7, 8, 9, 10, 11}
	if got := cpu.Enter(s, 8, 77); !same(got, want) {
		t.Errorf("Enter: %+v, not %+v", got, want)
	}
}

func TestP903Leave(t *testing.T) {
	s := whole(0)
	s.Csr = []int{6, 0x2000, 0x3004, 4, 5, 6, 7, 8, 9, 10, 11}
	want := whole(0)
	want.Pc = 0x3004
	want.Csr = []int{3, 0x2000, 0x3004, 4, 5, 6, 7, 8, 9, 10, 11}
	if got := cpu.Leave(s); !same(got, want) {
		t.Errorf("Leave: %+v, not %+v", got, want)
	}
}

func TestP903TakesWords(t *testing.T) {
	s := whole(11)
	s.Pc = -4
	s.Csr[api.Status] = -16 + 5
	s.Csr[api.Tvec] = modulus + 0x103
	got := cpu.Enter(s, -1, math.MinInt+9)
	want := whole(11)
	want.Pc = 0x103
	want.Csr[api.Tvec] = modulus + 0x103
	want.Csr[api.Status], want.Csr[api.Epc], want.Csr[api.Cause], want.Csr[api.Tval] = 14, last-3, last, 9
	if !same(got, want) {
		t.Errorf("Enter: %+v, not %+v", got, want)
	}
	s.Csr[api.Status], s.Csr[api.Epc] = modulus-6, -1
	got = cpu.Leave(s)
	want = s
	want.Csr = slices.Clone(s.Csr)
	want.Pc, want.Csr[api.Status] = last, 7
	if !same(got, want) {
		t.Errorf("Leave: %+v, not %+v", got, want)
	}
}

// TestP903MissingRegisters asks of states with any count of control registers: missing ones are 0, and all are told.
func TestP903MissingRegisters(t *testing.T) {
	for csrs := range 15 {
		s := whole(csrs)
		if got, want := cpu.Enter(s, 3, 4), entered(s, 3, 4); !same(got, want) {
			t.Errorf("Enter of %d control registers: %+v, not %+v", csrs, got, want)
		}
		if got, want := cpu.Leave(s), left(s); !same(got, want) {
			t.Errorf("Leave of %d control registers: %+v, not %+v", csrs, got, want)
		}
	}
	want := api.State{Csr: []int{4, 0, 0, 3, 4, 0, 0, 0, 0, 0, 0}}
	if got := cpu.Enter(api.State{}, 3, 4); !same(got, want) {
		t.Errorf("Enter of no state: %+v, not %+v", got, want)
	}
	want = api.State{Csr: []int{2, 0, 0, 0, 0, 0, 0, 0, 0, 0, 0}}
	if got := cpu.Leave(api.State{Csr: []int{}}); !same(got, want) {
		t.Errorf("Leave of no state: %+v, not %+v", got, want)
	}
}

// states are states of any ints, lists of any lengths, that hang on the seed alone.
func states(seed uint32) []api.State {
	list := numbers()
	next := func(n int) int {
		seed = seed*1664525 + 1013904223
		return int(seed>>8) % n
	}
	row := func(n int) []int {
		var r []int
		for range n {
			r = append(r, list[next(len(list))])
		}
		return r
	}
	all := make([]api.State, 400)
	for k := range all {
		s := api.State{Regs: row(next(20)), Csr: row(next(16)), Pc: list[next(len(list))], Halt: next(2) == 1, Stuck: next(2) == 1}
		for range next(9) {
			s.Out = append(s.Out, byte(next(256)))
		}
		all[k] = s
	}
	return all
}

func TestP903AsTheModel(t *testing.T) {
	list := numbers()
	for seed := range uint32(5) {
		for k, s := range states(seed) {
			cause, tval := list[k%len(list)], list[(7*k+3)%len(list)]
			if got, want := cpu.Enter(s, cause, tval), entered(s, cause, tval); !same(got, want) {
				t.Fatalf("Enter(%+v, %d, %d) = %+v, not %+v", s, cause, tval, got, want)
			}
			if got, want := cpu.Leave(s), left(s); !same(got, want) {
				t.Fatalf("Leave(%+v) = %+v, not %+v", s, got, want)
			}
		}
	}
}

// calls are Enter and Leave.
func calls() []func(api.State) api.State {
	return []func(api.State) api.State{
		func(s api.State) api.State { return cpu.Enter(s, 5, 6) },
		cpu.Leave,
	}
}

// roomy is a state each of whose lists has spare room, with numbers in it.
func roomy(csrs int) api.State {
	s := whole(csrs)
	s.Regs = append(slices.Clone(s.Regs), -1, -2, -3)[:len(s.Regs)]
	s.Csr = append(slices.Clone(s.Csr), make([]int, 20)...)
	for k := csrs; k < len(s.Csr); k++ {
		s.Csr[k] = -k - 1
	}
	s.Csr = s.Csr[:csrs]
	s.Out = append([]byte("out"), "spare"...)[:3]
	return s
}

// room is a list with its spare room.
func room[E any](list []E) []E { return list[:cap(list)] }

// widened is a state whose lists are told with their spare room.
func widened(s api.State) api.State {
	s.Regs, s.Csr, s.Out = room(s.Regs), room(s.Csr), room(s.Out)
	return s
}

// spoil writes over all of a state's lists, their spare room, too.
func spoil(s api.State) {
	s = widened(s)
	for k := range s.Regs {
		s.Regs[k] = 0xBAD
	}
	for k := range s.Csr {
		s.Csr[k] = 0xBAD
	}
	for k := range s.Out {
		s.Out[k] = '!'
	}
}

func TestP904HandedInStays(t *testing.T) {
	for which, call := range calls() {
		for csrs := range 14 {
			s := roomy(csrs)
			before := clone(widened(s))
			answer := call(s)
			if !same(widened(s), before) {
				t.Fatalf("call %d changed %d control registers' state: %+v", which, csrs, widened(s))
			}
			spoil(answer)
			if !same(widened(s), before) {
				t.Fatalf("call %d answers what was handed in (%d control registers)", which, csrs)
			}
		}
	}
}

func TestP904AnswersAreNew(t *testing.T) {
	for which, call := range calls() {
		for csrs := range 14 {
			s := roomy(csrs)
			first, second := call(s), call(s)
			want := clone(first)
			spoil(s)
			spoil(second)
			if !same(first, want) {
				t.Fatalf("call %d keeps an earlier answer or what was handed in (%d control registers)", which, csrs)
			}
			if again := call(roomy(csrs)); !same(again, want) {
				t.Fatalf("call %d: %+v, then %+v", which, want, again)
			}
		}
	}
}

// told is what the calls of numbers answer.
type told struct {
	answer, loaded    int
	alu, taken, which bool
	access            access
}

func tell(op, x, y int) told {
	answer, alu := cpu.Alu(op, x, y)
	taken, which := cpu.Taken(op, x, y)
	return told{answer, cpu.Loaded(op, x), alu, taken, which, accessOf(op)}
}

// row is what all calls tell, played by the seed.
func row(seed uint32) ([]told, []api.State) {
	list := numbers()
	n := int(seed)
	var numbersTold []told
	for op := range 60 {
		for range 20 {
			n++
			numbersTold = append(numbersTold, tell(op, list[n%len(list)], list[n*n%len(list)]))
		}
	}
	var statesTold []api.State
	for _, s := range states(seed) {
		statesTold = append(statesTold, cpu.Enter(s, n, int(seed)), cpu.Leave(s))
	}
	return numbersTold, statesTold
}

// TestP904SameAnswers asks the same in another order, and at the same time, with other calls between.
func TestP904SameAnswers(t *testing.T) {
	const rows = 6
	var first, again [rows][]told
	var firstStates, againStates [rows][]api.State
	for i := range first {
		first[i], firstStates[i] = row(uint32(i))
	}
	var wg sync.WaitGroup
	for i := rows - 1; i >= 0; i-- {
		wg.Go(func() { again[i], againStates[i] = row(uint32(i)) })
	}
	wg.Wait()
	for i := range first {
		if !slices.Equal(first[i], again[i]) || !slices.EqualFunc(firstStates[i], againStates[i], same) {
			t.Fatalf("row %d is told otherwise the second time", i)
		}
	}
}
