package bare_test

import (
	"bytes"
	"slices"
	"testing"

	"trunnion/api"
	"trunnion/bare"
	"trunnion/isa"
	"trunnion/walk"
)

const modulus = 1 << 32

// asWord is a number as a word, found by division.
func asWord(n int) int { return (n%modulus + modulus) % modulus }

// signed is a word as a number with a sign, of so many bytes.
func signed(w, size int) int {
	all := 1 << (8 * size)
	if w %= all; w >= all/2 {
		return w - all
	}
	return w
}

// flat is the model's memory.
type flat []byte

func (f flat) Load(addr, size int) (int, bool) {
	if addr%size != 0 || addr < 0 || addr+size > len(f) {
		return 0, false
	}
	v := 0
	for k := size - 1; k >= 0; k-- {
		v = v*256 + int(f[addr+k])
	}
	return v, true
}

func (f flat) Store(addr, size, v int) bool {
	_, ok := f.Load(addr, size)
	for k := 0; ok && k < size; k++ {
		f[addr+k] = byte(v)
		v /= 256
	}
	return ok
}

func (f flat) Get(addr, n int) []byte {
	if addr < 0 || n < 0 || n > len(f) || addr > len(f)-n {
		return nil
	}
	return bytes.Clone(f[addr : addr+n])
}

func (f flat) Put(addr int, b []byte) bool {
	if addr < 0 || addr > len(f)-len(b) {
		return false
	}
	copy(f[addr:], b)
	return true
}

// model is chapter 10 once more: each step goes through its points from the first on, and ends at the one that it comes to.
type model struct {
	memory      flat
	r           [16]int
	c           [api.Csrs]int
	pc          int
	halt, stuck bool
	in, out     []byte
	ports       api.Ports
	did         map[string]int // how often a step ended where
}

func newModel(pages int, image api.Image, ports api.Ports) *model {
	m := &model{memory: make(flat, pages*4096), pc: asWord(image.Entry), ports: ports, did: map[string]int{}}
	copy(m.memory, image.Bytes)
	m.c[api.Status] = 4
	return m
}

func (m *model) feed(b int) {
	if len(m.in) < 16 {
		m.in = append(m.in, byte(b))
	}
}

func (m *model) pend() int {
	pend := 0
	if m.c[api.Timecmp] != 0 && m.c[api.Time] >= m.c[api.Timecmp] {
		pend = 1
	}
	if len(m.in) > 0 {
		pend += 2
	}
	if m.ports != nil && m.ports.Messages() > 0 {
		pend += 4
	}
	return pend
}

func (m *model) state() api.State {
	s := api.State{Regs: slices.Clone(m.r[:]), Pc: m.pc, Csr: slices.Clone(m.c[:]), Halt: m.halt, Stuck: m.stuck, Out: bytes.Clone(m.out)}
	s.Csr[api.Pend] = m.pend()
	return s
}

func (m *model) user() bool { return m.c[api.Status]/4%2 == 0 }

// trap is a trap, or what makes the machine stuck; its name is told.
func (m *model) trap(name string, cause, tval int) string {
	if cause < 1<<31 && !m.user() && m.pc == m.c[api.Tvec] {
		m.stuck = true
		return "stuck"
	}
	ie, s := m.c[api.Status]%2, m.c[api.Status]/4%2
	m.c[api.Status] = 4 + 2*ie + 8*s
	m.c[api.Epc], m.c[api.Cause], m.c[api.Tval] = m.pc, cause, tval
	m.pc = m.c[api.Tvec]
	return name
}

func (m *model) step() bool {
	if m.halt || m.stuck {
		return false
	}
	m.c[api.Pend] = m.pend()
	name := m.interrupt()
	if name == "" {
		name = m.fetch()
	}
	m.r[0] = 0
	m.did[name]++
	m.c[api.Time] = asWord(m.c[api.Time] + 1)
	return true
}

// interrupt is point 1; the empty name: there is none.
func (m *model) interrupt() string {
	if m.user() || m.c[api.Status]%2 == 1 {
		for line, name := range []string{"timer", "uart", "port"} {
			if m.c[api.Pend]>>line%2 == 1 && m.c[api.Ien]>>line%2 == 1 {
				return m.trap(name, 1<<31+line, 0)
			}
		}
	}
	return ""
}

// fetch is points 2 and 3, and goes on to 4.
func (m *model) fetch() string {
	if m.pc%4 != 0 {
		return m.trap("fetch align", api.CAlign, m.pc)
	}
	addr, cause := walk.Walk(m.memory, m.c[api.Ptbr], m.pc, 0, m.user())
	if cause == api.CBus {
		return m.trap("fetch bus of a table", cause, m.pc)
	}
	if cause != 0 {
		return m.trap("fetch fault", cause, m.pc)
	}
	w, ok := m.memory.Load(addr, 4)
	if !ok {
		return m.trap("fetch bus", api.CBus, m.pc)
	}
	i, err := isa.Decode(w)
	if err != api.OK {
		return m.trap("illegal", api.CIllegal, w)
	}
	name := isa.Name(i.Op)
	if m.user() && slices.Contains([]string{"sret", "wfi", "csrr", "csrw"}, name) {
		return m.trap("user "+name, api.CPriv, w)
	}
	return m.do(name, i)
}

// do is point 4.
func (m *model) do(name string, i api.Ins) string {
	x, pc := m.r[i.B], m.pc
	switch name {
	case "lw", "lh", "lhu", "lb", "lbu", "sw", "sh", "sb":
		return m.move(name, i, asWord(x+i.Imm))
	case "ecall":
		return m.ecall()
	case "brk":
		return m.trap(name, api.CBreak, 0)
	}
	m.pc = asWord(pc + 4)
	switch name {
	case "beq", "bne", "blt", "bge", "bltu", "bgeu":
		if branches(name, m.r[i.A], x) {
			m.pc = asWord(pc + 4*i.Imm)
			return name + " taken"
		}
	case "jal":
		m.r[i.A], m.pc = m.pc, asWord(pc+4*i.Imm)
	case "jalr":
		m.r[i.A], m.pc = m.pc, asWord(x+i.Imm)
	case "sret":
		pie, ps := m.c[api.Status]/2%2, m.c[api.Status]/8%2
		m.c[api.Status] = pie + 2 + 4*ps
		m.pc = m.c[api.Epc]
	case "wfi":
		if m.c[api.Pend]&m.c[api.Ien] == 0 {
			m.pc = pc
			return "wfi waits"
		}
	case "csrr":
		m.r[i.A] = m.c[i.Imm]
	case "csrw":
		m.write(i.Imm, m.r[i.A])
	case "add", "sub", "and", "or", "xor", "sll", "srl", "sra", "mul", "slt", "sltu", "divu", "remu":
		m.r[i.A] = calculated(name, x, m.r[i.C])
	case "lui":
		m.r[i.A] = asWord(i.Imm * 65536)
	default:
		m.r[i.A] = calculated(map[string]string{"addi": "add", "andi": "and", "ori": "or", "xori": "xor", "slli": "sll", "srli": "srl", "srai": "sra", "slti": "slt"}[name], x, asWord(i.Imm))
	}
	return name
}

func branches(name string, a, b int) bool {
	switch name {
	case "beq":
		return a == b
	case "bne":
		return a != b
	case "blt":
		return signed(a, 4) < signed(b, 4)
	case "bge":
		return signed(a, 4) >= signed(b, 4)
	case "bltu":
		return a < b
	}
	return a >= b
}

func calculated(name string, x, y int) int {
	switch name {
	case "add":
		return asWord(x + y)
	case "sub":
		return asWord(x - y)
	case "and":
		return x & y
	case "or":
		return x | y
	case "xor":
		return x ^ y
	case "sll":
		return asWord(x << (y % 32))
	case "srl":
		return x >> (y % 32)
	case "sra":
		return asWord(signed(x, 4) >> (y % 32))
	case "mul":
		return asWord(signed(x, 4) * signed(y, 4))
	case "slt":
		if signed(x, 4) < signed(y, 4) {
			return 1
		}
	case "sltu":
		if x < y {
			return 1
		}
	case "divu":
		if y == 0 {
			return modulus - 1
		}
		return x / y
	case "remu":
		if y == 0 {
			return x
		}
		return x % y
	}
	return 0
}

// write is csrw.
func (m *model) write(n, v int) {
	switch n {
	case api.Status:
		m.c[n] = m.c[n]&4 | v&11
	case api.Tvec, api.Epc:
		m.c[n] = m.c[n]%4 + v/4*4 // a trap may have left an Epc that is no multiple of 4
	case api.Cause, api.Tval, api.Scratch, api.Timecmp:
		m.c[n] = v
	case api.Ptbr:
		m.c[n] = v&(1<<31) + v%(1<<20)
	case api.Ien:
		m.c[n] = v % 8
	}
}

func (m *model) ecall() string {
	if m.user() {
		return m.trap("call", api.CCall, 0)
	}
	if m.r[1] == 0 {
		m.halt = true
		return "halt"
	}
	answer := modulus - 1
	if m.ports != nil {
		answer = m.ports.Call(m.r[1], [3]int{m.r[2], m.r[3], m.r[4]}, m.memory)
	}
	m.r[1] = asWord(answer)
	m.pc = asWord(m.pc + 4)
	return "hypercall"
}

// move is a load or a store at va.
func (m *model) move(name string, i api.Ins, va int) string {
	size := map[byte]int{'w': 4, 'h': 2, 'b': 1}[name[1]]
	kind, what := 1, "load"
	if name[0] == 's' {
		kind, what = 2, "store"
	}
	if va%size != 0 {
		return m.trap(what+" align", api.CAlign, va)
	}
	addr, cause := walk.Walk(m.memory, m.c[api.Ptbr], va, kind, m.user())
	if cause == api.CBus {
		return m.trap(what+" bus of a table", cause, va)
	}
	if cause != 0 {
		return m.trap(what+" fault", cause, va)
	}
	v, ok := m.r[i.A], false
	switch {
	case addr >= 0xF0000000:
		name += " of the uart"
		v, ok = m.line(addr-0xF0000000, size, kind, v)
	case kind == 2:
		ok = m.memory.Store(addr, size, v)
	default:
		v, ok = m.memory.Load(addr, size)
	}
	if !ok {
		return m.trap(what+" bus", api.CBus, va)
	}
	if kind == 1 {
		if name == "lh" || name == "lb" {
			v = asWord(signed(v, size))
		}
		m.r[i.A] = v
	}
	m.pc = asWord(m.pc + 4)
	return name
}

// line is the UART: what is loaded, and whether something is there.
func (m *model) line(off, size, kind, v int) (int, bool) {
	if size != 4 || off != 0 && off != 4 && off != 8 {
		return 0, false
	}
	if kind == 2 {
		if off == 0 {
			m.out = append(m.out, byte(v))
		}
		return 0, true
	}
	v = 0
	if off == 8 {
		v = len(m.in)
	}
	if off == 4 {
		v = modulus - 1
		if len(m.in) > 0 {
			v, m.in = int(m.in[0]), m.in[1:]
		}
	}
	return v, true
}

// dice tells numbers that look like random ones, the same ones each time.
type dice uint64

func (d *dice) roll(n int) int {
	*d = *d*6364136223846793005 + 1442695040888963407
	return int(uint64(*d)>>33) % n
}

// one tells one of a list.
func one[T any](d *dice, list ...T) T { return list[d.roll(len(list))] }

// desk is ports that keep what they were asked, and write into the memory.
type desk struct {
	messages int
	calls    [][4]int
}

func (p *desk) Messages() int { return p.messages }

func (p *desk) Call(op int, args [3]int, m api.Bytes) int {
	p.calls = append(p.calls, [4]int{op, args[0], args[1], args[2]})
	sum := op + args[0]
	for _, b := range m.Get(args[1]%5000*4, 8) {
		sum += int(b)
	}
	m.Put(args[2]%5000*4, []byte{byte(sum), 2, 3})
	return sum - 1000
}

// address tells one that a program may go to, or one that it can't.
func (d *dice) address() int {
	switch d.roll(8) {
	case 0, 1, 2:
		return d.roll(12 * 1024)
	case 3, 4:
		return d.roll(3*1024) * 4
	case 5, 6:
		return 0xF0000000 + one(d, 0, 0, 0, 4, 4, 8, 2, 12)
	}
	return one(d, 0xFFFFFFFC, 0xFFFFFFFF, 0, 9*4096, 0x400000, 0xEFFFFFFC, 0x80000000, 0x7FFFFFFF)
}

// instruction tells a word: mostly one of an instruction.
func (d *dice) instruction() int {
	if d.roll(60) == 0 {
		return d.roll(1 << 32)
	}
	i := api.Ins{Op: one(d,
		1, 2, 3, 4, 5, 6, 7, 8, 9, 10, 11, 12, 13, 16, 17, 18, 19, 20, 21, 22, 23, 24,
		32, 32, 32, 33, 34, 35, 36, 40, 40, 40, 41, 42, 48, 49, 50, 51, 52, 53, 56, 57,
		64, 65, 65, 66, 68, 69, 69, 70)}
	w := i.Op<<24 | d.roll(16)<<20
	switch {
	case i.Op < 16:
		return w | d.roll(16)<<16 | d.roll(16)<<12
	case i.Op < 20:
		return w | d.roll(16)<<16 | d.roll(1<<16)
	case i.Op < 23:
		return w | d.roll(16)<<16 | d.roll(32)
	case i.Op == 23:
		return w | d.roll(1<<16)
	case i.Op < 48, i.Op == 57:
		return w | d.roll(16)<<16 | one(d, 0, 0, 4, 8, d.roll(64), 1<<16-4)
	case i.Op < 56:
		return w | d.roll(16)<<16 | one(d, 2, 3, 1<<16-2, d.roll(16))
	case i.Op == 56:
		return w | one(d, 2, 3, 1<<20-3, d.roll(16))
	case i.Op < 67, i.Op == 70:
		return i.Op << 24
	}
	return w | d.roll(api.Csrs)
}

// program tells an image of eight pages: code that begins with registers and control registers, more code, and page tables in the pages 6 and 7.
func (d *dice) program() api.Image {
	var words []int
	li := func(r, v int) {
		words = append(words, 23<<24|r<<20|v>>16, 18<<24|r<<20|r<<16|v%65536)
	}
	set := func(n, v int) {
		li(15, v)
		words = append(words, 69<<24|15<<20|n)
	}
	set(api.Tvec, one(d, 0x400, 0x404, 0x1000, 0x2000, 0x8000))
	set(api.Epc, one(d, 0x100, 0x200, 0x1000, 0x1800))
	set(api.Timecmp, one(d, 0, 0, 70, 90))
	set(api.Ien, d.roll(8))
	set(api.Status, one(d, 0, 1, 2, 3, 8, 8, 9, 10, 11))
	if d.roll(2) == 0 {
		set(api.Ptbr, 1<<31|one(d, 6, 6, 6, 6, 6, 5, 8))
	}
	for r := 1; r < 16; r++ {
		li(r, d.address())
	}
	words = append(words, one(d, 65, 65, 65, 66)<<24)
	for len(words) < 3*1024 {
		words = append(words, d.instruction())
	}
	words = append(words, make([]int, 4*1024)...)
	for _, k := range []int{0, 1, 0xF0000000 >> 22} {
		words[6*1024+k] = one(d, 7, 7, 7, 7, 7, 8)*4096 | one(d, 1, 1, 1, 1, 1, 1, 0, 3)
	}
	words[6*1024+0x3FF] = one(d, 7, 8)*4096 | 1
	for k := range 1024 {
		frame := one(d, k%8, k%8, k%8, 0xF0000, 8)
		words = append(words, frame*4096|one(d, 31, 15, 27, 11, 23, 7, 15, 31, d.roll(32)))
	}
	image := api.Image{Entry: one(d, 0, 0, 0, 0, 0, 0, 0, 2, 0x9000)}
	for _, w := range words {
		image.Bytes = append(image.Bytes, byte(w), byte(w>>8), byte(w>>16), byte(w>>24))
	}
	return image
}

func sameState(a, b api.State) bool {
	return slices.Equal(a.Regs, b.Regs) && a.Pc == b.Pc && slices.Equal(a.Csr, b.Csr) && a.Halt == b.Halt && a.Stuck == b.Stuck && bytes.Equal(a.Out, b.Out)
}

// play plays a program on a machine and on the model, and tells where the model's steps ended.
func play(t *testing.T, seed int) map[string]int {
	d := dice(seed)
	image := d.program()
	mine, theirs := &desk{}, &desk{}
	m, o := bare.New(8, image, mine), newModel(8, image, theirs)
	if d.roll(8) == 0 {
		m, o = bare.New(8, image, nil), newModel(8, image, nil)
	}
	for step := range 300 {
		if d.roll(20) == 0 {
			b := d.roll(1000) - 500
			m.In(b)
			o.feed(b)
		}
		mine.messages = one(&d, 0, 0, 0, 0, -1, 1, 5)
		theirs.messages = mine.messages
		made, should := m.Step(), o.step()
		if s, want := m.State(), o.state(); made != should || !sameState(s, want) {
			t.Fatalf("P1002: seed %d, step %d: %v %+v, not %v %+v", seed, step, made, s, should, want)
		}
		if !made {
			break
		}
	}
	if !bytes.Equal(m.Read(0, 8*4096), o.memory) || !slices.Equal(mine.calls, theirs.calls) {
		t.Fatalf("P1002: seed %d: the memories or the calls differ", seed)
	}
	return o.did
}

// TestP1002Model plays many programs; each end of a step that the chapter names must have come often.
func TestP1002Model(t *testing.T) {
	did := map[string]int{}
	for seed := range 5000 {
		for name, n := range play(t, seed) {
			did[name] += n
		}
	}
	for _, name := range []string{
		"timer", "uart", "port", "fetch align", "fetch fault", "fetch bus of a table", "fetch bus", "illegal",
		"user sret", "user wfi", "user csrr", "user csrw", "stuck", "halt", "hypercall", "call", "brk", "wfi", "wfi waits", "sret", "csrr", "csrw",
		"load align", "load fault", "load bus of a table", "load bus", "store align", "store fault", "store bus of a table", "store bus",
		"lw", "lh", "lhu", "lb", "lbu", "sw", "sh", "sb", "lw of the uart", "sw of the uart",
		"beq", "bne", "blt", "bge", "bltu", "bgeu", "beq taken", "bne taken", "blt taken", "bge taken", "bltu taken", "bgeu taken", "jal", "jalr",
		"add", "sub", "and", "or", "xor", "sll", "srl", "sra", "mul", "slt", "sltu", "divu", "remu",
		"addi", "andi", "ori", "xori", "slli", "srli", "srai", "lui", "slti",
	} {
		if did[name] < 10 {
			t.Errorf("the programs come to %q %d times", name, did[name])
		}
	}
}
