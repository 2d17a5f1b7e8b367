package bare_test

import (
	"bytes"
	"math"
	"slices"
	"sync"
	"testing"

	"trunnion/api"
	"trunnion/bare"
	"trunnion/isa"
)

// Where a setting's code stands, and how many pages its machine has.
const (
	prologue = 7 * api.Page
	here     = 0x1000
	handler  = 0x2000
	pages    = 8
	last     = 1<<32 - 1
)

// ins tells the word of an instruction: its name, its registers, its Imm.
func ins(name string, fields ...int) int {
	i := api.Ins{Op: isa.Op(name)}
	switch {
	case len(fields) == 3 && i.Op < 16:
		i.A, i.B, i.C = fields[0], fields[1], fields[2]
	case len(fields) == 3:
		i.A, i.B, i.Imm = fields[0], fields[1], fields[2]
	case len(fields) == 2:
		i.A, i.Imm = fields[0], fields[1]
	}
	w, err := isa.Encode(i)
	if err != api.OK {
		panic(name)
	}
	return w
}

// li tells the two words that bring v into a register.
func li(r, v int) []int { return []int{ins("lui", r, v>>16), ins("ori", r, r, v%65536)} }

func packed(words ...int) []byte {
	var b []byte
	for _, w := range words {
		b = append(b, byte(w), byte(w>>8), byte(w>>16), byte(w>>24))
	}
	return b
}

// setting is what a machine is like ahead of the step that a test is about; Tvec is handler, if csr does not say it.
type setting struct {
	user, ie bool
	pc       int // 0: here
	regs     map[int]int
	csr      map[int]int
	words    map[int]int // of the memory
	in       string
	ports    api.Ports
}

// machine tells a machine that has come to that setting, by code at the prologue that ends with sret. It uses register 15.
func (s setting) machine() *bare.Machine {
	var code []int
	write := func(n, v int) {
		code = append(code, li(15, v)...)
		code = append(code, ins("csrw", 15, n))
	}
	for r, v := range s.regs {
		code = append(code, li(r, v)...)
	}
	if s.pc == 0 {
		s.pc = here
	}
	status := 0
	if !s.user {
		status |= api.PS
	}
	if s.ie {
		status |= api.PIE
	}
	write(api.Tvec, handler)
	write(api.Epc, s.pc)
	write(api.Status, status)
	for n, v := range s.csr {
		if n != api.Ptbr {
			write(n, v)
		}
	}
	if v, ok := s.csr[api.Ptbr]; ok {
		write(api.Ptbr, v)
	}
	code = append(code, ins("sret"))
	image := api.Image{Entry: prologue, Bytes: make([]byte, pages*api.Page)}
	copy(image.Bytes[prologue:], packed(code...))
	for addr, w := range s.words {
		copy(image.Bytes[addr:], packed(w))
	}
	m := bare.New(pages, image, s.ports)
	if made := m.Run(len(code)); made != len(code) {
		panic("the setting is not come to")
	}
	for _, b := range []byte(s.in) {
		m.In(int(b))
	}
	return m
}

// change is what a step makes of a state and of the memory, but Time.
type change func(s *api.State, memory []byte)

// steps lets the machine make one step, which must do that change, and nothing else.
func steps(t *testing.T, name string, m *bare.Machine, does change) {
	t.Helper()
	want, memory := m.State(), m.Read(0, pages*api.Page)
	does(&want, memory)
	want.Csr[api.Time]++
	if !m.Step() {
		t.Errorf("%s: no step", name)
	}
	if s := m.State(); !sameState(s, want) {
		t.Errorf("%s: %+v, not %+v", name, s, want)
	}
	if !bytes.Equal(m.Read(0, pages*api.Page), memory) {
		t.Errorf("%s: the memory is another one", name)
	}
}

// trapped is the change that a trap makes.
func trapped(cause, tval int) change {
	return func(s *api.State, _ []byte) {
		old := s.Csr[api.Status]
		s.Csr[api.Status] = api.S
		if old&api.IE != 0 {
			s.Csr[api.Status] |= api.PIE
		}
		if old&api.S != 0 {
			s.Csr[api.Status] |= api.PS
		}
		s.Csr[api.Epc], s.Csr[api.Cause], s.Csr[api.Tval] = s.Pc, cause, tval
		s.Pc = s.Csr[api.Tvec]
	}
}

// writes is the change that a register's writing makes.
func writes(r, v int) change {
	return func(s *api.State, _ []byte) {
		s.Regs[r] = v
		s.Pc += 4
	}
}

// goes is the change of Pc alone.
func goes(pc int) change {
	return func(s *api.State, _ []byte) { s.Pc = pc }
}

// quiet is ports that answer always the same.
type quiet struct{ messages, answer int }

func (q quiet) Messages() int                         { return q.messages }
func (q quiet) Call(_ int, _ [3]int, _ api.Bytes) int { return q.answer }

// broken is ports that panic.
type broken struct{}

func (broken) Messages() int                         { panic("messages") }
func (broken) Call(_ int, _ [3]int, _ api.Bytes) int { panic("call") }

// counter is ports that count what they are asked.
type counter struct{ messages, calls int }

func (c *counter) Messages() int { c.messages++; return 0 }

func (c *counter) Call(_ int, _ [3]int, _ api.Bytes) int { c.calls++; return 0 }

func TestP1001New(t *testing.T) {
	image := api.Image{Entry: 8, Bytes: []byte{1, 2, 3}}
	for _, x := range []struct{ pages, size int }{
		{0, 0}, {1, 4096}, {3, 3 * 4096}, {256, 1 << 20}, {257, 1 << 20}, {math.MaxInt, 1 << 20}, {-1, 0}, {math.MinInt, 0},
	} {
		m := bare.New(x.pages, image, nil)
		want := make([]byte, x.size)
		copy(want, image.Bytes)
		if !bytes.Equal(m.Read(0, x.size), want) || len(m.Read(0, x.size+1)) != 0 {
			t.Errorf("P1001: %d pages are not %d bytes", x.pages, x.size)
		}
	}
	first := api.State{Regs: make([]int, 16), Pc: 8, Csr: []int{4, 0, 0, 0, 0, 0, 0, 0, 0, 0, 0}}
	if s := bare.New(1, image, nil).State(); !sameState(s, first) {
		t.Errorf("P1001: %+v", s)
	}
	for _, entry := range []int{0, 2, last, last + 1, 1<<40 | 12, -4, math.MinInt, math.MaxInt} {
		if s := bare.New(1, api.Image{Entry: entry}, nil).State(); s.Pc != asWord(entry) {
			t.Errorf("P1001: Pc of the entry %d is %d", entry, s.Pc)
		}
	}
}

func TestP1001ImageThatDoesNotFit(t *testing.T) {
	image := api.Image{Bytes: make([]byte, api.Page+3)}
	for k := range image.Bytes {
		image.Bytes[k] = byte(k%255 + 1)
	}
	m := bare.New(1, image, nil)
	if !bytes.Equal(m.Read(0, api.Page), image.Bytes[:api.Page]) {
		t.Error("P1001: not the bytes that fit")
	}
	if m := bare.New(0, image, nil); len(m.Read(0, 1)) != 0 || !m.Step() || m.State().Stuck != true {
		t.Error("P1001: a machine without memory")
	}
}

func TestP1001ImageIsNotKept(t *testing.T) {
	all := []byte{1, 2, 3, 4, 5, 6}
	m := bare.New(1, api.Image{Bytes: all[:4]}, nil)
	m.Run(10)
	if !bytes.Equal(all, []byte{1, 2, 3, 4, 5, 6}) {
		t.Error("P1001: what was handed in is another one")
	}
	all[0] = 9
	m.Reset()
	if !bytes.Equal(m.Read(0, 6), []byte{1, 2, 3, 4, 0, 0}) {
		t.Error("P1001: what was handed in is kept")
	}
}

func TestP1001NoPorts(t *testing.T) {
	var none *counter
	for name, p := range map[string]api.Ports{"nil": nil, "broken": broken{}, "a nil pointer": none} {
		s := setting{regs: map[int]int{1: 5}, words: map[int]int{here: ins("ecall")}, csr: map[int]int{api.Ien: 7}, ports: p}
		m := s.machine()
		if m.State().Csr[api.Pend] != 0 {
			t.Errorf("P1001: %s: messages", name)
		}
		steps(t, "P1001: "+name, m, writes(1, last))
	}
}

func TestP1002Stopped(t *testing.T) {
	c := &counter{}
	halts := setting{words: map[int]int{here: ins("ecall")}, ports: c}
	stuck := setting{pc: handler, words: map[int]int{handler: ins("brk")}, ports: c}
	for name, s := range map[string]setting{"halt": halts, "stuck": stuck} {
		m := s.machine()
		steps(t, "P1002: "+name, m, func(s *api.State, _ []byte) { s.Halt, s.Stuck = name == "halt", name == "stuck" })
		m.In(65)
		before, asked := m.State(), c.messages
		if m.Step() || m.Run(5) != 0 {
			t.Errorf("P1002: %s: a step of a machine that has stopped", name)
		}
		if c.messages != asked || c.calls != 0 || !sameState(m.State(), before) || before.Csr[api.Pend] != 1<<api.LUart {
			t.Errorf("P1002: %s: not nothing", name)
		}
	}
}

func TestP1002Interrupts(t *testing.T) {
	nop := map[int]int{here: ins("addi", 0, 0, 0)}
	goesOn := goes(here + 4)
	timer := api.CInt + api.LTimer
	all := map[int]int{api.Ien: 7, api.Timecmp: 1}
	only := func(line int) map[int]int { return map[int]int{api.Ien: 1 << line, api.Timecmp: 1} }
	message := quiet{messages: 1}
	for _, x := range []struct {
		name string
		s    setting
		does change
	}{
		{"a user's timer", setting{user: true, csr: all, words: nop}, trapped(timer, 0)},
		{"a user's timer, IE", setting{user: true, ie: true, csr: all, words: nop}, trapped(timer, 0)},
		{"a supervisor's timer, IE", setting{ie: true, csr: all, words: nop}, trapped(timer, 0)},
		{"a supervisor's timer", setting{csr: all, words: nop}, goesOn},
		{"the least one", setting{ie: true, csr: all, words: nop, in: "x", ports: message}, trapped(timer, 0)},
		{"the uart's", setting{ie: true, csr: only(api.LUart), words: nop, in: "x", ports: message}, trapped(api.CInt+api.LUart, 0)},
		{"the ports'", setting{ie: true, csr: only(api.LPort), words: nop, in: "x", ports: message}, trapped(api.CInt+api.LPort, 0)},
		{"no byte waits", setting{ie: true, csr: only(api.LUart), words: nop, ports: message}, goesOn},
		{"no message waits", setting{ie: true, csr: only(api.LPort), words: nop, in: "x", ports: quiet{}}, goesOn},
		{"none enabled", setting{user: true, csr: only(5), words: nop, in: "x", ports: message}, goesOn},
		{"ahead of a Pc that can't be", setting{user: true, csr: all, pc: here + 4, words: nop}, trapped(timer, 0)},
		{"ahead of no instruction", setting{user: true, csr: all}, trapped(timer, 0)},
		{"at Tvec", setting{ie: true, csr: all, pc: handler}, trapped(timer, 0)},
	} {
		steps(t, "P1002: "+x.name, x.s.machine(), x.does)
	}
}

func TestP1002TimerGoesOff(t *testing.T) {
	s := setting{user: true, csr: map[int]int{api.Ien: 1, api.Timecmp: 60}, words: map[int]int{here: ins("jal", 0, 0)}}
	m := s.machine()
	for range 59 - m.State().Csr[api.Time] {
		steps(t, "P1002: ahead of the time", m, func(*api.State, []byte) {})
	}
	steps(t, "P1002: one step ahead", m, func(s *api.State, _ []byte) { s.Csr[api.Pend] = 1 })
	steps(t, "P1002: at the time", m, trapped(api.CInt, 0))
}

// tables tells words that are page tables at frames 5 and 6: page 7 is the prologue's, page 1 has that entry; and the others that are handed in.
func tables(entry int, more map[int]int) map[int]int {
	words := map[int]int{
		5 * api.Page:                    6<<12 | api.PV,
		6*api.Page + 4*7:                7<<12 | api.PV | api.PX,
		6*api.Page + 4*(here>>12):       entry,
		5*api.Page + 4*(0xF0000000>>22): 6<<12 | api.PV,
	}
	for addr, w := range more {
		words[addr] = w
	}
	return words
}

const paging = 1<<31 | 5

func TestP1002Fetch(t *testing.T) {
	on := map[int]int{api.Ptbr: paging}
	nop := ins("addi", 0, 0, 0)
	reads := api.PV | api.PR | api.PW
	jump := func(to int, s setting) setting {
		s.regs = map[int]int{1: to}
		s.words[here] = ins("jalr", 0, 1, 0)
		return s
	}
	off := setting{words: map[int]int{}}
	for _, x := range []struct {
		name string
		s    setting
		to   int
		does change
	}{
		{"no multiple of 4", off, here + 2, trapped(api.CAlign, here+2)},
		{"the last byte of all", off, last, trapped(api.CAlign, last)},
		{"no memory", off, pages * api.Page, trapped(api.CBus, pages*api.Page)},
		{"the UART", off, api.Mmio + 4, trapped(api.CBus, api.Mmio+4)},
		{"the last word of all", off, last - 3, trapped(api.CBus, last-3)},
		{"align ahead of a page fault", setting{csr: on, words: tables(1<<12|api.PV|api.PX, nil)}, 0x3001, trapped(api.CAlign, 0x3001)},
		{"no table", setting{csr: on, words: tables(1<<12|api.PV|api.PX, nil)}, 0x400000, trapped(api.CFetch, 0x400000)},
		{"not there", setting{csr: on, words: tables(1<<12|api.PV|api.PX, nil)}, 0x3000, trapped(api.CFetch, 0x3000)},
		{"not to be run", setting{csr: on, words: tables(1<<12|api.PV|api.PX, map[int]int{6*api.Page + 4*3: 3<<12 | reads})}, 0x3000, trapped(api.CFetch, 0x3000)},
		{"a user's page", setting{csr: on, words: tables(1<<12|api.PV|api.PX, map[int]int{6*api.Page + 4*3: 3<<12 | api.PV | api.PX | api.PU})}, 0x3000, trapped(api.CFetch, 0x3000)},
		{"a page of no memory", setting{csr: on, words: tables(1<<12|api.PV|api.PX, map[int]int{6*api.Page + 4*3: 8<<12 | api.PV | api.PX})}, 0x3004, trapped(api.CBus, 0x3004)},
		{"the UART's page", setting{csr: on, words: tables(1<<12|api.PV|api.PX, map[int]int{6*api.Page + 4*3: 0xF0000<<12 | api.PV | api.PX})}, 0x3004, trapped(api.CBus, 0x3004)},
		{"another page", setting{csr: on, words: tables(1<<12|api.PV|api.PX, map[int]int{6*api.Page + 4*3: 2<<12 | api.PV | api.PX, 0x2004: nop})}, 0x3004, goes(0x3008)},
		{"a supervisor's page", setting{user: true, csr: on, words: tables(1<<12|api.PV|api.PX|api.PU, map[int]int{6*api.Page + 4*3: 3<<12 | api.PV | api.PX, 0x3000: nop})}, 0x3000, trapped(api.CFetch, 0x3000)},
		{"a user's page, of a user", setting{user: true, csr: on, words: tables(1<<12|api.PV|api.PX|api.PU, map[int]int{6*api.Page + 4*3: 3<<12 | api.PV | api.PX | api.PU, 0x3000: nop})}, 0x3000, goes(0x3004)},
	} {
		m := jump(x.to, x.s).machine()
		steps(t, "P1002: a jump", m, goes(x.to))
		m.In(65)
		steps(t, "P1002: fetch: "+x.name, m, x.does)
	}
}

func TestP1002Instructions(t *testing.T) {
	for _, w := range []int{0, 1, 14 << 24, 71 << 24, last, ins("ecall") + 1, ins("sret") + 1, ins("add", 1, 2, 3) + 1, ins("csrw", 1, 10) + 1} {
		for _, user := range []bool{false, true} {
			steps(t, "P1002: no instruction", setting{user: user, words: map[int]int{here: w}}.machine(), trapped(api.CIllegal, w))
		}
	}
	for _, w := range []int{ins("sret"), ins("wfi"), ins("csrr", 1, 5), ins("csrw", 1, 5)} {
		steps(t, "P1002: a supervisor's instruction", setting{user: true, words: map[int]int{here: w}}.machine(), trapped(api.CPriv, w))
	}
	steps(t, "P1002: a user's ecall", setting{user: true, words: map[int]int{here: ins("ecall")}}.machine(), trapped(api.CCall, 0))
	steps(t, "P1002: a user's brk", setting{user: true, words: map[int]int{here: ins("brk")}}.machine(), trapped(api.CBreak, 0))
	steps(t, "P1002: a supervisor's brk", setting{ie: true, words: map[int]int{here: ins("brk")}}.machine(), trapped(api.CBreak, 0))
}

func TestP1002Calculations(t *testing.T) {
	a, b := 0x80000005, 0x7FFFFFFF
	for _, x := range []struct{ w, want int }{
		{ins("add", 3, 1, 2), 4}, {ins("sub", 3, 1, 2), 6}, {ins("and", 3, 1, 2), 5}, {ins("or", 3, 1, 2), last}, {ins("xor", 3, 1, 2), last - 5},
		{ins("sll", 3, 1, 4), 0x50}, {ins("srl", 3, 1, 4), 0x08000000}, {ins("sra", 3, 1, 4), 0xF8000000}, {ins("mul", 3, 1, 4), 0x14}, {ins("slt", 3, 1, 2), 1}, {ins("slt", 3, 2, 1), 0},
		{ins("sltu", 3, 1, 2), 0}, {ins("sltu", 3, 2, 1), 1}, {ins("divu", 3, 1, 4), 0x20000001}, {ins("remu", 3, 1, 4), 1}, {ins("divu", 3, 1, 0), last}, {ins("remu", 3, 1, 0), a},
		{ins("addi", 3, 1, -6), b}, {ins("addi", 3, 0, -1), last}, {ins("andi", 3, 1, 0xFFFF), 5}, {ins("ori", 3, 1, 0xFFFF), 0x8000FFFF}, {ins("xori", 3, 1, 0xFFFF), 0x8000FFFA},
		{ins("slli", 3, 1, 31), 1 << 31}, {ins("srli", 3, 1, 31), 1}, {ins("srai", 3, 1, 31), last}, {ins("slti", 3, 1, -1), 1}, {ins("slti", 3, 2, -1), 0}, {ins("lui", 3, 0xFFFF), 0xFFFF0000},
		{ins("add", 3, 0, 0), 0}, {ins("add", 3, 1, 0), a},
	} {
		s := setting{regs: map[int]int{1: a, 2: b, 3: 77, 4: 4}, words: map[int]int{here: x.w}}
		steps(t, "P1002: a calculation", s.machine(), writes(3, x.want))
		s.user = true
		steps(t, "P1002: a user's calculation", s.machine(), writes(3, x.want))
	}
	same := setting{regs: map[int]int{1: 3}, words: map[int]int{here: ins("mul", 1, 1, 1)}}
	steps(t, "P1002: one register thrice", same.machine(), writes(1, 9))
}

func TestP1002RegisterZero(t *testing.T) {
	words := map[int]int{here: 0, 0x3000: 5}
	for _, w := range []int{ins("addi", 0, 1, 5), ins("add", 0, 1, 1), ins("lui", 0, 5), ins("lw", 0, 1, 0), ins("csrr", 0, 0), ins("jal", 0, 1), ins("jalr", 0, 2, 0)} {
		words[here] = w
		s := setting{regs: map[int]int{1: 0x3000, 2: here + 4}, words: words}
		steps(t, "P1002: register 0", s.machine(), goes(here+4))
	}
	s := setting{regs: map[int]int{1: api.Mmio}, words: map[int]int{here: ins("lw", 0, 1, 4)}, in: "x"}
	steps(t, "P1002: a byte is taken", s.machine(), func(s *api.State, _ []byte) {
		s.Pc += 4
		s.Csr[api.Pend] = 0
	})
}

func TestP1002Loads(t *testing.T) {
	for _, x := range []struct{ w, want int }{
		{ins("lw", 3, 1, 0), 0x83828180}, {ins("lh", 3, 1, 2), 0xFFFF8382}, {ins("lhu", 3, 1, 2), 0x8382}, {ins("lb", 3, 1, 1), 0xFFFFFF81}, {ins("lbu", 3, 1, 1), 0x81},
		{ins("lb", 3, 1, -1), 0x7F}, {ins("lw", 3, 0, 0x3000), 0x83828180}, {ins("lw", 1, 1, 0), 0x83828180}, {ins("lw", 3, 2, 0x3004), 0x83828180},
	} {
		s := setting{regs: map[int]int{1: 0x3000, 2: last - 3}, words: map[int]int{here: x.w, 0x2FFC: 0x7F000000, 0x3000: 0x83828180}}
		steps(t, "P1002: a load", s.machine(), writes(x.w>>20&15, x.want))
	}
}

func TestP1002Stores(t *testing.T) {
	for _, x := range []struct {
		w, addr int
		b       []byte
	}{
		{ins("sw", 3, 1, 0), 0x3000, []byte{4, 3, 2, 1}}, {ins("sh", 3, 1, 2), 0x3002, []byte{4, 3}}, {ins("sb", 3, 1, 3), 0x3003, []byte{4}},
		{ins("sb", 3, 1, -1), 0x2FFF, []byte{4}}, {ins("sw", 3, 2, 0x3004), 0x3000, []byte{4, 3, 2, 1}}, {ins("sw", 0, 1, 0), 0x3000, []byte{0, 0, 0, 0}},
		{ins("sw", 3, 4, 0), pages*api.Page - 4, []byte{4, 3, 2, 1}},
	} {
		s := setting{regs: map[int]int{1: 0x3000, 2: last - 3, 3: 0x01020304, 4: pages*api.Page - 4}, words: map[int]int{here: x.w, 0x3000: last}}
		steps(t, "P1002: a store", s.machine(), func(s *api.State, memory []byte) {
			copy(memory[x.addr:], x.b)
			s.Pc += 4
		})
	}
}

func TestP1002AccessFaults(t *testing.T) {
	on := map[int]int{api.Ptbr: paging}
	page := func(entry int) map[int]int {
		return tables(1<<12|api.PV|api.PX, map[int]int{6*api.Page + 4*3: entry, 5*api.Page + 4*2: 8<<12 | api.PV})
	}
	all := 3<<12 | api.PV | api.PR | api.PW | api.PX
	for _, x := range []struct {
		name, load, store string
		addr, cause       int
		csr, words        map[int]int
	}{
		{"odd", "lw", "sw", 0x3001, api.CAlign, nil, nil},
		{"half a word", "lw", "sw", 0x3002, api.CAlign, nil, nil},
		{"odd of two", "lh", "sh", 0x3001, api.CAlign, nil, nil},
		{"odd of two, no sign", "lhu", "sh", 0x3003, api.CAlign, nil, nil},
		{"align ahead of bus", "lw", "sw", pages*api.Page + 1, api.CAlign, nil, nil},
		{"align at the UART", "lw", "sw", api.Mmio + 1, api.CAlign, nil, nil},
		{"align ahead of walks", "lw", "sw", 0x4002, api.CAlign, on, page(all)},
		{"no memory", "lw", "sw", pages * api.Page, api.CBus, nil, nil},
		{"no memory of a byte", "lb", "sb", pages * api.Page, api.CBus, nil, nil},
		{"ahead of the UART", "lw", "sw", api.Mmio - 4, api.CBus, nil, nil},
		{"a byte of the UART", "lb", "sb", api.Mmio + 4, api.CBus, nil, nil},
		{"a byte of the UART, no sign", "lbu", "sb", api.Mmio, api.CBus, nil, nil},
		{"half a word of the UART", "lhu", "sh", api.Mmio + 4, api.CBus, nil, nil},
		{"behind the UART", "lw", "sw", api.Mmio + 12, api.CBus, nil, nil},
		{"the last word of all", "lw", "sw", last - 3, api.CBus, nil, nil},
		{"bus of a table", "lw", "sw", 0x800000, api.CBus, on, page(all)},
		{"bus of a page", "lw", "sw", 0x3000, api.CBus, on, page(8<<12 | api.PV | api.PR | api.PW)},
		{"a byte of the UART's page", "lb", "sb", 0x3000, api.CBus, on, page(0xF0000<<12 | api.PV | api.PR | api.PW)},
	} {
		for _, name := range []string{x.load, x.store} {
			if x.words == nil {
				x.words = map[int]int{}
			}
			x.words[here] = ins(name, 3, 1, -4)
			s := setting{regs: map[int]int{1: asWord(x.addr + 4), 3: 77}, csr: x.csr, words: x.words, in: "ab"}
			m := s.machine()
			steps(t, "P1002: "+name+": "+x.name, m, trapped(x.cause, x.addr))
		}
	}
	for name, x := range map[string]struct {
		user  bool
		entry int
		cause int
	}{
		"lw": {false, 3<<12 | api.PV | api.PW, api.CLoad},
		"sw": {false, 3<<12 | api.PV | api.PR, api.CStore},
		"lb": {true, all, api.CLoad},
		"sb": {true, all, api.CStore},
		"lh": {false, all - api.PV, api.CLoad},
		"sh": {false, all - api.PV, api.CStore},
	} {
		words := tables(1<<12|api.PV|api.PX, map[int]int{6*api.Page + 4*3: x.entry, here: ins(name, 3, 1, 4)})
		if x.user {
			words[6*api.Page+4] |= api.PU
		}
		s := setting{user: x.user, regs: map[int]int{1: 0x3000, 3: 77}, csr: on, words: words}
		steps(t, "P1002: a page fault: "+name, s.machine(), trapped(x.cause, 0x3004))
	}
}

func TestP1002AccessByTables(t *testing.T) {
	on := map[int]int{api.Ptbr: paging}
	uart := setting{csr: on, in: "x", regs: map[int]int{1: 0x3000, 3: 0x141}, words: tables(1<<12|api.PV|api.PX, map[int]int{
		6*api.Page + 4*3: 0xF0000<<12 | api.PV | api.PR | api.PW | api.PU,
		here:             ins("lw", 4, 1, 8), here + 4: ins("lw", 4, 1, 4), here + 8: ins("sw", 3, 1, 0),
	})}
	m := uart.machine()
	steps(t, "P1002: the UART's page, 8", m, writes(4, 1))
	steps(t, "P1002: the UART's page, 4", m, func(s *api.State, memory []byte) {
		writes(4, 'x')(s, memory)
		s.Csr[api.Pend] = 0
	})
	steps(t, "P1002: the UART's page, 0", m, func(s *api.State, _ []byte) {
		s.Out = append(s.Out, 0x41)
		s.Pc += 4
	})
	memory := setting{csr: on, in: "x", regs: map[int]int{1: api.Mmio + 0x1000, 3: 7}, words: tables(1<<12|api.PV|api.PX, map[int]int{
		5*api.Page + 4*(0xF0000000>>22): 4<<12 | api.PV,
		4*api.Page + 4:                  3<<12 | api.PV | api.PR | api.PW,
		0x3004:                          99,
		here:                            ins("lw", 4, 1, 4), here + 4: ins("sh", 3, 1, 8),
	})}
	m = memory.machine()
	steps(t, "P1002: memory at the UART's addresses", m, writes(4, 99))
	steps(t, "P1002: a store there", m, func(s *api.State, memory []byte) {
		memory[0x3008] = 7
		s.Pc += 4
	})
}

func TestP1002Uart(t *testing.T) {
	words := map[int]int{}
	for k, w := range []int{
		ins("lw", 3, 1, 0), ins("lw", 3, 1, 8), ins("lw", 3, 1, 4), ins("lw", 3, 1, 4), ins("lw", 3, 1, 4), ins("lw", 3, 1, 8),
		ins("sw", 2, 1, 0), ins("sw", 2, 1, 4), ins("sw", 2, 1, 8), ins("sw", 1, 1, 0),
	} {
		words[here+4*k] = w
	}
	m := setting{regs: map[int]int{1: api.Mmio, 2: 0x14142}, words: words, in: "ab"}.machine()
	empty := func(does change) change {
		return func(s *api.State, memory []byte) {
			does(s, memory)
			s.Csr[api.Pend] = 0
		}
	}
	out := func(b ...byte) change {
		return func(s *api.State, _ []byte) {
			s.Out = append(s.Out, b...)
			s.Pc += 4
		}
	}
	for _, does := range []change{
		writes(3, 0), writes(3, 2), writes(3, 'a'), empty(writes(3, 'b')), writes(3, last), writes(3, 0),
		out(0x42), out(), out(), out(0),
	} {
		steps(t, "P1002: the UART", m, does)
	}
}

func TestP1002Branches(t *testing.T) {
	regs := map[int]int{1: 5, 2: 5, 3: last}
	for _, x := range []struct {
		w     int
		taken bool
	}{
		{ins("beq", 1, 2, -3), true}, {ins("beq", 1, 3, -3), false}, {ins("bne", 1, 3, -3), true}, {ins("bne", 1, 2, -3), false},
		{ins("blt", 3, 1, -3), true}, {ins("blt", 1, 3, -3), false}, {ins("blt", 1, 2, -3), false}, {ins("bge", 1, 3, -3), true}, {ins("bge", 3, 1, -3), false}, {ins("bge", 1, 2, -3), true},
		{ins("bltu", 1, 3, -3), true}, {ins("bltu", 3, 1, -3), false}, {ins("bgeu", 3, 1, -3), true}, {ins("bgeu", 1, 3, -3), false}, {ins("bgeu", 1, 2, -3), true},
	} {
		does := goes(here + 4)
		if x.taken {
			does = goes(here - 12)
		}
		steps(t, "P1002: a branch", setting{regs: regs, words: map[int]int{here: x.w}}.machine(), does)
	}
	far := setting{words: map[int]int{here: ins("beq", 0, 0, -1<<15)}}
	steps(t, "P1002: Pc goes round", far.machine(), goes(1<<32+here-1<<17))
	ahead := setting{words: map[int]int{here: ins("beq", 0, 0, 1<<15-1)}}
	steps(t, "P1002: far ahead", ahead.machine(), goes(here+4*(1<<15-1)))
}

func TestP1002Jumps(t *testing.T) {
	to := func(r, v, pc int) change {
		return func(s *api.State, _ []byte) {
			s.Regs[r] = v
			s.Pc = pc
		}
	}
	for _, x := range []struct {
		w    int
		does change
	}{
		{ins("jal", 3, 2), to(3, here+4, here+8)}, {ins("jal", 3, -2), to(3, here+4, here-8)}, {ins("jal", 3, 0), to(3, here+4, here)},
		{ins("jal", 3, -1<<19), to(3, here+4, 1<<32+here-1<<21)}, {ins("jal", 3, 1<<19-1), to(3, here+4, here+4*(1<<19-1))},
		{ins("jalr", 3, 1, 3), to(3, here+4, 0x3003)}, {ins("jalr", 3, 1, -4), to(3, here+4, 0x2FFC)}, {ins("jalr", 1, 1, 0), to(1, here+4, 0x3000)},
		{ins("jalr", 3, 2, 4), to(3, here+4, 3)}, {ins("jalr", 3, 0, -1), to(3, here+4, last)},
	} {
		steps(t, "P1002: a jump", setting{regs: map[int]int{1: 0x3000, 2: last}, words: map[int]int{here: x.w}}.machine(), x.does)
	}
}

func TestP1002Hypercalls(t *testing.T) {
	regs := map[int]int{1: last, 2: 1 << 31, 3: 0xC00, 4: 0xC10, 5: 9}
	s := setting{regs: regs, words: map[int]int{here: ins("ecall"), 0x3000: 0x0102}}
	p := &desk{}
	s.ports = p
	steps(t, "P1002: a hypercall", s.machine(), func(s *api.State, memory []byte) {
		sum := last + 1<<31 + 3
		s.Regs[1] = asWord(sum - 1000)
		s.Pc += 4
		copy(memory[0x3040:], []byte{byte(sum % 256), 2, 3})
	})
	if !slices.Equal(p.calls, [][4]int{{last, 1 << 31, 0xC00, 0xC10}}) {
		t.Errorf("P1002: called with %v", p.calls)
	}
	for _, answer := range []int{0, 1, last, last + 1, -1, -2, math.MinInt, math.MaxInt, 1<<40 + 3} {
		s.ports = quiet{answer: answer}
		steps(t, "P1002: a hypercall's answer", s.machine(), writes(1, asWord(answer)))
	}
	c := &counter{}
	s.regs, s.ports = map[int]int{1: 0, 2: 5, 3: 6}, c
	steps(t, "P1002: the machine halts", s.machine(), func(s *api.State, _ []byte) { s.Halt = true })
	s.user, s.regs = true, regs
	steps(t, "P1002: a user's call", s.machine(), trapped(api.CCall, 0))
	if c.calls != 0 {
		t.Error("P1002: what is no hypercall was called")
	}
}

func TestP1002Waiting(t *testing.T) {
	wfi := map[int]int{here: ins("wfi")}
	stays, goesOn := goes(here), goes(here+4)
	for _, x := range []struct {
		name string
		s    setting
		does change
	}{
		{"nothing", setting{words: wfi}, stays},
		{"enabled alone", setting{words: wfi, csr: map[int]int{api.Ien: 7}, ports: quiet{}}, stays},
		{"pending alone", setting{words: wfi, csr: map[int]int{api.Timecmp: 1}, in: "x", ports: quiet{messages: 1}}, stays},
		{"others", setting{words: wfi, csr: map[int]int{api.Timecmp: 1, api.Ien: 6}}, stays},
		{"the timer", setting{words: wfi, csr: map[int]int{api.Timecmp: 1, api.Ien: 1}}, goesOn},
		{"the UART", setting{words: wfi, csr: map[int]int{api.Ien: 2}, in: "x"}, goesOn},
		{"messages", setting{words: wfi, csr: map[int]int{api.Ien: 4}, ports: quiet{messages: 3}}, goesOn},
		{"an interrupt", setting{ie: true, words: wfi, csr: map[int]int{api.Ien: 4}, ports: quiet{messages: 3}}, trapped(api.CInt+api.LPort, 0)},
	} {
		steps(t, "P1002: wfi: "+x.name, x.s.machine(), x.does)
	}
}

func TestP1002ControlRegisters(t *testing.T) {
	ones := [api.Csrs]int{
		api.Status: api.S | 11, api.Tvec: last - 3, api.Epc: last - 3, api.Cause: last, api.Tval: last, api.Scratch: last,
		api.Ptbr: 0x800FFFFF, api.Timecmp: last, api.Ien: 7,
	}
	for n := range api.Csrs {
		s := setting{regs: map[int]int{1: last}, csr: map[int]int{api.Scratch: 0x1234}, in: "x", words: map[int]int{here: ins("csrw", 1, n), here + 4: ins("csrr", 3, n)}}
		m := s.machine()
		steps(t, "P1002: csrw", m, func(s *api.State, _ []byte) {
			if n != api.Time && n != api.Pend {
				s.Csr[n] = ones[n]
			}
			s.Pc += 4
		})
		if n == api.Ptbr {
			continue // no tables are there: the step that comes next is a trap
		}
		steps(t, "P1002: csrr", m, writes(3, m.State().Csr[n]))
	}
	for _, n := range []int{api.Tvec, api.Cause, api.Tval, api.Scratch, api.Timecmp, api.Ien} {
		m := setting{csr: map[int]int{n: last}, words: map[int]int{here: ins("csrw", 0, n)}}.machine()
		steps(t, "P1002: csrw of 0", m, func(s *api.State, _ []byte) {
			s.Csr[n] = 0
			if n == api.Timecmp {
				s.Csr[api.Pend] = 0
			}
			s.Pc += 4
		})
	}
}

// TestP1002TimeAndPend asks that an instruction sees Time and Pend as they were when its step began.
func TestP1002TimeAndPend(t *testing.T) {
	s := setting{regs: map[int]int{1: 1}, in: "x", ports: quiet{messages: 1}, words: map[int]int{
		here: ins("csrr", 3, api.Time), here + 4: ins("csrw", 1, api.Timecmp), here + 8: ins("csrr", 3, api.Pend), here + 12: ins("csrw", 0, api.Timecmp), here + 16: ins("csrr", 3, api.Pend),
	}}
	m := s.machine()
	steps(t, "P1002: csrr of Time", m, writes(3, m.State().Csr[api.Time]))
	steps(t, "P1002: csrw of Timecmp", m, func(s *api.State, _ []byte) {
		s.Csr[api.Timecmp], s.Csr[api.Pend] = 1, 7
		s.Pc += 4
	})
	steps(t, "P1002: csrr of Pend", m, writes(3, 7))
	steps(t, "P1002: csrw of Timecmp", m, func(s *api.State, _ []byte) {
		s.Csr[api.Timecmp], s.Csr[api.Pend] = 0, 6
		s.Pc += 4
	})
	steps(t, "P1002: csrr of Pend", m, writes(3, 6))
}

func TestP1002Sret(t *testing.T) {
	for status, want := range map[int]int{0: api.PIE, api.PIE: api.IE | api.PIE, api.PS: api.S | api.PIE, api.PS | api.PIE: api.S | api.IE | api.PIE, api.IE: api.PIE} {
		words := map[int]int{here: ins("csrw", 2, api.Epc), here + 4: ins("csrw", 1, api.Status), here + 8: ins("sret")}
		m := setting{regs: map[int]int{1: status, 2: 0x3000}, words: words}.machine()
		m.Run(2)
		steps(t, "P1002: sret", m, func(s *api.State, _ []byte) {
			s.Csr[api.Status] = want
			s.Pc = 0x3000
		})
	}
}

func TestP1002Stuck(t *testing.T) {
	on := map[int]int{api.Ptbr: paging}
	stuck := func(s *api.State, _ []byte) { s.Stuck = true }
	there := func(w int) map[int]int { return map[int]int{handler: w} }
	for _, x := range []struct {
		name string
		s    setting
		does change
	}{
		{"no instruction", setting{pc: handler}, stuck},
		{"brk", setting{pc: handler, words: there(ins("brk"))}, stuck},
		{"brk, IE", setting{pc: handler, ie: true, words: there(ins("brk"))}, stuck},
		{"a load", setting{pc: handler, words: there(ins("lw", 3, 0, 1))}, stuck},
		{"a store", setting{pc: handler, words: there(ins("sw", 3, 0, -4))}, stuck},
		{"a fetch", setting{pc: handler, csr: on, words: tables(0, nil)}, stuck},
		{"a fetch of no memory", setting{pc: pages * api.Page, csr: map[int]int{api.Tvec: pages * api.Page}}, stuck},
		{"a user", setting{pc: handler, user: true, words: there(ins("brk"))}, trapped(api.CBreak, 0)},
		{"behind Tvec", setting{pc: handler + 4, words: map[int]int{handler + 4: ins("brk")}}, trapped(api.CBreak, 0)},
		{"not a trap", setting{pc: handler, words: there(ins("jal", 0, 0))}, goes(handler)},
		{"a hypercall", setting{pc: handler, regs: map[int]int{1: 1}, words: there(ins("ecall"))}, writes(1, last)},
	} {
		steps(t, "P1002: stuck: "+x.name, x.s.machine(), x.does)
	}
}

func TestP1003Run(t *testing.T) {
	code := packed(ins("addi", 1, 0, 5), ins("addi", 1, 1, -1), ins("bne", 1, 0, -1), ins("ecall"))
	for _, x := range []struct{ n, want int }{{0, 0}, {-1, 0}, {math.MinInt, 0}, {1, 1}, {11, 11}, {12, 12}, {13, 12}, {math.MaxInt, 12}} {
		m := bare.New(1, api.Image{Bytes: code}, nil)
		if made := m.Run(x.n); made != x.want || m.State().Csr[api.Time] != x.want || m.State().Halt != (x.want == 12) {
			t.Fatalf("P1003: Run(%d): %d", x.n, made) // the greatest n would go on for ever
		}
	}
}

func TestP1003In(t *testing.T) {
	m := setting{regs: map[int]int{1: api.Mmio}, words: map[int]int{here: ins("lw", 3, 1, 4), here + 4: ins("lw", 3, 1, 8)}}.machine()
	for k := range 16 {
		if !m.In(k + 250 - 1<<20) {
			t.Error("P1003: a byte is lost")
		}
	}
	if m.In(1) || m.State().Csr[api.Pend] != 1<<api.LUart {
		t.Error("P1003: more than sixteen wait")
	}
	steps(t, "P1003: the first byte", m, writes(3, 250))
	steps(t, "P1003: how many wait", m, writes(3, 15))
}

func TestP1003Read(t *testing.T) {
	m := bare.New(1, api.Image{Bytes: []byte{1, 2, 3}}, nil)
	for _, x := range []struct {
		addr, n int
		want    []byte
	}{{1, 3, []byte{2, 3, 0}}, {0, 0, nil}, {4095, 1, []byte{0}}, {4095, 2, nil}, {-1, 1, nil}, {0, -1, nil}, {math.MaxInt, 1, nil}, {1, math.MaxInt, nil}, {api.Mmio, 4, nil}} {
		if b := m.Read(x.addr, x.n); !bytes.Equal(b, x.want) {
			t.Errorf("P1003: Read(%d, %d): %v", x.addr, x.n, b)
		}
	}
	m.Read(0, 3)[0] = 9
	if m.Read(0, 1)[0] != 1 {
		t.Error("P1004: what is read is no new memory")
	}
}

func TestP1003Reset(t *testing.T) {
	words := map[int]int{here: ins("sw", 2, 1, 0), here + 4: ins("sw", 2, 0, 0x3000), here + 8: ins("ecall")}
	halts := setting{regs: map[int]int{1: api.Mmio, 2: 0x141}, words: words, csr: map[int]int{api.Ien: 7, api.Timecmp: 3, api.Scratch: 9}, in: "x"}.machine()
	halts.Run(2)
	fresh := setting{words: map[int]int{}}.machine()
	fresh.Reset()
	begin := fresh.State()
	if want := (api.State{Regs: make([]int, 16), Pc: prologue, Csr: []int{4, 0, 0, 0, 0, 0, 0, 0, 0, 0, 0}}); !sameState(begin, want) {
		t.Errorf("P1003: Reset: %+v", begin)
	}
	begin.Out = []byte{0x41}
	halts.Reset()
	if s := halts.State(); !sameState(s, begin) || !bytes.Equal(halts.Read(0x3000, 4), make([]byte, 4)) || !bytes.Equal(halts.Read(here, 4), packed(words[here])) {
		t.Errorf("P1003: Reset: %+v", s)
	}
	m := bare.New(1, api.Image{Entry: 4, Bytes: packed(0, ins("addi", 1, 0, 5), ins("addi", 1, 1, -1), ins("bne", 1, 0, -1), ins("ecall"))}, nil)
	for range 3 {
		if m.Run(100) != 12 || !m.State().Halt {
			t.Error("P1003: Reset of a machine that has halted")
		}
		m.Reset()
	}
	m = bare.New(0, api.Image{}, quiet{messages: 1})
	if m.Run(100) != 1 || !m.State().Stuck {
		t.Error("P1003: a machine without memory is stuck")
	}
	m.Reset()
	if s := m.State(); s.Stuck || s.Csr[api.Pend] != 1<<api.LPort || m.Run(100) != 1 {
		t.Error("P1003: Reset of a machine that is stuck")
	}
}

func TestP1004NewMemory(t *testing.T) {
	m := setting{regs: map[int]int{1: api.Mmio, 2: 65}, words: map[int]int{here: ins("sw", 2, 1, 0), here + 4: ins("jal", 0, 0)}}.machine()
	m.Run(1)
	s := m.State()
	want := m.State()
	for k := range s.Regs {
		s.Regs[k] = 99
	}
	for k := range s.Csr {
		s.Csr[k] = 99
	}
	s.Out[0] = 99
	_ = append(s.Out[:0], 98, 97)
	if now := m.State(); !sameState(now, want) || len(now.Regs) != 16 || len(now.Csr) != api.Csrs {
		t.Errorf("P1004: %+v", now)
	}
	m.Step()
	if want.Csr[api.Time]+1 != m.State().Csr[api.Time] {
		t.Error("P1004: a state that was told is another one")
	}
}

func TestP1004TwoMachines(t *testing.T) {
	image := api.Image{Bytes: append(packed(li(1, api.Mmio)...), packed(ins("addi", 2, 2, 1), ins("sw", 2, 1, 0), ins("sw", 2, 0, 0x800), ins("jal", 0, -3))...)}
	a, b := bare.New(1, image, nil), bare.New(1, image, nil)
	untouched := b.State()
	a.Run(50)
	a.In(7)
	if !sameState(b.State(), untouched) || b.Read(0x800, 1)[0] != 0 {
		t.Error("P1004: two machines have something in common")
	}
	b.Run(50)
	b.In(7)
	if !sameState(a.State(), b.State()) {
		t.Error("P1004: the same steps, another state")
	}
	var group sync.WaitGroup
	for range 4 {
		group.Go(func() {
			m := bare.New(1, image, nil)
			m.Run(1000)
			m.Reset()
			m.Run(50)
			if m.State().Regs[2] != a.State().Regs[2] {
				t.Error("P1004: machines side by side have something in common")
			}
		})
	}
	group.Wait()
}

func TestP1002Example(t *testing.T) {
	m := bare.New(1, api.Image{Bytes: packed(ins("wfi"))}, nil)
	for time := range 100 {
		s := m.State()
		if s.Pc != 0 || s.Csr[api.Time] != time || s.Csr[api.Ien] != 0 || !m.Step() {
			t.Errorf("P1002: the example: %+v", s)
		}
	}
}
