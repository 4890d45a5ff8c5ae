package nightwatch

import (
	"math"
	"math/rand"
	"testing"

	"nightwatch/api"
)

// model is the document's board told with plain counters: what Step and Tell are held against.
type model struct {
	memory           [128]byte
	bank             [2][64]byte
	strikes          [2]int
	chosen           int
	cause            int
	held             int
	down             bool
	a, x, pc         int
	zero, carry      bool
	bytes            []int // of the instruction, as far as it was read
	idle             bool
	period, count    int
	flag             bool
	age, window      int
	key, windowTaken bool
	portOut, portIn  int
	updaterOpen      bool
	updaterPlace     int
	resetInThisCycle bool
}

func newModel(a string, b string) *model {
	m := &model{chosen: -1, cause: api.PowerOn, held: 4}
	copy(m.bank[0][:], a)
	copy(m.bank[1][:], b)
	return m
}

func (m *model) reset(cause int) {
	m.cause = cause
	m.held = 4
	m.resetInThisCycle = true
	if cause == api.TooLate || cause == api.TooEarly || cause == api.Trap {
		m.strikes[m.chosen]++
	}
}

func (m *model) boot() {
	m.a, m.x, m.zero, m.carry = 0, 0, false, false
	m.period, m.count, m.flag = 0, 0, false
	m.age, m.window, m.key, m.windowTaken = 0, 0, false, false
	m.portOut, m.updaterOpen, m.updaterPlace = 0, false, 0
	m.pc, m.bytes, m.idle = 0x82, nil, false
	var valid [2]bool
	var number [2]int
	for i := range 2 {
		valid[i] = m.bank[i][0] == 0xB0 && byteSum(string(m.bank[i][:]))%256 == 0xA5
		number[i] = int(m.bank[i][1])
	}
	if (valid[0] || valid[1]) && !(valid[0] && m.strikes[0] < 3) && !(valid[1] && m.strikes[1] < 3) {
		m.strikes = [2]int{}
	}
	m.chosen = ranked(valid, number, m.strikes)
}

func (m *model) step(in api.Input) api.Cycle {
	m.resetInThisCycle = false
	if in.Volts < 2700 {
		m.down = true
	} else if in.Volts >= 3000 {
		m.down = false
	}
	if m.down {
		m.reset(api.BrownOut)
		return api.Cycle{}
	}
	if in.Reset {
		m.reset(api.Pin)
		return api.Cycle{}
	}
	if m.held > 0 {
		m.held--
		if m.held == 0 {
			m.boot()
		}
		return api.Cycle{}
	}
	if m.chosen == -1 {
		return api.Cycle{Kind: api.Dead}
	}
	m.portIn = int(in.Port)
	seen := m.processor()
	seen.Out = byte(m.portOut)
	if m.resetInThisCycle {
		return seen
	}
	if m.period != 0 {
		m.count--
		if m.count == 0 {
			m.flag = true
			m.count = m.period
		}
	}
	m.age++
	if m.age > 250 {
		m.reset(api.TooLate)
	}
	return seen
}

// operands: how many bytes are behind the first one, and whether there is a Read or a Write; -1 for a trap.
func operands(opcode int) (int, int) {
	switch {
	case opcode == 0 || opcode >= 0x0B && opcode <= 0x0E || opcode == 0x18:
		return 0, 0
	case opcode == 1 || opcode >= 0x10 && opcode <= 0x14:
		return 1, 0
	case opcode == 3 || opcode == 0x0A:
		return 1, api.Write
	case opcode <= 0x0A:
		return 1, api.Read
	}
	return -1, 0
}

func (m *model) processor() api.Cycle {
	if m.idle && !m.flag {
		return api.Cycle{Kind: api.Idle}
	}
	m.idle = false
	if len(m.bytes) < 2 {
		seen := api.Cycle{Kind: api.Fetch + len(m.bytes), Addr: m.pc, Data: byte(m.read(m.pc))}
		m.pc = (m.pc + 1) % 256
		m.bytes = append(m.bytes, int(seen.Data))
		more, access := operands(m.bytes[0])
		if more == -1 {
			m.reset(api.Trap)
		} else if more == len(m.bytes)-1 && access == 0 {
			m.does(0)
		}
		return seen
	}
	at := m.bytes[1]
	if m.bytes[0] == 0x09 || m.bytes[0] == 0x0A {
		at = (at + m.x) % 256
	}
	_, access := operands(m.bytes[0])
	seen := api.Cycle{Kind: access, Addr: at, Data: byte(m.a)}
	if access == api.Write {
		m.write(at, m.a)
		m.bytes = nil
		return seen
	}
	seen.Data = byte(m.read(at))
	m.does(int(seen.Data))
	return seen
}

// does: the whole instruction, with the byte that it read.
func (m *model) does(value int) {
	opcode, to := m.bytes[0], 0
	if len(m.bytes) == 2 {
		to = m.bytes[1]
	}
	m.bytes = nil
	became := -1
	switch opcode {
	case 0x01:
		m.a = to
		became = m.a
	case 0x02, 0x09:
		m.a = value
		became = m.a
	case 0x04:
		m.carry = m.a+value > 255
		m.a = (m.a + value) % 256
		became = m.a
	case 0x05:
		m.carry = m.a-value < 0
		m.a = (m.a - value + 256) % 256
		became = m.a
	case 0x06:
		m.a &= value
		became = m.a
	case 0x07:
		m.a |= value
		became = m.a
	case 0x08:
		m.a ^= value
		became = m.a
	case 0x0B:
		m.x = m.a
		became = m.x
	case 0x0C:
		m.a = m.x
		became = m.a
	case 0x0D:
		m.x = (m.x + 1) % 256
		became = m.x
	case 0x0E:
		m.x = (m.x + 255) % 256
		became = m.x
	case 0x18:
		m.idle = true
	}
	if opcode == 0x10 || opcode == 0x11 && m.zero || opcode == 0x12 && !m.zero || opcode == 0x13 && m.carry || opcode == 0x14 && !m.carry {
		m.pc = to
	}
	if became >= 0 {
		m.zero = became == 0
	}
}

func (m *model) read(at int) int {
	one := map[bool]int{true: 1}
	switch {
	case at < 0x80:
		return int(m.memory[at])
	case at < 0xC0:
		return int(m.bank[m.chosen][at-0x80])
	case at > 0xCB:
		return 0
	}
	return []int{m.period, m.count, one[m.flag], m.age, m.window, m.portOut, m.portIn, one[m.updaterOpen], m.updaterPlace, int(m.bank[1-m.chosen][m.updaterPlace]), m.cause, m.chosen}[at-0xC0]
}

func (m *model) write(at int, value int) {
	if at < 0x80 {
		m.memory[at] = byte(value)
	}
	switch at {
	case 0xC0:
		m.period, m.count, m.flag = value, value, false
	case 0xC2:
		m.flag = false
	case 0xC3:
		if value == 0x69 && m.key {
			if m.age < m.window {
				m.reset(api.TooEarly)
			} else {
				m.age = 0
			}
		}
		m.key = value == 0x96
	case 0xC4:
		if value <= 200 && !m.windowTaken {
			m.window, m.windowTaken = value, true
		}
	case 0xC5:
		m.portOut = value
	case 0xC7:
		m.updaterOpen = value == 0xE5
		if m.updaterOpen {
			m.updaterPlace = 0
			for i := range 64 {
				m.bank[1-m.chosen][i] = 0xFF
			}
		}
	case 0xC8:
		m.updaterPlace = value % 64
	case 0xC9:
		if m.updaterOpen {
			m.bank[1-m.chosen][m.updaterPlace] = byte(value)
			m.updaterPlace = (m.updaterPlace + 1) % 64
		}
	case 0xCB:
		if value == 0x0D {
			m.strikes[m.chosen] = 0
		}
	}
}

func (m *model) tell() api.State {
	return api.State{A: m.a, X: m.x, PC: m.pc, Zero: m.zero, Carry: m.carry, Bank: m.chosen, Strikes: m.strikes, Cause: m.cause, Age: m.age, Count: m.count, Flag: m.flag}
}

// randomCode is a program in which most is as programs are: instructions, addresses and keys that do something.
func randomCode(r *rand.Rand) string {
	opcodes := "\x00\x01\x02\x03\x04\x05\x06\x07\x08\x09\x0a\x0b\x0c\x0d\x0e\x10\x11\x12\x13\x14\x18"
	keys := "\x00\x01\x02\x03\x0d\x40\x69\x96\xc8\xc9\xe5\xff"
	var code []byte
	add := func(bytes ...byte) { code = append(code, bytes...) }
	device := func() byte { return byte(0xC0 + r.Intn(13)) }
	for len(code) < 50 {
		switch r.Intn(12) {
		case 0:
			add(1, 0x96, 3, 0xC3, 1, 0x69, 3, 0xC3)
		case 1, 2:
			add(1, keys[r.Intn(len(keys))], 3, device())
		case 3:
			add(1, byte(r.Intn(256)), 3, device())
		case 4:
			add(2, device(), 3, byte(r.Intn(128)))
		case 5:
			add(byte(0x10+r.Intn(5)), byte(0x82+r.Intn(61)))
		case 6:
			add(opcodes[r.Intn(len(opcodes))], byte(r.Intn(256)))
		case 7:
			add(opcodes[r.Intn(len(opcodes))], device())
		case 8:
			add(opcodes[r.Intn(len(opcodes))])
		case 9:
			add(1, byte(1+r.Intn(9)), 3, 0xC0, 0x18, 3, 0xC2)
		case 10:
			add(1, 0xE5, 3, 0xC7)
		case 11:
			add(2, byte(r.Intn(256)), 3, 0xC9)
		}
		if r.Intn(200) == 0 {
			add(byte(r.Intn(256)))
		}
	}
	if r.Intn(2) == 0 {
		add(0x10, 0x82)
	}
	return string(code)
}

func randomBank(t *testing.T, r *rand.Rand) string {
	t.Helper()
	image := mustBuild(t, randomCode(r), r.Intn(4))
	if r.Intn(6) == 0 {
		image = withByte(image, r.Intn(64), byte(r.Intn(256)))
	}
	return image
}

// randomInput is calm nearly always: else no program would come far.
func randomInput(r *rand.Rand, rough int) api.Input {
	in := api.Input{Volts: 5000, Port: byte(r.Intn(256))}
	if rough == 0 || r.Intn(rough) != 0 {
		return in
	}
	volts := []int{math.MinInt, -1, 0, 2699, 2700, 2701, 2999, 3000, math.MaxInt}
	in.Volts = volts[r.Intn(len(volts))]
	in.Reset = r.Intn(3) == 0
	return in
}

// P7, P9: cycle by cycle, what is seen and told of boards with all kinds of programs and supplies is as the document's words have it.
func TestAgainstModel(t *testing.T) {
	r := rand.New(rand.NewSource(20))
	causes, kinds, told := map[int]int{}, map[int]int{}, map[api.State]bool{}
	for round := range 2000 {
		first, second := randomBank(t, r), randomBank(t, r)
		board, errno := New(first, second)
		if errno != api.OK {
			t.Fatal(errno)
		}
		m := newModel(first, second)
		rough := []int{0, 0, 20, 300}[r.Intn(4)]
		for cycle := range 1500 {
			in := randomInput(r, rough)
			got, want := board.Step(in), m.step(in)
			state := board.Tell()
			if got != want || state != m.tell() {
				t.Fatalf("round %d, banks %x %x, cycle %d: %+v, want %+v; %+v, want %+v", round, first, second, cycle, got, want, state, m.tell())
			}
			causes[state.Cause]++
			kinds[got.Kind]++
			told[api.State{Bank: state.Bank, Strikes: state.Strikes}] = true
		}
	}
	// The programs above are worth something only if they come everywhere.
	if len(causes) != 6 || len(kinds) != 7 || len(told) < 15 {
		t.Errorf("causes %v, kinds %v, %d mixtures of bank and strikes", causes, kinds, len(told))
	}
}
