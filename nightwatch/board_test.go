package nightwatch

import (
	"math"
	"strings"
	"testing"

	"nightwatch/api"
)

var (
	calm   = api.Input{Volts: 5000}
	pin    = api.Input{Volts: 5000, Reset: true}
	zeroes = strings.Repeat("\x00", 64)
	held   = api.Cycle{Kind: api.Held}
	dead   = api.Cycle{Kind: api.Dead}
	idle   = api.Cycle{Kind: api.Idle}
)

func fetch(at int, data byte) api.Cycle   { return api.Cycle{Kind: api.Fetch, Addr: at, Data: data} }
func operand(at int, data byte) api.Cycle { return api.Cycle{Kind: api.Operand, Addr: at, Data: data} }
func read(at int, data byte) api.Cycle    { return api.Cycle{Kind: api.Read, Addr: at, Data: data} }
func write(at int, data byte) api.Cycle   { return api.Cycle{Kind: api.Write, Addr: at, Data: data} }

func out(c api.Cycle, data byte) api.Cycle {
	c.Out = data
	return c
}

func mustNew(t *testing.T, a string, b string) *Board {
	t.Helper()
	board, errno := New(a, b)
	if errno != api.OK || board == nil {
		t.Fatalf("New: error %d", errno)
	}
	return board
}

// booted is a board behind its boot, with a program in bank 0 and nothing valid in bank 1.
func booted(t *testing.T, code string) *Board {
	t.Helper()
	board := mustNew(t, mustBuild(t, code, 7), zeroes)
	steps(board, 4)
	return board
}

// steps does so many calm cycles; the last one is told.
func steps(board *Board, n int) api.Cycle {
	var seen api.Cycle
	for range n {
		seen = board.Step(calm)
	}
	return seen
}

func expect(t *testing.T, board *Board, in api.Input, want ...api.Cycle) {
	t.Helper()
	for i, w := range want {
		if got := board.Step(in); got != w {
			t.Errorf("cycle %d: %+v, want %+v", i, got, w)
		}
	}
}

func told(t *testing.T, board *Board, want api.State) {
	t.Helper()
	if got := board.Tell(); got != want {
		t.Errorf("told %+v, want %+v", got, want)
	}
}

// P6: texts of another length.
func TestNewErrors(t *testing.T) {
	image := mustBuild(t, "\x10\x82", 7)
	sizes := []int{0, 1, 63, 64, 65, 128, 1 << 20}
	for _, m := range sizes {
		for _, n := range sizes {
			a, b := strings.Repeat("\xb0", m), strings.Repeat("\xff", n)
			board, errno := New(a, b)
			if m == 64 && n == 64 {
				if board == nil || errno != api.OK {
					t.Errorf("64 and 64 bytes: error %d", errno)
				}
			} else if board != nil || errno != api.ErrImage {
				t.Errorf("%d and %d bytes: error %d, board %v", m, n, errno, board)
			}
		}
	}
	for _, pair := range [][2]string{{image, image[:63]}, {image + "\x00", image}, {strings.Repeat("\u00e9", 64), image}} {
		if board, errno := New(pair[0], pair[1]); board != nil || errno != api.ErrImage {
			t.Errorf("%d and %d bytes: error %d", len(pair[0]), len(pair[1]), errno)
		}
	}
}

// P6, P9: a new board is at its first cycle, whatever is in its banks.
func TestNewState(t *testing.T) {
	image := mustBuild(t, "\x10\x82", 7)
	for _, pair := range [][2]string{{image, zeroes}, {zeroes, image}, {image, image}, {zeroes, zeroes}} {
		board := mustNew(t, pair[0], pair[1])
		for range 4 {
			told(t, board, api.State{Bank: -1, Cause: api.PowerOn})
			expect(t, board, calm, held)
		}
		told(t, board, api.State{PC: 0x82, Bank: Choose(pair[0], pair[1], [2]int{}), Cause: api.PowerOn})
	}
}

// P2: boards have nothing to do with one another.
func TestBoardsApart(t *testing.T) {
	image := mustBuild(t, "\x01\x05\x03\xc5\x03\x10\x01\xe5\x03\xc7\x10\x82", 7)
	first, second := mustNew(t, image, image), mustNew(t, image, image)
	steps(first, 100)
	told(t, second, api.State{Bank: -1, Cause: api.PowerOn})
	expect(t, second, calm, held, held, held, held, fetch(0x82, 1))
	behind := first.Tell()
	steps(second, 50)
	told(t, first, behind)
}

// P7: the document's program that jumps to itself, until the watch bites and behind that.
func TestLoop(t *testing.T) {
	board := mustNew(t, mustBuild(t, "\x10\x82", 7), zeroes)
	expect(t, board, calm, held, held, held, held, fetch(0x82, 0x10))
	told(t, board, api.State{PC: 0x83, Cause: api.PowerOn, Age: 1})
	expect(t, board, calm, operand(0x83, 0x82))
	told(t, board, api.State{PC: 0x82, Cause: api.PowerOn, Age: 2})
	for cycle := 7; cycle <= 255; cycle++ {
		want := fetch(0x82, 0x10)
		if cycle%2 == 0 {
			want = operand(0x83, 0x82)
		}
		expect(t, board, calm, want)
		if age := board.Tell().Age; age != cycle-4 {
			t.Errorf("behind cycle %d the age is %d", cycle, age)
		}
	}
	for range 4 {
		told(t, board, api.State{PC: 0x83, Cause: api.TooLate, Age: 251, Strikes: [2]int{1, 0}})
		expect(t, board, calm, held)
	}
	told(t, board, api.State{PC: 0x82, Cause: api.TooLate, Strikes: [2]int{1, 0}})
	expect(t, board, calm, fetch(0x82, 0x10))
}

// P7: the document's program that hands the port's byte through.
func TestPort(t *testing.T) {
	board := booted(t, "\x02\xc6\x03\xc5\x10\x82")
	last := byte(0)
	for _, b := range []byte{99, 0, 255, 128} {
		in := api.Input{Volts: 5000, Port: b ^ 0x5A}
		expect(t, board, in, out(fetch(0x82, 2), last), out(operand(0x83, 0xC6), last))
		in.Port = b // the byte of the Read's own cycle counts
		expect(t, board, in, out(read(0xC6, b), last))
		in.Port = b ^ 0x5A
		expect(t, board, in, out(fetch(0x84, 3), last), out(operand(0x85, 0xC5), last), out(write(0xC5, b), b), out(fetch(0x86, 0x10), b), out(operand(0x87, 0x82), b))
		last = b
	}
}

// P7: what goes out is seen as it is behind the cycle, also where the board is reset in it; 0 while it is held.
func TestOutAtReset(t *testing.T) {
	board := booted(t, "\x01\x2a\x03\xc5\xff")
	steps(board, 5)
	expect(t, board, calm, out(fetch(0x86, 0xFF), 42), held, held, held, held, fetch(0x82, 1))
	board = booted(t, "\x01\x2a\x03\xc5\x18")
	steps(board, 6)
	expect(t, board, calm, out(idle, 42))
	steps(board, 243)
	expect(t, board, calm, out(idle, 42), held)
	board = booted(t, "\x01\x2a\x03\xc5\x10\x86")
	steps(board, 10)
	expect(t, board, pin, held)
	expect(t, board, api.Input{}, held)
	expect(t, board, calm, held, held, held, held, fetch(0x82, 1))
}

// P7: every first byte, by the cycles that it takes; any other is a trap.
func TestFirstBytes(t *testing.T) {
	singles := "\x00\x0b\x0c\x0d\x0e"
	doubles := "\x01\x10\x11\x12\x13\x14"
	reads := "\x02\x04\x05\x06\x07\x08\x09"
	writes := "\x03\x0a"
	for b := range 256 {
		first := byte(b)
		name := string([]byte{first})
		board := booted(t, name+"\x84")
		expect(t, board, calm, fetch(0x82, first))
		switch {
		case strings.Contains(singles, name):
			expect(t, board, calm, fetch(0x83, 0x84))
		case strings.Contains(doubles, name):
			expect(t, board, calm, operand(0x83, 0x84), fetch(0x84, 0))
		case strings.Contains(reads, name):
			expect(t, board, calm, operand(0x83, 0x84), read(0x84, 0), fetch(0x84, 0))
		case strings.Contains(writes, name):
			expect(t, board, calm, operand(0x83, 0x84), write(0x84, 0), fetch(0x84, 0))
		case first == 0x18:
			expect(t, board, calm, idle, idle)
		default:
			told(t, board, api.State{PC: 0x83, Cause: api.Trap, Strikes: [2]int{1, 0}})
			expect(t, board, calm, held, held, held, held, fetch(0x82, first))
		}
	}
}

// P7: what the instructions do, to A, X and the flags, written out.
func TestInstructions(t *testing.T) {
	carry := "\x01\xff\x03\x20\x04\x20" // CARRY, and 0xFF at 0x20; A is 0xFE
	cases := []struct {
		name, code  string
		a, x        int
		zero, carry bool
	}{
		{"nothing", "\x00", 0, 0, false, false},
		{"a number", "\x01\xff", 255, 0, false, false},
		{"the number 0", "\x01\x07\x01\x00", 0, 0, true, false},
		{"a number leaves CARRY", carry + "\x01\x00", 0, 0, true, true},
		{"a byte of the bank", "\x02\x81", 7, 0, false, false},
		{"a byte 0", "\x01\x07\x02\x7f", 0, 0, true, false},
		{"a byte leaves CARRY", carry + "\x02\x20", 255, 0, false, true},
		{"writing leaves ZERO set", "\x01\x00\x03\x10", 0, 0, true, false},
		{"writing leaves ZERO", "\x01\x00\x0b\x01\x05\x03\x10", 5, 0, false, false},
		{"plus up to 255", "\x01\x7f\x03\x10\x01\x80\x04\x10", 255, 0, false, false},
		{"plus up to 256", "\x01\x80\x03\x10\x04\x10", 0, 0, true, true},
		{"plus far above", "\x01\xff\x03\x10\x04\x10", 254, 0, false, true},
		{"plus does not add CARRY", carry + "\x01\x01\x04\x10", 1, 0, false, false},
		{"less down to 0", "\x01\x05\x03\x10\x05\x10", 0, 0, true, false},
		{"less below 0", "\x01\x01\x03\x10\x01\x00\x05\x10", 255, 0, false, true},
		{"less takes CARRY away", carry + "\x05\x10", 254, 0, false, false},
		{"less does not take CARRY in", carry + "\x01\x05\x05\x10", 5, 0, false, false},
		{"and", "\x01\xf0\x03\x10\x01\x3c\x06\x10", 0x30, 0, false, false},
		{"and to 0", carry + "\x06\x10", 0, 0, true, true},
		{"or", "\x01\xf0\x03\x10\x01\x3c\x07\x10", 0xFC, 0, false, false},
		{"or of 0", "\x07\x10", 0, 0, true, false},
		{"exclusive or", "\x01\xf0\x03\x10\x01\x3c\x08\x10", 0xCC, 0, false, false},
		{"exclusive or to 0", carry + "\x03\x10\x08\x10", 0, 0, true, true},
		{"read with X", "\x01\x02\x0b\x09\x7f", 7, 2, false, false},
		{"read with X, around", "\x01\x09\x03\x04\x01\xff\x0b\x09\x05", 9, 255, false, false},
		{"read 0 with X", "\x01\x02\x0b\x09\x7d", 0, 2, true, false},
		{"write with X", "\x01\x06\x0b\x0a\x7f\x02\x05", 0, 6, true, false},
		{"write with X, around", "\x01\x06\x0b\x0a\xff\x01\x00\x02\x05", 6, 6, false, false},
		{"write with X leaves ZERO", "\x01\x06\x0b\x0e\x0e\x0e\x0e\x0e\x0e\x0a\x10", 6, 0, true, false},
		{"X is A", "\x01\x2a\x0b", 42, 42, false, false},
		{"X is A, 0", "\x0e\x0b", 0, 0, true, false},
		{"A is X", "\x0e\x0c", 255, 255, false, false},
		{"A is X, 0", "\x01\x2a\x0c", 0, 0, true, false},
		{"X up", "\x0d\x0d", 0, 2, false, false},
		{"X up, around", "\x0e\x0d", 0, 0, true, false},
		{"X down, around", "\x0e", 0, 255, false, false},
		{"X down to 0", "\x0d\x0e", 0, 0, true, false},
		{"X down leaves CARRY", carry + "\x0e", 254, 255, false, true},
		{"nothing leaves the flags", carry + "\x01\x00\x00", 0, 0, true, true},
		{"jump", "\x10\x86\x01\x01", 0, 0, false, false},
		{"jump on ZERO", "\x01\x00\x11\x88\x01\x01", 0, 0, true, false},
		{"no jump on ZERO", "\x11\x86\x01\x01", 1, 0, false, false},
		{"jump on no ZERO", "\x12\x86\x01\x01", 0, 0, false, false},
		{"no jump on no ZERO", "\x01\x00\x12\x88\x01\x01", 1, 0, false, false},
		{"jump on CARRY", carry + "\x13\x8c\x01\x01", 254, 0, false, true},
		{"no jump on CARRY", "\x13\x86\x01\x01", 1, 0, false, false},
		{"jump on no CARRY", "\x14\x86\x01\x01", 0, 0, false, false},
		{"no jump on no CARRY", carry + "\x14\x8c\x01\x01", 1, 0, false, true},
	}
	for _, c := range cases {
		stop := 0x82 + len(c.code)
		board := booted(t, c.code+"\x10"+string([]byte{byte(stop)}))
		for board.Tell().PC != stop+1 {
			if board.Step(calm).Kind == api.Held {
				t.Fatalf("%s: reset: %+v", c.name, board.Tell())
			}
		}
		age := board.Tell().Age
		told(t, board, api.State{A: c.a, X: c.x, PC: stop + 1, Zero: c.zero, Carry: c.carry, Cause: api.PowerOn, Age: age})
		if t.Failed() {
			t.Fatalf("%s: %x", c.name, c.code)
		}
	}
}

// P7: an instruction does what it does in its last cycle.
func TestLastCycle(t *testing.T) {
	board := booted(t, "\x01\x05\x0b\x09\x7d\x0a\x10\x10\x00")
	state := api.State{Cause: api.PowerOn}
	for i, step := range []struct {
		seen           api.Cycle
		a, x, pc, zero int
	}{
		{fetch(0x82, 1), 0, 0, 0x83, 0},
		{operand(0x83, 5), 5, 0, 0x84, 0},
		{fetch(0x84, 0x0B), 5, 5, 0x85, 0},
		{fetch(0x85, 0x09), 5, 5, 0x86, 0},
		{operand(0x86, 0x7D), 5, 5, 0x87, 0},
		{read(0x82, 1), 1, 5, 0x87, 0},
		{fetch(0x87, 0x0A), 1, 5, 0x88, 0},
		{operand(0x88, 0x10), 1, 5, 0x89, 0},
		{write(0x15, 1), 1, 5, 0x89, 0},
		{fetch(0x89, 0x10), 1, 5, 0x8A, 0},
		{operand(0x8A, 0), 1, 5, 0, 0},
		{fetch(0, 0), 1, 5, 1, 0},
	} {
		expect(t, board, calm, step.seen)
		state.A, state.X, state.PC, state.Age = step.a, step.x, step.pc, i+1
		told(t, board, state)
	}
}

// P7: the processor reads its program wherever PC points: memory, devices, unnamed addresses, and around.
func TestProgramElsewhere(t *testing.T) {
	// X up at 0x7F of the memory, then on into the bank, whose first byte is a trap
	board := booted(t, "\x01\x0d\x03\x7f\x10\x7f")
	steps(board, 7)
	expect(t, board, calm, fetch(0x7F, 0x0D), fetch(0x80, 0xB0), held)
	told(t, board, api.State{A: 13, X: 1, PC: 0x81, Cause: api.Trap, Age: 8, Strikes: [2]int{1, 0}})
	// the port's byte as an instruction, then bytes 0
	board = booted(t, "\x10\xc6")
	steps(board, 2)
	expect(t, board, api.Input{Volts: 5000, Port: 0x0E}, fetch(0xC6, 0x0E), fetch(0xC7, 0), fetch(0xC8, 0))
	if x := board.Tell().X; x != 255 {
		t.Errorf("the port's byte as an instruction: X is %d", x)
	}
	// around: behind 0xFF comes 0, also between an instruction's bytes
	board = booted(t, "\x01\x55\x03\x00\x10\xfe")
	steps(board, 7)
	expect(t, board, calm, fetch(0xFE, 0), fetch(0xFF, 0), fetch(0, 0x55))
	told(t, board, api.State{A: 0x55, PC: 1, Cause: api.Trap, Age: 9, Strikes: [2]int{1, 0}})
	for at := 0xCC; at <= 0xFF; at++ {
		board = booted(t, "\x01\x55\x03"+string([]byte{byte(at)})+"\x02"+string([]byte{byte(at)}))
		steps(board, 7)
		expect(t, board, calm, read(at, 0))
	}
}

// P7: in a trap's cycle timer and watch do nothing more, and A, X and the flags stay until the boot.
func TestTrap(t *testing.T) {
	board := booted(t, "\x01\x02\x03\xc0\x03\x10\x0b\x01\x00\x0f")
	steps(board, 11)
	state := api.State{X: 2, PC: 0x8B, Zero: true, Cause: api.PowerOn, Age: 11, Count: 1, Flag: true}
	told(t, board, state)
	expect(t, board, calm, fetch(0x8B, 0x0F))
	state.PC, state.Cause, state.Strikes[0] = 0x8C, api.Trap, 1
	for range 4 {
		told(t, board, state)
		expect(t, board, calm, held)
	}
	told(t, board, api.State{PC: 0x82, Cause: api.Trap, Strikes: [2]int{1, 0}})
}

// P7: three strikes, and the other bank is chosen; when both are struck out, the strikes of both become 0.
func TestStrikes(t *testing.T) {
	first, second := mustBuild(t, "\xff", 6), mustBuild(t, "\xfe", 7)
	board := mustNew(t, first, second)
	steps(board, 4)
	for round := range 3 {
		for strike := range 6 {
			bank, strikes := 1, [2]int{0, strike}
			if strike >= 3 {
				bank, strikes = 0, [2]int{strike - 3, 3}
			}
			told(t, board, api.State{PC: 0x82, Bank: bank, Strikes: strikes, Cause: max(api.PowerOn, api.Trap*min(1, round+strike))})
			expect(t, board, calm, fetch(0x82, 0xFF-byte(bank)))
			strikes[bank]++
			told(t, board, api.State{PC: 0x83, Bank: bank, Strikes: strikes, Cause: api.Trap})
			expect(t, board, calm, held, held, held, held)
		}
	}
}

// P7: no bank, no cycles but Dead and Held; timer and watch stand still, and the board does not come to life.
func TestDead(t *testing.T) {
	bad := withByte(mustBuild(t, "\x10\x82", 7), 63, 0)
	board := mustNew(t, bad, zeroes)
	steps(board, 4)
	state := api.State{PC: 0x82, Bank: -1, Cause: api.PowerOn}
	for range 300 {
		expect(t, board, calm, dead)
		told(t, board, state)
	}
	expect(t, board, pin, held)
	expect(t, board, calm, held, held, held, held, dead)
	state.Cause = api.Pin
	told(t, board, state)
	expect(t, board, api.Input{Volts: 2699, Port: 9}, held)
	expect(t, board, api.Input{Volts: 3000, Port: 9}, held, held, held, held, dead)
	state.Cause = api.BrownOut
	told(t, board, state)
}

// P7: the supply's two limits, and what lies between them.
func TestSupply(t *testing.T) {
	at := func(volts int) api.Input { return api.Input{Volts: volts} }
	for _, low := range []int{2699, 0, -1, math.MinInt} {
		board := booted(t, "\x10\x82")
		expect(t, board, at(2700), fetch(0x82, 0x10))
		expect(t, board, at(2999), operand(0x83, 0x82))
		expect(t, board, at(low), held)
		told(t, board, api.State{PC: 0x82, Cause: api.BrownOut, Age: 2})
		for _, between := range []int{2700, 2999, 2850} {
			for range 9 {
				expect(t, board, at(between), held)
			}
		}
		expect(t, board, at(3000), held)
		expect(t, board, at(2700), held)
		expect(t, board, at(2999), held)
		told(t, board, api.State{PC: 0x82, Cause: api.BrownOut, Age: 2})
		expect(t, board, at(math.MaxInt), held)
		told(t, board, api.State{PC: 0x82, Cause: api.BrownOut})
		expect(t, board, at(2700), fetch(0x82, 0x10))
	}
	// At first the board is not down: between the limits it boots.
	board := mustNew(t, mustBuild(t, "\x10\x82", 7), zeroes)
	expect(t, board, at(2700), held, held, held, held, fetch(0x82, 0x10))
}

// P7: the pin, in each phase of an instruction and while the board is held.
func TestPin(t *testing.T) {
	for cycles := range 9 {
		board := booted(t, "\x02\x81\x0b\x10\x82")
		steps(board, cycles)
		state := board.Tell()
		state.Cause = api.Pin
		expect(t, board, pin, held, held)
		for range 3 {
			told(t, board, state)
			expect(t, board, calm, held)
		}
		expect(t, board, pin, held) // Hold cycles more from here on
		for range 4 {
			told(t, board, state)
			expect(t, board, calm, held)
		}
		told(t, board, api.State{PC: 0x82, Cause: api.Pin})
		expect(t, board, calm, fetch(0x82, 2))
	}
	// Down goes ahead of the pin; and the pin behind it is another reset.
	board := booted(t, "\x10\x82")
	expect(t, board, api.Input{Volts: 2699, Reset: true}, held)
	expect(t, board, api.Input{Volts: 2999, Reset: true}, held)
	told(t, board, api.State{PC: 0x82, Cause: api.BrownOut})
	expect(t, board, api.Input{Volts: 3000, Reset: true}, held)
	told(t, board, api.State{PC: 0x82, Cause: api.Pin})
	expect(t, board, calm, held, held, held, held, fetch(0x82, 0x10))
	// At power on, too.
	board = mustNew(t, mustBuild(t, "\x10\x82", 7), zeroes)
	expect(t, board, calm, held, held, held)
	expect(t, board, pin, held)
	told(t, board, api.State{Bank: -1, Cause: api.Pin})
	expect(t, board, calm, held, held, held, held, fetch(0x82, 0x10))
}

// P7: a reset by pin or supply is no strike, and takes none away; while a reset is on, another one is.
func TestStrikesStay(t *testing.T) {
	board := booted(t, "\xff")
	steps(board, 1)
	expect(t, board, pin, held)
	told(t, board, api.State{PC: 0x83, Cause: api.Pin, Strikes: [2]int{1, 0}})
	expect(t, board, calm, held, held, held, held)
	expect(t, board, api.Input{}, held)
	told(t, board, api.State{PC: 0x82, Cause: api.BrownOut, Strikes: [2]int{1, 0}})
	expect(t, board, calm, held, held, held, held, fetch(0x82, 0xFF))
	told(t, board, api.State{PC: 0x83, Cause: api.Trap, Strikes: [2]int{2, 0}})
}

// P9: telling changes nothing.
func TestTellOnly(t *testing.T) {
	image := mustBuild(t, "\x01\x03\x03\xc0\x18\x03\xc2\x10\x86", 7)
	quiet, asked := mustNew(t, image, image), mustNew(t, image, image)
	for range 600 {
		for range 3 {
			asked.Tell()
		}
		if a, b := quiet.Step(calm), asked.Step(calm); a != b {
			t.Fatalf("%+v, but if it is asked %+v", a, b)
		}
		told(t, asked, quiet.Tell())
	}
}
