package nightwatch

import (
	"math"
	"math/rand"
	"slices"
	"strings"
	"testing"

	"nightwatch/api"
)

// often is a script of the same input again and again.
func often(in api.Input, n int) []api.Input { return slices.Repeat([]api.Input{in}, n) }

func randomScript(r *rand.Rand, rough int, n int) []api.Input {
	var script []api.Input
	for range n {
		script = append(script, randomInput(r, rough))
	}
	return script
}

func sameCycles(t *testing.T, got []api.Cycle, want []api.Cycle) {
	t.Helper()
	if len(got) != len(want) {
		t.Fatalf("%d cycles, want %d", len(got), len(want))
	}
	for i := range want {
		if got[i] != want[i] {
			t.Fatalf("cycle %d: %+v, want %+v", i, got[i], want[i])
		}
	}
}

func mustImage(t *testing.T, board *Board, bank int) string {
	t.Helper()
	image, errno := board.Image(bank)
	if errno != api.OK || len(image) != 64 {
		t.Fatalf("Image(%d): %x, error %d", bank, image, errno)
	}
	return image
}

func mustPeek(t *testing.T, board *Board, addr int) byte {
	t.Helper()
	value, errno := board.Peek(addr)
	if errno != api.OK {
		t.Fatalf("Peek(%d): error %d", addr, errno)
	}
	return value
}

func memoryOf(t *testing.T, board *Board) [128]byte {
	var memory [128]byte
	for addr := range memory {
		value, errno := board.Peek(addr)
		if errno != api.OK {
			t.Fatalf("Peek(%d): error %d", addr, errno)
		}
		memory[addr] = value
	}
	return memory
}

// P8: the document's examples as scripts.
func TestRunExamples(t *testing.T) {
	board := mustNew(t, mustBuild(t, "\x10\x82", 7), zeroes)
	want := []api.Cycle{held, held, held, held}
	for cycle := 5; cycle <= 255; cycle++ {
		if cycle%2 == 1 {
			want = append(want, fetch(0x82, 0x10))
		} else {
			want = append(want, operand(0x83, 0x82))
		}
	}
	want = append(want, held, held, held, held, fetch(0x82, 0x10))
	sameCycles(t, board.Run(often(calm, 260)), want)
	told(t, board, api.State{PC: 0x83, Cause: api.TooLate, Age: 1, Strikes: [2]int{1, 0}})

	board = booted(t, "\x02\xc6\x03\xc5\x10\x82")
	script := often(api.Input{Volts: 5000, Port: 0xEE}, 8)
	script[2].Port = 99
	sameCycles(t, board.Run(script), []api.Cycle{
		fetch(0x82, 2), operand(0x83, 0xC6), read(0xC6, 99),
		fetch(0x84, 3), operand(0x85, 0xC5), out(write(0xC5, 99), 99),
		out(fetch(0x86, 0x10), 99), out(operand(0x87, 0x82), 99),
	})
}

// P8: each input of a script is that of its own cycle: pin, supply and port.
func TestRunInputs(t *testing.T) {
	board := booted(t, "\x02\xc6\x10\x82")
	script := []api.Input{calm, calm, {Volts: 5000, Port: 7}, pin, calm, calm, {Volts: 2699}, {Volts: 2999}, {Volts: 3000}, calm, calm, calm, calm}
	sameCycles(t, board.Run(script), []api.Cycle{
		fetch(0x82, 2), operand(0x83, 0xC6), read(0xC6, 7),
		held, held, held, held, held, held, held, held, held, fetch(0x82, 2),
	})
	told(t, board, api.State{PC: 0x83, Cause: api.BrownOut, Age: 1})
}

// P8: a script, in one piece, in several pieces or step by step: the same is seen, and as the model has it.
func TestRunAsStep(t *testing.T) {
	r := rand.New(rand.NewSource(8))
	for range 300 {
		first, second := randomBank(t, r), randomBank(t, r)
		whole, pieces, single := mustNew(t, first, second), mustNew(t, first, second), mustNew(t, first, second)
		m := newModel(first, second)
		script := randomScript(r, []int{0, 20, 300}[r.Intn(3)], r.Intn(1500))
		var want, got []api.Cycle
		for i, in := range script {
			want = append(want, m.step(in))
			if seen := single.Step(in); seen != want[i] {
				t.Fatalf("cycle %d: %+v, want %+v", i, seen, want[i])
			}
		}
		sameCycles(t, whole.Run(script), want)
		for rest := script; len(rest) > 0; {
			n := min(len(rest), r.Intn(300))
			got = append(got, pieces.Run(rest[:n])...)
			rest = rest[n:]
		}
		sameCycles(t, got, want)
		for _, board := range []*Board{whole, pieces, single} {
			told(t, board, m.tell())
		}
	}
}

// P8, P1: a script of nothing does nothing, at any time.
func TestRunNothing(t *testing.T) {
	board := mustNew(t, mustBuild(t, "\x01\x05\x03\xc5\xff", 7), zeroes)
	for range 30 {
		state := board.Tell()
		for _, script := range [][]api.Input{nil, {}, often(pin, 3)[:0]} {
			if seen := board.Run(script); len(seen) != 0 {
				t.Fatalf("seen of nothing: %+v", seen)
			}
			told(t, board, state)
		}
		steps(board, 1)
	}
}

// P8, P1: one cycle alone, and very many.
func TestRunLengths(t *testing.T) {
	board := mustNew(t, mustBuild(t, put(0xC0, 7)+feed+"\x10\x86", 7), zeroes)
	sameCycles(t, board.Run(often(calm, 1)), []api.Cycle{held})
	seen := board.Run(often(calm, 1<<20))
	if len(seen) != 1<<20 {
		t.Fatalf("%d cycles", len(seen))
	}
	sameCycles(t, seen[:4], []api.Cycle{held, held, held, fetch(0x82, 1)})
	// 3 cycles held, 5 of the beginning; then a round is 12
	for i := 8; i < len(seen); i++ {
		if round := seen[8+(i-8)%12]; seen[i] != round || seen[i].Kind < api.Fetch {
			t.Fatalf("cycle %d: %+v, want %+v", i, seen[i], round)
		}
	}
	wrong := []api.Input{{Volts: math.MinInt, Reset: true, Port: 255}, {Volts: math.MaxInt, Reset: true}, {Volts: -1}, {}}
	sameCycles(t, board.Run(wrong), []api.Cycle{held, held, held, held})
}

// P8: boards with nothing to run are seen Dead.
func TestRunDead(t *testing.T) {
	board := mustNew(t, zeroes, zeroes)
	sameCycles(t, board.Run(often(calm, 7)), []api.Cycle{held, held, held, held, dead, dead, dead})
	sameCycles(t, board.Run([]api.Input{pin, calm, calm, calm, calm, calm}), []api.Cycle{held, held, held, held, held, dead})
}

// P2: a script is not written into, nor its spare room, and is not kept.
func TestRunLeavesScript(t *testing.T) {
	r := rand.New(rand.NewSource(2))
	image := mustBuild(t, "\x02\xc6\x03\xc5\x10\x82", 7)
	board, other := mustNew(t, image, zeroes), mustNew(t, image, zeroes)
	room := randomScript(r, 20, 600)
	was := slices.Clone(room)
	for _, n := range []int{0, 1, 100, 300} {
		script := room[100 : 100+n]
		seen := board.Run(script)
		if !slices.Equal(room, was) {
			t.Fatalf("a script of %d was written into", n)
		}
		for i := range room {
			room[i] = api.Input{Volts: -1, Reset: true, Port: 0xAA}
		}
		sameCycles(t, seen, other.Run(was[100:100+n]))
		told(t, board, other.Tell())
		copy(room, was)
	}
}

// P2: what Run answers is new memory, its spare room too: whatever is written there changes nothing.
func TestRunAnswersNew(t *testing.T) {
	image := mustBuild(t, "\x02\xc6\x03\xc5\x10\x82", 7)
	board, other := mustNew(t, image, zeroes), mustNew(t, image, zeroes)
	spoil := func(list []api.Cycle) {
		list = list[:cap(list)]
		for i := range list {
			list[i] = api.Cycle{Kind: 99, Addr: 99, Data: 99, Out: 99}
		}
	}
	for _, n := range []int{0, 1, 5, 64, 0, 300} {
		first := board.Run(often(calm, n))
		second := board.Run(often(calm, n))
		kept := slices.Clone(second)
		spoil(first)
		sameCycles(t, second, kept)
		kept = board.Run(often(calm, n))
		third := slices.Clone(kept)
		spoil(second)
		sameCycles(t, kept, third)
		other.Run(often(calm, 3*n))
		told(t, board, other.Tell())
	}
}

// P2: running one board does nothing to another.
func TestRunApart(t *testing.T) {
	image := mustBuild(t, put(0x10, 5)+put(0xC7, 0xE5)+"\x10\x82", 7)
	board, other := mustNew(t, image, image), mustNew(t, image, image)
	board.Run(often(calm, 200))
	if mustPeek(t, board, 0x10) != 5 || mustImage(t, board, 1) == image {
		t.Fatal("the program did nothing")
	}
	told(t, other, api.State{Bank: -1, Cause: api.PowerOn})
	if mustPeek(t, other, 0x10) != 0 || mustImage(t, other, 1) != image {
		t.Error("the other board has changed")
	}
	behind := mustImage(t, board, 1)
	other.Run(often(pin, 200))
	if mustPeek(t, board, 0x10) != 5 || mustImage(t, board, 1) != behind {
		t.Error("the first board has changed")
	}
}

// P10: the banks as New was given them, valid or not, of any bytes.
func TestImageAtFirst(t *testing.T) {
	var up, down []byte
	for i := range 64 {
		up, down = append(up, byte(i*4)), append(down, byte(255-i))
	}
	texts := []string{zeroes, mustBuild(t, "\x10\x82", 7), mustBuild(t, "", 0), strings.Repeat("\xff", 64), string(up), string(down), strings.Repeat("\u00e9", 32)}
	for _, a := range texts {
		for _, b := range texts {
			board := mustNew(t, a, b)
			for range 10 {
				if mustImage(t, board, 0) != a || mustImage(t, board, 1) != b {
					t.Fatalf("banks %x and %x: told %x and %x", a, b, mustImage(t, board, 0), mustImage(t, board, 1))
				}
				steps(board, 1)
			}
		}
	}
}

// P10, P1: numbers that are no banks and no addresses; nothing beside the error.
func TestPlaceErrors(t *testing.T) {
	board := booted(t, put(0x00, 1)+put(0x7F, 2)+"\x10\x8a")
	steps(board, 20)
	for _, bank := range []int{-1, 2, 3, 64, -2, 128, 255, 256, 257, 1 << 32, 1<<32 + 1, math.MinInt, math.MinInt + 1, math.MaxInt} {
		if image, errno := board.Image(bank); image != "" || errno != api.ErrPlace {
			t.Errorf("Image(%d): %x, error %d", bank, image, errno)
		}
	}
	for _, addr := range []int{-1, 128, 129, -127, -128, -129, 0xC5, 255, 256, 256 + 127, -256, 1 << 32, 1<<32 + 127, math.MinInt, math.MaxInt, math.MaxInt - 128} {
		if value, errno := board.Peek(addr); value != 0 || errno != api.ErrPlace {
			t.Errorf("Peek(%d): %d, error %d", addr, value, errno)
		}
	}
	if mustPeek(t, board, 0) != 1 || mustPeek(t, board, 127) != 2 {
		t.Errorf("the first and the last byte: %d, %d", mustPeek(t, board, 0), mustPeek(t, board, 127))
	}
	mustImage(t, board, 0)
	mustImage(t, board, 1)
}

// P10: each byte of the memory, from the cycle of its Write on, and no other byte.
func TestPeekEach(t *testing.T) {
	for addr := range 256 {
		value := byte(addr*7 + 1)
		board := booted(t, put(byte(addr), value)+"\x10\x86")
		steps(board, 4)
		if memoryOf(t, board) != [128]byte{} {
			t.Fatalf("ahead of the Write at %#x", addr)
		}
		board.Run(often(calm, 1))
		var want [128]byte
		if addr < 128 {
			want[addr] = value
		}
		if got := memoryOf(t, board); got != want {
			t.Errorf("behind the Write at %#x: %v", addr, got)
		}
	}
}

// P10: the memory stays through resets of all kinds and through the boot; held, dead or running, it is told.
func TestPeekStays(t *testing.T) {
	for _, end := range []string{"\xff", "\x18", put(0xC4, 200) + feed, again} {
		board := booted(t, put(0x00, 3)+put(0x42, 0xC3)+put(0x7F, 0xFF)+end)
		steps(board, 15)
		want := [128]byte{0: 3, 0x42: 0xC3, 0x7F: 0xFF}
		for _, script := range [][]api.Input{often(calm, 600), often(pin, 3), often(calm, 4), often(calm, 9), often(api.Input{}, 5), often(calm, 10)} {
			for _, in := range script {
				board.Step(in)
				if got := memoryOf(t, board); got != want {
					t.Fatalf("ending %x: %v", end, got)
				}
			}
		}
	}
}

// P10: a bank as the updater leaves it behind each Write; what was told before stays as it was told.
func TestImageUpdated(t *testing.T) {
	code := put(0xC7, 0xE5) + put(0xC9, 0x11) + "\x03\xc9" + put(0xC8, 0xFF) + put(0xC9, 0x33) + put(0xC9, 0x44) + put(0xC7, 0) + put(0xC9, 0x55) + "\x10\xa0"
	image, spare := mustBuild(t, code, 7), strings.Repeat("z", 64)
	full := strings.Repeat("\xff", 64)
	wants := map[int]string{
		5:  full,
		10: withByte(full, 0, 0x11),
		13: withByte(withByte(full, 0, 0x11), 1, 0x11),
		23: withByte(withByte(withByte(full, 0, 0x11), 1, 0x11), 63, 0x33),
		28: withByte(withByte(withByte(full, 0, 0x44), 1, 0x11), 63, 0x33),
	}
	for chosen := range 2 {
		pair := [2]string{image, spare}
		board := mustNew(t, pair[chosen], pair[1-chosen])
		steps(board, 4)
		want, before := spare, mustImage(t, board, 1-chosen)
		for cycle := 1; cycle <= 60; cycle++ {
			steps(board, 1)
			if next, ok := wants[cycle]; ok {
				want = next
			}
			if got := mustImage(t, board, 1-chosen); got != want {
				t.Fatalf("chosen %d, behind cycle %d: %x, want %x", chosen, cycle, got, want)
			}
			if mustImage(t, board, chosen) != image {
				t.Fatalf("behind cycle %d the bank %d has changed", cycle, chosen)
			}
		}
		if before != spare {
			t.Errorf("what was told has become %x", before)
		}
	}
}

// P10: banks and memory behind each cycle are as the document's words have it; asking changes nothing.
func TestPlacesAgainstModel(t *testing.T) {
	r := rand.New(rand.NewSource(10))
	erased, stored := 0, 0
	for range 300 {
		first, second := randomBank(t, r), randomBank(t, r)
		board, m := mustNew(t, first, second), newModel(first, second)
		rough := []int{0, 20, 300}[r.Intn(3)]
		for cycle := range 1000 {
			in := randomInput(r, rough)
			if seen, want := board.Step(in), m.step(in); seen != want {
				t.Fatalf("cycle %d: %+v, want %+v", cycle, seen, want)
			}
			for bank := range 2 {
				if got := mustImage(t, board, bank); got != string(m.bank[bank][:]) {
					t.Fatalf("banks %x %x, cycle %d: bank %d is %x, want %x", first, second, cycle, bank, got, m.bank[bank])
				}
			}
			if got := memoryOf(t, board); got != m.memory {
				t.Fatalf("banks %x %x, cycle %d: the memory is %x, want %x", first, second, cycle, got, m.memory)
			}
			board.Image(-1)
			board.Peek(128)
			told(t, board, m.tell())
		}
		if m.bank[0] != [64]byte([]byte(first)) || m.bank[1] != [64]byte([]byte(second)) {
			erased++
		}
		if m.memory != [128]byte{} {
			stored++
		}
	}
	if erased < 30 || stored < 60 {
		t.Errorf("only %d boards with an update, %d with something in their memory", erased, stored)
	}
}
