package nightwatch

import (
	"math/rand"
	"strings"
	"testing"

	"nightwatch/api"
)

// feed takes ten cycles, the writes are in the fifth and the tenth.
const feed = "\x01\x96\x03\xc3\x01\x69\x03\xc3"

// put is the program that writes a byte at an address: five cycles.
func put(at byte, value byte) string { return string([]byte{1, value, 3, at}) }

// get is the program that reads at an address: three cycles.
func get(at byte) string { return string([]byte{2, at}) }

// again is the jump to the beginning.
const again = "\x10\x82"

// after runs a program until the byte behind it is fetched; then A is told.
func after(t *testing.T, board *Board, code string) int {
	t.Helper()
	for range 250 {
		seen := steps(board, 1)
		if seen.Kind == api.Fetch && seen.Addr == 0x82+len(code) {
			return board.Tell().A
		}
		if seen.Kind == api.Held {
			break
		}
	}
	t.Fatalf("%x does not come to its end: %+v", code, board.Tell())
	return 0
}

// P7: what each address reads as behind a write there; nothing is read but what the table names.
func TestAddresses(t *testing.T) {
	for at := range 256 {
		for _, value := range []byte{0, 1, 0x40, 0x55, 200, 201, 255} {
			code := put(byte(at), value) + "\x01\x00" + get(byte(at))
			board := booted(t, code)
			image := mustBuild(t, code, 7)
			want := 0
			switch {
			case at < 0x80, at == 0xC0, at == 0xC5:
				want = int(value)
			case at < 0xC0:
				want = int(image[at-0x80])
			case at == 0xC3:
				want = 9
			case at == 0xC4 && value <= 200:
				want = int(value)
			case at == 0xC8:
				want = int(value) % 64
			case at == 0xCA:
				want = api.PowerOn
			}
			if got := after(t, board, code); got != want {
				t.Errorf("%#x behind %#x was written: %#x, want %#x", at, value, got, want)
			}
		}
	}
}

// P7: the port reads back, and what is written at the byte outside is lost.
func TestPortPlaces(t *testing.T) {
	code := put(0xC6, 9) + get(0xC5)
	if a := after(t, booted(t, code), code); a != 0 {
		t.Errorf("the byte out, behind a write at the other place: %d", a)
	}
	board := booted(t, put(0xC5, 9)+get(0xC6)+again)
	steps(board, 7)
	expect(t, board, api.Input{Volts: 5000, Port: 77}, out(read(0xC6, 77), 9))
}

// P7: period, count and flag, cycle by cycle, for each period.
func TestPeriods(t *testing.T) {
	for period := range 256 {
		board := booted(t, put(0xC0, byte(period))+"\x10\x86")
		steps(board, 4)
		told(t, board, api.State{A: period, Zero: period == 0, PC: 0x86, Cause: api.PowerOn, Age: 4})
		count, flag := period, false
		for cycle := range 246 {
			steps(board, 1)
			if period != 0 {
				count--
			}
			if period != 0 && count == 0 {
				count, flag = period, true
			}
			if s := board.Tell(); s.Count != count || s.Flag != flag {
				t.Fatalf("period %d, cycle %d: count %d, flag %t, want %d, %t", period, cycle, s.Count, s.Flag, count, flag)
			}
		}
		// TooLate: the timer had its turn in that cycle too, and stands still from there on
		steps(board, 1)
		count--
		if period == 0 {
			count = 0
		} else if count == 0 {
			count, flag = period, true
		}
		for range 4 {
			if s := board.Tell(); s.Cause != api.TooLate || s.Count != count || s.Flag != flag {
				t.Fatalf("period %d: held: %+v, want the count %d, the flag %t", period, s, count, flag)
			}
			expect(t, board, calm, held)
		}
		if s := board.Tell(); s.Count != 0 || s.Flag {
			t.Errorf("period %d: behind the boot: %+v", period, s)
		}
	}
}

// P7: what the program reads and writes of the timer.
func TestTimerPlaces(t *testing.T) {
	cases := []struct {
		name, code string
		want       int
	}{
		{"the period stays", put(0xC0, 9) + "\x00\x00" + get(0xC0), 9},
		{"the count, four cycles on", put(0xC0, 9) + "\x00" + get(0xC1), 5},
		{"the count begins again", put(0xC0, 3) + get(0xC1), 3},
		{"the count cannot be written", put(0xC0, 99) + "\x03\xc1" + get(0xC1), 99 - 6},
		{"the period is not lost by that", put(0xC0, 99) + put(0xC1, 5) + get(0xC0), 99},
		{"no flag yet", put(0xC0, 4) + get(0xC2), 0},
		{"the flag", put(0xC0, 3) + get(0xC2), 1},
		{"the flag stays", put(0xC0, 3) + "\x00\x00\x00\x00\x00" + get(0xC2), 1},
		{"the flag is taken away by 0", put(0xC0, 9) + "\x00\x00\x00\x00\x00" + put(0xC2, 0) + get(0xC2), 0},
		{"the flag is taken away by 1", put(0xC0, 9) + "\x00\x00\x00\x00\x00" + put(0xC2, 1) + get(0xC2), 0},
		{"the count goes on behind that", put(0xC0, 9) + "\x00\x00\x00\x00\x00" + put(0xC2, 1) + get(0xC1), 5},
		{"a period takes the flag away", put(0xC0, 2) + "\x00\x00" + put(0xC0, 50) + get(0xC2), 0},
		{"the period 0 stops it", put(0xC0, 2) + "\x00\x00" + put(0xC0, 0) + "\x00\x00\x00\x00" + get(0xC2), 0},
		{"its count is 0", put(0xC0, 200) + put(0xC0, 0) + get(0xC1), 0},
		{"a longer one", put(0xC0, 6) + put(0xC0, 200) + "\x00\x00" + get(0xC2), 0},
		{"a shorter one", put(0xC0, 200) + put(0xC0, 3) + get(0xC2), 1},
		{"the same again begins again", put(0xC0, 7) + put(0xC0, 7) + "\x00" + get(0xC2), 0},
		{"no flag without a period", "\x00\x00\x00\x00\x00\x00\x00\x00" + get(0xC2), 0},
		{"the period 1, the flag taken away", put(0xC0, 1) + put(0xC2, 0) + get(0xC2), 1},
	}
	for _, c := range cases {
		if got := after(t, booted(t, c.code), c.code); got != c.want {
			t.Errorf("%s: %d, want %d", c.name, got, c.want)
		}
	}
}

// P7: what is written takes effect ahead of the timer of the same cycle.
func TestTimerWrites(t *testing.T) {
	board := booted(t, put(0xC0, 1)+"\x03\xc2"+put(0xC0, 0)+again)
	steps(board, 5)
	told(t, board, api.State{A: 1, PC: 0x86, Cause: api.PowerOn, Age: 5, Count: 1, Flag: true})
	steps(board, 3) // taken away and set again in one cycle
	told(t, board, api.State{A: 1, PC: 0x88, Cause: api.PowerOn, Age: 8, Count: 1, Flag: true})
	steps(board, 5)
	told(t, board, api.State{PC: 0x8C, Zero: true, Cause: api.PowerOn, Age: 13})
}

// P7: waiting, for a flag that comes, for one that is there, for none.
func TestWait(t *testing.T) {
	board := booted(t, put(0xC0, 4)+"\x18\x18\x03\xc2\x18\x0d\x10\x87")
	steps(board, 5)
	expect(t, board, calm, fetch(0x86, 0x18), idle, idle) // the count is 2, 1, and the flag comes
	if s := board.Tell(); !s.Flag || s.Count != 4 || s.PC != 0x87 {
		t.Errorf("behind the waiting: %+v", s)
	}
	expect(t, board, calm, fetch(0x87, 0x18), fetch(0x88, 3), operand(0x89, 0xC2), write(0xC2, 4)) // and comes again
	expect(t, board, calm, fetch(0x8A, 0x18), fetch(0x8B, 0x0D), fetch(0x8C, 0x10), operand(0x8D, 0x87))

	board = booted(t, "\x18\x01\x05")
	expect(t, board, calm, fetch(0x82, 0x18))
	for range 250 {
		expect(t, board, calm, idle)
	}
	told(t, board, api.State{PC: 0x83, Cause: api.TooLate, Age: 251, Strikes: [2]int{1, 0}})
	expect(t, board, calm, held, held, held, held, fetch(0x82, 0x18))
	expect(t, board, calm, idle)
	expect(t, board, pin, held) // waiting does not outlast the boot
	expect(t, board, calm, held, held, held, held, fetch(0x82, 0x18), idle)
}

// P7: the keys, in all orders that do not feed; the age goes on as if nothing was written.
func TestKeys(t *testing.T) {
	for _, keys := range []string{"\x69", "\x96", "\x96\x96", "\x69\x96", "\x69\x69", "\x96\x00\x69", "\x96\x97\x69", "\x96\x68\x69", "\x96\xff\x69", "\x69\x96\x00\x69"} {
		code := ""
		for _, key := range []byte(keys) {
			code += put(0xC3, key)
		}
		board := booted(t, code+again)
		steps(board, 5*len(keys))
		if age := board.Tell().Age; age != 5*len(keys) {
			t.Errorf("the keys %x: the age is %d", keys, age)
		}
	}
	for _, keys := range []string{"\x96\x69", "\x96\x96\x69", "\x69\x96\x69", "\x00\x96\x69"} {
		code := ""
		for _, key := range []byte(keys) {
			code += put(0xC3, key)
		}
		board := booted(t, code+again)
		steps(board, 5*len(keys))
		if age := board.Tell().Age; age != 1 {
			t.Errorf("the keys %x: the age is %d", keys, age)
		}
		steps(board, 1)
		if age := board.Tell().Age; age != 2 {
			t.Errorf("the keys %x: then the age is %d", keys, age)
		}
	}
	// The key is gone behind the feeding: the second 0x69 does not feed.
	board := booted(t, feed+"\x03\xc3"+again)
	steps(board, 13)
	if age := board.Tell().Age; age != 4 {
		t.Errorf("0x69 behind a feeding: the age is %d", age)
	}
	// Other writes between the keys do not matter, reading at the keys' place neither.
	code := put(0xC3, 0x96) + put(0xC4, 3) + put(0x43, 1) + get(0xC3) + put(0xC3, 0x69)
	board = booted(t, code)
	steps(board, 23)
	if age := board.Tell().Age; age != 1 {
		t.Errorf("the keys with others between: the age is %d", age)
	}
}

// P7: the window, below it, at it, above it.
func TestWindow(t *testing.T) {
	for window := range 256 {
		board := booted(t, put(0xC4, byte(window))+feed+"\x10\x86")
		expected := api.State{A: 0x69, PC: 0x8E, Cause: api.PowerOn, Age: 1}
		if window > 14 && window <= 200 {
			expected.Age, expected.Cause, expected.Strikes[0] = 14, api.TooEarly, 1
		}
		seen := steps(board, 15)
		if seen != write(0xC3, 0x69) {
			t.Errorf("the window %d: %+v", window, seen)
		}
		told(t, board, expected)
		if expected.Cause == api.TooEarly {
			expect(t, board, calm, held, held, held, held, fetch(0x82, 1))
		} else {
			expect(t, board, calm, fetch(0x8E, 0x10))
		}
	}
}

// P7: one window is taken between two boots, and no more; the first that is no window does not count.
func TestWindowOnce(t *testing.T) {
	cases := []struct {
		name   string
		writes string
		want   int
	}{
		{"none", "", 0},
		{"200", "\xc8", 200},
		{"201", "\xc9", 0},
		{"255", "\xff", 0},
		{"a second one", "\x05\x06", 5},
		{"a second one, less", "\x05\x00", 5},
		{"0 is a window", "\x00\x06", 0},
		{"201 first", "\xc9\x06", 6},
		{"201 behind", "\x06\xc9", 6},
		{"the same twice, then another", "\x06\x06\x07", 6},
	}
	for _, c := range cases {
		code := ""
		for _, window := range []byte(c.writes) {
			code += put(0xC4, window)
		}
		code += get(0xC4)
		if got := after(t, booted(t, code), code); got != c.want {
			t.Errorf("%s: the window %d, want %d", c.name, got, c.want)
		}
	}
	// Behind a boot the window is 0 and may be written again; the memory tells the program that it has run.
	board := booted(t, get(0x10)+"\x12\x90"+put(0x10, 1)+put(0xC4, 9)+"\xff\x00"+get(0xC4)+put(0xC4, 33)+get(0xC4)+"\x10\x98")
	steps(board, 16)
	if s := board.Tell(); s.Cause != api.Trap {
		t.Fatalf("the first run: %+v", s)
	}
	expect(t, board, calm, held, held, held, held)
	steps(board, 8)
	if s := board.Tell(); s.A != 0 {
		t.Errorf("the window behind the boot: %+v", s)
	}
	steps(board, 8)
	if s := board.Tell(); s.A != 33 {
		t.Errorf("the window of the second run: %+v", s)
	}
}

// P7: too early, and neither timer nor watch has its turn in that cycle; all stays until the boot.
func TestTooEarly(t *testing.T) {
	board := booted(t, put(0xC0, 10)+put(0xC4, 200)+put(0xC5, 0x2A)+feed)
	steps(board, 24)
	state := api.State{A: 0x69, PC: 0x96, Cause: api.PowerOn, Age: 24, Count: 10, Flag: true}
	told(t, board, state)
	expect(t, board, calm, out(write(0xC3, 0x69), 0x2A))
	state.Cause, state.Strikes[0] = api.TooEarly, 1
	for range 4 {
		told(t, board, state)
		expect(t, board, calm, held)
	}
	told(t, board, api.State{PC: 0x82, Cause: api.TooEarly, Strikes: [2]int{1, 0}})
	expect(t, board, calm, fetch(0x82, 1))
}

// P7: fed in the last cycle in which it is in time, and one behind that.
func TestLastMoment(t *testing.T) {
	// X is gone down from n to 0, three cycles each, between the keys
	code := func(n byte, fill string) string {
		return put(0xC3, 0x96) + string([]byte{1, n, 0x0B}) + "\x0e\x12\x89" + fill + put(0xC3, 0x69) + again
	}
	board := booted(t, code(79, "\x00"))
	seen := steps(board, 5+3+3*79+1+5)
	if seen != write(0xC3, 0x69) || board.Tell().Age != 1 || board.Tell().Cause != api.PowerOn {
		t.Errorf("in the last cycle: %+v, %+v", seen, board.Tell())
	}
	board = booted(t, code(79, "\x00\x00"))
	seen = steps(board, 251)
	if seen.Kind != api.Operand || board.Tell().Age != 251 || board.Tell().Cause != api.TooLate {
		t.Errorf("one behind: %+v, %+v", seen, board.Tell())
	}
	expect(t, board, calm, held)
}

// P7: the key is gone at the boot.
func TestKeyAtBoot(t *testing.T) {
	// the first run sets the key and traps; the second one writes 0x69 alone
	code := get(0x10) + "\x12\x8f" + put(0x10, 1) + put(0xC3, 0x96) + "\xff" + put(0xC3, 0x69) + again
	board := booted(t, code)
	steps(board, 16)
	if s := board.Tell(); s.Cause != api.Trap {
		t.Fatalf("the first run: %+v", s)
	}
	steps(board, 4+10)
	if s := board.Tell(); s.Age != 10 || s.A != 0x69 {
		t.Errorf("0x69 behind the boot: %+v", s)
	}
}

// P7: the updater's places, one by one.
func TestUpdaterPlaces(t *testing.T) {
	open := put(0xC7, 0xE5)
	cases := []struct {
		name, code string
		want       int
	}{
		{"closed at first", get(0xC7), 0},
		{"open", open + get(0xC7), 1},
		{"closed by 0", open + put(0xC7, 0) + get(0xC7), 0},
		{"closed by 1", open + put(0xC7, 1) + get(0xC7), 0},
		{"not opened by another key", put(0xC7, 0xE4) + get(0xC7), 0},
		{"the place is 0", get(0xC8), 0},
		{"a place", put(0xC8, 63) + get(0xC8), 63},
		{"the place 64", put(0xC8, 64) + get(0xC8), 0},
		{"the place 255", put(0xC8, 255) + get(0xC8), 63},
		{"opening sets the place", put(0xC8, 9) + open + get(0xC8), 0},
		{"closing leaves the place", open + put(0xC8, 9) + put(0xC7, 0) + get(0xC8), 9},
		{"another key leaves the place", put(0xC8, 9) + put(0xC7, 0xE6) + get(0xC8), 9},
		{"the other bank's byte", get(0xC9), 0x11},
		{"its byte at a place", put(0xC8, 7) + get(0xC9), 0x18},
		{"reading leaves the place", get(0xC9) + get(0xC9) + get(0xC8), 0},
		{"opened, it is 0xFF", open + get(0xC9), 0xFF},
		{"opened, it is 0xFF at its end", open + put(0xC8, 63) + get(0xC9), 0xFF},
		{"another key does not erase", put(0xC7, 0xE4) + get(0xC9), 0x11},
		{"closed, a byte is lost", put(0xC9, 5) + get(0xC9), 0x11},
		{"closed, the place stays", put(0xC9, 5) + get(0xC8), 0},
		{"closed again, a byte is lost", open + put(0xC7, 0) + put(0xC9, 5) + put(0xC8, 0) + get(0xC9), 0xFF},
		{"open, the place goes on", open + put(0xC9, 5) + get(0xC8), 1},
		{"open, the next byte stays", open + put(0xC9, 5) + get(0xC9), 0xFF},
		{"open, a byte", open + put(0xC9, 5) + put(0xC8, 0) + get(0xC9), 5},
		{"open, two bytes", open + put(0xC9, 5) + put(0xC9, 6) + put(0xC8, 1) + get(0xC9), 6},
		{"around", open + put(0xC8, 63) + put(0xC9, 5) + get(0xC8), 0},
		{"a byte at the end", open + put(0xC8, 63) + put(0xC9, 5) + put(0xC8, 63) + get(0xC9), 5},
		{"opened twice, erased twice", open + put(0xC9, 5) + open + get(0xC9), 0xFF},
	}
	var spare []byte
	for i := range 64 {
		spare = append(spare, byte(0x11+i))
	}
	for _, c := range cases {
		board := mustNew(t, mustBuild(t, c.code, 7), string(spare))
		steps(board, 4)
		if got := after(t, board, c.code); got != c.want {
			t.Errorf("%s: %#x, want %#x", c.name, got, c.want)
		}
		// the same with the banks turned
		board = mustNew(t, string(spare), mustBuild(t, c.code, 7))
		steps(board, 4)
		if got := after(t, board, c.code); got != c.want || board.Tell().Bank != 1 {
			t.Errorf("%s, in bank 1: %#x, want %#x", c.name, got, c.want)
		}
	}
}

// P7: the updater is closed and its place 0 behind a boot; the bank stays as it was written.
func TestUpdaterAtBoot(t *testing.T) {
	code := put(0xC7, 0xE5) + put(0xC9, 5) + put(0xC9, 6) + "\xff"
	board := booted(t, get(0x10)+"\x12\x99"+put(0x10, 1)+code+"\x00\x00"+get(0xC7)+get(0xC8)+get(0xC9)+"\x10\x9f")
	steps(board, 26)
	if s := board.Tell(); s.Cause != api.Trap {
		t.Fatalf("the first run: %+v", s)
	}
	steps(board, 4+5)
	steps(board, 2)
	expect(t, board, calm, read(0xC7, 0))
	steps(board, 2)
	expect(t, board, calm, read(0xC8, 0))
	steps(board, 2)
	expect(t, board, calm, read(0xC9, 5))
}

// update is a program that copies its bank into the other one, and makes the number 9 of it.
const update = "\x01\xe5\x03\xc7" + // 82: open
	"\x09\x80\x03\xc9" + // 86: the byte at X
	feed + // 8a
	"\x0d\x0c\x08\xae\x12\x86" + // 92: X up; until it is 64
	"\x01\x01\x03\xc8\x01\x09\x03\xc9" + // 98: the number
	"\x01\x3f\x03\xc8\x02\xbf\x05\xaf\x03\xc9" + // a0: the last byte is less by 2
	"\x10\xaa" + // aa
	"\x00\x00\x40\x02" // ac: 0xae is 64, 0xaf is 2

// P7: the program in bank 0 copies itself into the other bank with a greater number, and then it is chosen.
func TestUpdate(t *testing.T) {
	image := mustBuild(t, update, 7)
	board := mustNew(t, image, zeroes)
	steps(board, 4)
	for cycles := 0; board.Tell().PC != 0xAB; cycles++ {
		steps(board, 1)
		if s := board.Tell(); cycles > 5000 || s.Cause != api.PowerOn {
			t.Fatalf("the update: %+v", s)
		}
	}
	expect(t, board, pin, held)
	expect(t, board, calm, held, held, held)
	if s := board.Tell(); s.Bank != 0 {
		t.Errorf("ahead of the boot: %+v", s)
	}
	expect(t, board, calm, held)
	told(t, board, api.State{PC: 0x82, Bank: 1, Cause: api.Pin})
	expect(t, board, calm, fetch(0x82, 1))
	// opening the updater from there erases bank 0, so that bank 1 alone is left
	steps(board, 30)
	expect(t, board, pin, held)
	expect(t, board, calm, held, held, held, held)
	told(t, board, api.State{PC: 0x82, Bank: 1, Cause: api.Pin})
}

// P7: the cause and the bank, as the program reads them.
func TestRecord(t *testing.T) {
	code := get(0xCB) + "\x0b" + get(0xCA) + "\x10\x87"
	image, bad := mustBuild(t, code, 7), zeroes
	for bank, board := range []*Board{mustNew(t, image, bad), mustNew(t, bad, image)} {
		steps(board, 4)
		check := func(cause int) {
			t.Helper()
			steps(board, 7)
			if s := board.Tell(); s.A != cause || s.X != bank || s.Cause != cause || s.Bank != bank {
				t.Errorf("bank %d, cause %d: %+v", bank, cause, s)
			}
		}
		check(api.PowerOn)
		expect(t, board, pin, held)
		steps(board, 4)
		check(api.Pin)
		expect(t, board, api.Input{}, held)
		steps(board, 4)
		check(api.BrownOut)
		steps(board, 244+4)
		check(api.TooLate)
	}
	for cause, fault := range map[int]string{api.Trap: "\xff", api.TooEarly: put(0xC4, 200) + feed} {
		board := booted(t, get(0xCA)+"\x0b\x01\x01\x03\x10\x0c\x0e\x12"+string([]byte{byte(0x8D + len(fault))})+fault+"\x18")
		for cycles := 0; board.Tell().Cause != cause; cycles++ {
			steps(board, 1)
			if cycles > 100 {
				t.Fatalf("cause %d: %+v", cause, board.Tell())
			}
		}
		steps(board, 4+3)
		if a := board.Tell().A; a != cause {
			t.Errorf("the program reads the cause %d, want %d", a, cause)
		}
	}
}

// P7: 0x0D takes the strikes of the bank that was chosen away, and of no other.
func TestForgive(t *testing.T) {
	for _, key := range []byte{0x0D, 0x0C, 0x00, 0xFF} {
		bad := mustBuild(t, "\xff", 9)
		good := mustBuild(t, put(0xCB, key)+"\xff", 8)
		board := mustNew(t, good, bad)
		steps(board, 4+3*5) // three strikes for bank 1
		told(t, board, api.State{PC: 0x82, Cause: api.Trap, Strikes: [2]int{0, 3}})
		steps(board, 6+4) // bank 0's own
		told(t, board, api.State{PC: 0x82, Cause: api.Trap, Strikes: [2]int{1, 3}})
		steps(board, 4)
		if s := board.Tell(); s.Strikes != [2]int{1, 3} {
			t.Errorf("the key %#x, ahead of the write: %+v", key, s)
		}
		want := [2]int{1, 3}
		if key == 0x0D {
			want = [2]int{0, 3}
		}
		expect(t, board, calm, write(0xCB, key))
		if s := board.Tell(); s.Strikes != want {
			t.Errorf("the key %#x: %+v, want %v", key, s, want)
		}
		want[0]++
		steps(board, 1+4)
		told(t, board, api.State{PC: 0x82, Cause: api.Trap, Strikes: want})
	}
}

// P7: the memory outlasts a boot; A, X, the flags, the port's byte out do not.
func TestBoot(t *testing.T) {
	board := booted(t, get(0x7F)+"\x12\x94"+put(0x7F, 0xC3)+put(0xC5, 0x2A)+"\x04\x7f\x0e\x00\x00\x00"+"\x10\x94")
	steps(board, 60)
	if s := board.Tell(); s.A != 0xED || s.X != 255 {
		t.Fatalf("the first run: %+v", s)
	}
	for _, in := range []api.Input{pin, {Volts: 2000}} {
		expect(t, board, in, held)
		expect(t, board, calm, held, held, held, held)
		cause := board.Tell().Cause
		told(t, board, api.State{PC: 0x82, Cause: cause})
		expect(t, board, calm, fetch(0x82, 2), operand(0x83, 0x7F), read(0x7F, 0xC3), fetch(0x84, 0x12))
	}
}

// P7: a program that feeds in time runs on and on, and its timer with it.
func TestFedForLong(t *testing.T) {
	board := booted(t, put(0xC0, 7)+feed+"\x10\x86")
	for cycle := 1; cycle <= 300000; cycle++ {
		seen, state := steps(board, 1), board.Tell()
		if seen.Kind < api.Idle || state.Cause != api.PowerOn || state.Age > 15 {
			t.Fatalf("cycle %d: %+v, %+v", cycle, seen, state)
		}
		if cycle >= 5 && state.Count != 7-(cycle-4)%7 {
			t.Fatalf("cycle %d: the count is %d", cycle, state.Count)
		}
	}
}

// quiet tells how many cycles of a board ran at most, one behind the other, without the Write of 0x69 at 0xC3.
func quiet(board *Board, cycles int, input func() api.Input) int {
	longest, length := 0, 0
	for range cycles {
		seen := board.Step(input())
		length++
		if seen.Kind < api.Idle || seen.Kind == api.Write && seen.Addr == 0xC3 && seen.Data == 0x69 {
			length = 0
		}
		longest = max(longest, length)
	}
	return longest
}

// P11: no program runs for Late + 2 cycles without that Write; the one that idles and the one that feeds as late as it may come near to it.
func TestWatched(t *testing.T) {
	r := rand.New(rand.NewSource(11))
	for range 500 {
		board := mustNew(t, randomBank(t, r), randomBank(t, r))
		rough := []int{0, 0, 900}[r.Intn(3)]
		if longest := quiet(board, 2000, func() api.Input { return randomInput(r, rough) }); longest >= api.Late+2 {
			t.Fatalf("%d cycles without a feeding", longest)
		}
	}
	programs := []string{"\x18", "\x10\x82", strings.Repeat("\x00", 59) + again, put(0xC0, 3) + "\x18\x10\x86", put(0xC3, 0x96) + "\x10\x86", put(0xC4, 200) + again}
	for _, code := range programs {
		board := booted(t, code)
		if longest := quiet(board, 3000, func() api.Input { return calm }); longest != api.Late+1 {
			t.Errorf("%x: %d cycles without a feeding, want %d", code, longest, api.Late+1)
		}
	}
}
