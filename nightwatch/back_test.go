package nightwatch

import (
	"math/rand"
	"strings"
	"testing"

	"nightwatch/api"
)

// choiceNow is the choice between a board's banks, as they are told.
func choiceNow(t *testing.T, board *Board) int {
	t.Helper()
	return Choose(mustImage(t, board, 0), mustImage(t, board, 1), board.Tell().Strikes)
}

// firstFrom is what the first cycle behind a boot from this bank shows.
func firstFrom(t *testing.T, board *Board, bank int) api.Cycle {
	t.Helper()
	if bank == -1 {
		return dead
	}
	return fetch(0x82, mustImage(t, board, bank)[2])
}

// P12: whatever the programs and the supply do, behind the last reset Hold cycles are Held, then the choice of that time runs.
func TestComesBack(t *testing.T) {
	r := rand.New(rand.NewSource(12))
	causes, banks := map[int]int{}, map[int]int{}
	for range 600 {
		board := mustNew(t, randomBank(t, r), randomBank(t, r))
		rough := []int{0, 7, 20, 300}[r.Intn(4)]
		behind, choice, down, wasHeld := 0, 0, false, false
		for cycle := range 1500 {
			in := randomInput(r, rough)
			down = in.Volts < 2700 || down && in.Volts < 3000
			reset := down || in.Reset
			now := choiceNow(t, board)
			seen := board.Step(in)
			switch {
			case seen.Kind == api.Held:
				behind, choice = behind+1, now
			case reset:
				t.Fatalf("cycle %d: %+v, though the board is reset", cycle, seen)
			case wasHeld && (behind != 4 || seen != firstFrom(t, board, choice) || board.Tell().Bank != choice):
				t.Fatalf("cycle %d: behind %d Held ones, with the choice %d: %+v, %+v", cycle, behind, choice, seen, board.Tell())
			case wasHeld:
				causes[board.Tell().Cause]++
				banks[choice]++
			}
			wasHeld = seen.Kind == api.Held
			if reset || !wasHeld {
				behind = 0
			}
		}
	}
	if len(causes) != 6 || len(banks) != 3 {
		t.Errorf("causes %v, banks %v", causes, banks)
	}
}

// P12: each cause, written out: four Held, and the first Fetch.
func TestComesBackFromEach(t *testing.T) {
	cases := []struct {
		name, code string
		cycles     int
		last       api.Input
		cause      int
	}{
		{"trap", "\x00\xff", 2, calm, api.Trap},
		{"too early", put(0xC4, 200) + feed, 15, calm, api.TooEarly},
		{"too late", "\x00\x18", 251, calm, api.TooLate},
		{"pin", "\x00\x10\x82", 9, pin, api.Pin},
		{"supply", "\x00\x10\x82", 9, api.Input{Volts: 2699}, api.BrownOut},
	}
	for _, c := range cases {
		for bank := range 2 {
			image := mustBuild(t, c.code, 7)
			pair := [2]string{image, zeroes}
			board := mustNew(t, pair[bank], pair[1-bank])
			board.Run(often(calm, 4+c.cycles-1))
			if s := board.Tell(); s.Cause != api.PowerOn {
				t.Fatalf("%s: too soon: %+v", c.name, s)
			}
			board.Step(c.last)
			if s := board.Tell(); s.Cause != c.cause || s.Bank != bank {
				t.Errorf("%s: %+v", c.name, s)
			}
			sameCycles(t, board.Run(often(calm, 5)), []api.Cycle{held, held, held, held, fetch(0x82, c.code[0])})
			if s := board.Tell(); s.Cause != c.cause || s.Bank != bank {
				t.Errorf("%s: behind the boot: %+v", c.name, s)
			}
		}
	}
}

// P12: what the choice goes by is the strikes and banks at the boot; a bank that is spoiled is passed over.
func TestChoiceAtBoot(t *testing.T) {
	// bank 1 erases bank 0 and traps: it is struck three times and chosen again and again
	board := mustNew(t, mustBuild(t, "\x18", 6), mustBuild(t, put(0xC7, 0xE5)+"\xff", 7))
	board.Run(often(calm, 4))
	for round := range 10 {
		if s := board.Tell(); s.Bank != 1 || s.Strikes != [2]int{0, round % 3} {
			t.Fatalf("round %d: %+v", round, s)
		}
		sameCycles(t, board.Run(often(calm, 10)), []api.Cycle{fetch(0x82, 1), operand(0x83, 0xE5), fetch(0x84, 3), operand(0x85, 0xC7), write(0xC7, 0xE5), fetch(0x86, 0xFF), held, held, held, held})
	}
	// struck out without harm to the other, that one runs
	board = mustNew(t, mustBuild(t, "\x18", 6), mustBuild(t, "\xff", 7))
	board.Run(often(calm, 4+3*5))
	expect(t, board, calm, fetch(0x82, 0x18))
	told(t, board, api.State{PC: 0x83, Cause: api.Trap, Age: 1, Strikes: [2]int{0, 3}})
}

// P13: whatever a program writes, at whatever address, the bank from which it runs stays.
func TestBankStays(t *testing.T) {
	for base := 0; base < 256; base += 32 {
		for value := range 256 {
			// 41 addresses, one behind the other, until the watch bites
			image := mustBuild(t, string([]byte{1, byte(value), 0x0A, byte(base), 0x0D, 0x10, 0x84}), 7)
			chosen := value % 2
			pair := [2]string{image, zeroes}
			board := mustNew(t, pair[chosen], pair[1-chosen])
			for _, seen := range board.Run(often(calm, 4+252)) {
				if seen.Kind == api.Write && int(seen.Data) != value {
					t.Fatalf("%+v", seen)
				}
			}
			if mustImage(t, board, chosen) != image {
				t.Fatalf("%#x from %#x on: the bank has changed", value, base)
			}
		}
	}
}

// P13: between two boots the bank that was chosen is the same, and so are its bytes, whatever the programs do.
func TestBankStaysAtRandom(t *testing.T) {
	r := rand.New(rand.NewSource(13))
	updates := 0
	for range 500 {
		board := mustNew(t, randomBank(t, r), randomBank(t, r))
		rough := []int{0, 20, 300}[r.Intn(3)]
		chosen, image, spare := -1, "", ""
		for cycle := range 1200 {
			wasHeld := board.Step(randomInput(r, rough)).Kind == api.Held
			if wasHeld {
				chosen = board.Tell().Bank
				if chosen != -1 {
					image, spare = mustImage(t, board, chosen), mustImage(t, board, 1-chosen)
				}
				continue
			}
			if board.Tell().Bank != chosen || chosen != -1 && mustImage(t, board, chosen) != image {
				t.Fatalf("cycle %d: the bank that was chosen has changed: %+v", cycle, board.Tell())
			}
			if chosen != -1 && mustImage(t, board, 1-chosen) != spare {
				updates++
			}
		}
	}
	if updates < 1000 {
		t.Errorf("only in %d cycles another bank was seen changed", updates)
	}
}

// P13: an update that is broken off, by pin or supply, at every cycle: the old one boots, or the new one if it is valid by then.
func TestBrokenOff(t *testing.T) {
	old := mustBuild(t, update, 7)
	wanted := mustBuild(t, update, 9)
	const cycles = 4 + 5 + 64*24 + 20 + 10
	for bank := range 2 {
		pair := [2]string{old, zeroes}
		booted := map[int]int{}
		for n := range cycles {
			board := mustNew(t, pair[bank], pair[1-bank])
			board.Run(often(calm, n))
			broken := pin
			if n%2 == 0 {
				broken = api.Input{Volts: 2699}
			}
			board.Step(broken)
			if mustImage(t, board, bank) != old {
				t.Fatalf("broken off behind %d cycles: the old one has changed", n)
			}
			want := bank
			if mustImage(t, board, 1-bank) == wanted {
				want = 1 - bank
			} else if Valid(mustImage(t, board, 1-bank)) {
				want = 0 // a whole copy, of the same number
			}
			sameCycles(t, board.Run(often(calm, 5)), []api.Cycle{held, held, held, held, fetch(0x82, 1)})
			if s := board.Tell(); s.Bank != want {
				t.Fatalf("broken off behind %d cycles: %+v, want the bank %d", n, s, want)
			}
			booted[want]++
		}
		if booted[1-bank] < 10 || booted[bank] < 1400 {
			t.Errorf("booted %v", booted)
		}
	}
}

// P13: broken off by the watch or by a trap, behind any number of bytes.
func TestBrokenOffWithin(t *testing.T) {
	for _, end := range []string{"\xff", "\x18", put(0xC4, 200) + feed + "\xff"} {
		for bytes := range 60 {
			// A, which tells how many bytes are wanted, is written so often; then it ends
			code := put(0xC7, 0xE5) + string([]byte{1, byte(bytes), 0x0B, 0x0D}) + "\x0e\x11\x91\x03\xc9\x10\x8a" + end
			image := mustBuild(t, code, 7)
			board := mustNew(t, mustBuild(t, "\x10\x82", 6), image)
			board.Run(often(calm, 4))
			written := 0
			seen := board.Step(calm)
			for ; seen.Kind != api.Held; seen = board.Step(calm) {
				if seen.Kind == api.Write && seen.Addr == 0xC9 {
					written++
				}
			}
			if bytes < 30 && written != bytes || bytes > 30 && board.Tell().Cause != api.TooLate {
				t.Errorf("%d bytes: %d are written, %+v", bytes, written, board.Tell())
			}
			part := strings.Repeat(string([]byte{byte(bytes)}), written) + strings.Repeat("\xff", 64-written)
			if mustImage(t, board, 1) != image || mustImage(t, board, 0) != part {
				t.Fatalf("%d bytes: the banks are %x, %x", bytes, mustImage(t, board, 0), mustImage(t, board, 1))
			}
			sameCycles(t, board.Run(often(calm, 4)), []api.Cycle{held, held, held, fetch(0x82, 1)})
			if s := board.Tell(); s.Bank != 1 || s.Strikes != [2]int{0, 1} {
				t.Errorf("%d bytes: %+v", bytes, s)
			}
		}
	}
}
