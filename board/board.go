// Package board is the board: the parts on its bus, the processor, and what comes to pass in a cycle.
package board

import (
	"nightwatch/api"
	"nightwatch/cpu"
	"nightwatch/images"
)

// Board is a board. Its parts stand on its bus too.
type Board struct {
	processor cpu.Processor
	bus       bus
	clock     *clock
	banks     *banks
	memory    *memory
	timer     *timer
	watch     *watch
	port      *port
	updater   *updater
	record    *record
	down      bool
	hold      int // how many Held cycles are still to come
}

// New makes a board with two banks, held as it is at power on.
func New(a string, b string) (*Board, api.Errno) {
	if len(a) != api.ImageSize || len(b) != api.ImageSize {
		return nil, api.ErrImage
	}
	clock, banks := &clock{}, newBanks(a, b)
	board := &Board{
		clock:   clock,
		banks:   banks,
		memory:  &memory{},
		timer:   &timer{clock: clock},
		watch:   &watch{clock: clock},
		port:    &port{},
		updater: &updater{banks: banks},
		record:  &record{cause: api.PowerOn, banks: banks},
		hold:    api.Hold,
	}
	board.bus = bus{
		{0x00, 0x7F, board.memory},
		{0x80, 0xBF, program{banks}},
		{0xC0, 0xC2, board.timer},
		{0xC3, 0xC4, board.watch},
		{0xC5, 0xC6, board.port},
		{0xC7, 0xC9, board.updater},
		{0xCA, 0xCB, board.record},
	}
	return board, api.OK
}

// Step does one cycle.
func (b *Board) Step(in api.Input) (seen api.Cycle) {
	defer func() {
		switch fault := recover().(type) {
		case nil:
		case cpu.Trap:
			b.reset(api.Trap)
			seen = b.show(fault.Seen)
		default:
			// A mistake in this program must not pass for one in the board's.
			panic(fault)
		}
	}()
	b.sense(in.Volts)
	switch {
	case b.down:
		b.reset(api.BrownOut)
	case in.Reset:
		b.reset(api.Pin)
	case b.hold > 0:
		b.wait()
	case b.banks.chosen == images.None:
		return api.Cycle{Kind: api.Dead}
	default:
		return b.show(b.run(in.Port))
	}
	return api.Cycle{Kind: api.Held}
}

// Run does a cycle for each of the inputs.
func (b *Board) Run(script []api.Input) []api.Cycle {
	seen := make([]api.Cycle, len(script))
	for i, in := range script {
		seen[i] = b.Step(in)
	}
	return seen
}

// sense takes the supply; between the two limits the board stays as it was.
func (b *Board) sense(volts int) {
	if volts < api.VoltsLow {
		b.down = true
	}
	if volts >= api.VoltsOK {
		b.down = false
	}
}

func (b *Board) reset(cause int) {
	b.record.cause = cause
	b.hold = api.Hold
	switch cause {
	case api.TooLate, api.TooEarly, api.Trap:
		b.banks.strike()
	}
}

// wait is a cycle in which the board is held.
func (b *Board) wait() {
	b.hold--
	if b.hold == 0 {
		b.boot()
	}
}

func (b *Board) boot() {
	b.timer.boot()
	b.watch.boot()
	b.port.boot()
	b.updater.boot()
	b.banks.choose()
	b.processor.Boot()
}

// run gives the processor its cycle, and timer and watch theirs.
func (b *Board) run(outside byte) api.Cycle {
	b.port.in = outside
	seen := b.processor.Cycle(b.bus, b.timer.flag)
	if b.watch.early {
		b.reset(api.TooEarly)
		return seen
	}
	b.tick()
	return seen
}

// tick is one cycle for timer and watch.
func (b *Board) tick() {
	b.clock.now++
	for {
		part, ok := b.clock.due.Take(b.clock.now)
		if !ok {
			return
		}
		switch p := part.(type) {
		case *timer:
			p.ring()
		case *watch:
			b.reset(api.TooLate)
		}
	}
}

// show adds the port's byte to what is seen.
func (b *Board) show(seen api.Cycle) api.Cycle {
	seen.Out = b.port.out
	return seen
}

// Tell tells how the board stands.
func (b *Board) Tell() api.State {
	p := b.processor
	return api.State{
		A:       int(p.A),
		X:       int(p.X),
		PC:      int(p.PC),
		Zero:    p.Zero,
		Carry:   p.Carry,
		Bank:    b.banks.chosen,
		Strikes: b.banks.strikes,
		Cause:   b.record.cause,
		Age:     b.watch.age(),
		Count:   int(b.timer.count()),
		Flag:    b.timer.flag,
	}
}

// Image tells the bytes of a bank.
func (b *Board) Image(bank int) (string, api.Errno) {
	if bank < 0 || bank >= len(b.banks.content) {
		return "", api.ErrPlace
	}
	return string(b.banks.content[bank][:]), api.OK
}

// Peek tells a byte of the memory.
func (b *Board) Peek(addr int) (byte, api.Errno) {
	if addr < 0 || addr >= len(b.memory) {
		return 0, api.ErrPlace
	}
	return b.memory[addr], api.OK
}
