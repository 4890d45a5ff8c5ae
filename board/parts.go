package board

import "nightwatch/api"

// memory is the board's own.
type memory [128]byte

func (m *memory) read(place byte) byte { return m[place] }

func (m *memory) write(place byte, value byte) { m[place] = value }

// program is where the bank that was chosen is seen. Nothing can be written there, so no program spoils itself.
type program struct {
	banks *banks
}

func (p program) read(place byte) byte { return p.banks.program()[place] }

func (p program) write(place byte, value byte) {}

// The port's places.
const (
	outAt = iota
	inAt
)

// port is the byte that goes out, and the one that is outside in this cycle.
type port struct {
	out, in byte
}

func (p *port) boot() { p.out = 0 }

func (p *port) read(place byte) byte {
	if place == inAt {
		return p.in
	}
	return p.out
}

func (p *port) write(place byte, value byte) {
	if place == outAt {
		p.out = value
	}
}

// The updater's places.
const (
	openAt = iota
	placeAt
	byteAt
)

const (
	openKey = 0xE5
	erased  = 0xFF
)

// updater writes a new image into the bank that was not chosen.
type updater struct {
	banks *banks
	open  bool
	place byte
}

func (u *updater) boot() { u.open, u.place = false, 0 }

func (u *updater) read(place byte) byte {
	switch place {
	case placeAt:
		return u.place
	case byteAt:
		return u.banks.spare()[u.place]
	}
	if u.open {
		return 1
	}
	return 0
}

func (u *updater) write(place byte, value byte) {
	switch place {
	case openAt:
		u.turn(value)
	case placeAt:
		u.place = value % api.ImageSize
	case byteAt:
		u.fill(value)
	}
}

// turn opens or closes the updater.
func (u *updater) turn(key byte) {
	u.open = key == openKey
	if u.open {
		u.erase()
		u.place = 0
	}
}

func (u *updater) erase() {
	spare := u.banks.spare()
	for i := range spare {
		spare[i] = erased
	}
}

func (u *updater) fill(value byte) {
	if u.open {
		u.banks.spare()[u.place] = value
		u.place = (u.place + 1) % api.ImageSize
	}
}

// The record's places.
const (
	causeAt = iota
	bankAt
)

const forgiveKey = 0x0D

// record is why the board was reset, and which bank it runs from.
type record struct {
	cause int
	banks *banks
}

func (r *record) read(place byte) byte {
	if place == bankAt {
		return byte(r.banks.chosen)
	}
	return byte(r.cause)
}

func (r *record) write(place byte, value byte) {
	if place == bankAt && value == forgiveKey {
		r.banks.forgive()
	}
}
