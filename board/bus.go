package board

// part is what stands on the bus. Its places count from its first address on.
type part interface {
	read(place byte) byte
	write(place byte, value byte)
}

// slot is a part with its first and last address.
type slot struct {
	first, last byte
	part        part
}

// bus is the parts at their addresses.
type bus []slot

// Read tells the byte at an address; where no part stands it is 0.
func (b bus) Read(addr byte) byte {
	for _, s := range b {
		if s.holds(addr) {
			return s.part.read(addr - s.first)
		}
	}
	return 0
}

// Write writes a byte at an address; where no part stands it is lost.
func (b bus) Write(addr byte, value byte) {
	for _, s := range b {
		if s.holds(addr) {
			s.part.write(addr-s.first, value)
		}
	}
}

func (s slot) holds(addr byte) bool { return s.first <= addr && addr <= s.last }
