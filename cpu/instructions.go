package cpu

// The first bytes of the instructions.
const (
	opNothing   = 0x00
	opNumber    = 0x01
	opLoad      = 0x02
	opStore     = 0x03
	opAdd       = 0x04
	opSubtract  = 0x05
	opAnd       = 0x06
	opOr        = 0x07
	opExclusive = 0x08
	opLoadX     = 0x09
	opStoreX    = 0x0A
	opXIsA      = 0x0B
	opAIsX      = 0x0C
	opXUp       = 0x0D
	opXDown     = 0x0E
	opJump      = 0x10
	opIfZero    = 0x11
	opIfNonzero = 0x12
	opIfCarry   = 0x13
	opIfNoCarry = 0x14
	opWait      = 0x18
)

// shape tells which cycles an instruction takes.
type shape int

const (
	unknown shape = iota // no instruction
	single               // Fetch
	double               // Fetch, Operand
	reading              // Fetch, Operand, Read
	writing              // Fetch, Operand, Write
)

func shapeOf(opcode byte) shape {
	switch opcode {
	case opNothing, opXIsA, opAIsX, opXUp, opXDown, opWait:
		return single
	case opNumber, opJump, opIfZero, opIfNonzero, opIfCarry, opIfNoCarry:
		return double
	case opLoad, opAdd, opSubtract, opAnd, opOr, opExclusive, opLoadX:
		return reading
	case opStore, opStoreX:
		return writing
	}
	return unknown
}

// doSingle does an instruction without operand.
func (p *Processor) doSingle() {
	switch p.opcode {
	case opXIsA:
		p.setX(p.A)
	case opAIsX:
		p.setA(p.X)
	case opXUp:
		p.setX(p.X + 1)
	case opXDown:
		p.setX(p.X - 1)
	case opWait:
		p.waiting = true
	}
}

// doDouble does an instruction that asks for nothing behind its operand.
func (p *Processor) doDouble(operand byte) {
	if p.opcode == opNumber {
		p.setA(operand)
		return
	}
	if p.jumps() {
		p.PC = operand
	}
}

func (p *Processor) jumps() bool {
	switch p.opcode {
	case opIfZero:
		return p.Zero
	case opIfNonzero:
		return !p.Zero
	case opIfCarry:
		return p.Carry
	case opIfNoCarry:
		return !p.Carry
	}
	return true
}

// doRead does an instruction that takes a byte from the bus.
func (p *Processor) doRead(value byte) {
	switch p.opcode {
	case opLoad, opLoadX:
		p.setA(value)
	case opAdd:
		sum := p.A + value
		p.Carry = sum < value
		p.setA(sum)
	case opSubtract:
		p.Carry = p.A < value
		p.setA(p.A - value)
	case opAnd:
		p.setA(p.A & value)
	case opOr:
		p.setA(p.A | value)
	case opExclusive:
		p.setA(p.A ^ value)
	}
}

// indexed tells whether X is added to the instruction's address.
func indexed(opcode byte) bool { return opcode == opLoadX || opcode == opStoreX }

func (p *Processor) setA(value byte) {
	p.A = value
	p.Zero = value == 0
}

func (p *Processor) setX(value byte) {
	p.X = value
	p.Zero = value == 0
}
