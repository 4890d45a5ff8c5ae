// Package cpu is the board's processor, cycle by cycle.
package cpu

import "nightwatch/api"

// start is where the program begins.
const start = 0x82

// Bus is where the processor's bytes come from and go to.
type Bus interface {
	Read(addr byte) byte
	Write(addr byte, value byte)
}

// Trap is what the processor panics with at a first byte that is no instruction.
type Trap struct {
	Seen api.Cycle // the Fetch that brought it
}

// phase tells what the next cycle is for.
type phase int

const (
	atOpcode phase = iota
	atOperand
	atAccess
)

// Processor is the registers, the flags, and how far the instruction has come.
type Processor struct {
	A, X, PC    byte
	Zero, Carry bool

	phase   phase
	opcode  byte
	addr    byte // of the byte that the instruction asks for
	waiting bool
}

// Boot sets the processor at the beginning of the program.
func (p *Processor) Boot() { *p = Processor{PC: start} }

// Cycle does one cycle; flag is the timer's, as it is when the cycle begins. A first byte that is no instruction is a panic with a Trap.
func (p *Processor) Cycle(bus Bus, flag bool) api.Cycle {
	if p.waiting && !flag {
		return api.Cycle{Kind: api.Idle}
	}
	p.waiting = false
	switch p.phase {
	case atOperand:
		return p.takeOperand(bus)
	case atAccess:
		return p.access(bus)
	}
	return p.fetch(bus)
}

func (p *Processor) fetch(bus Bus) api.Cycle {
	seen := p.advance(bus, api.Fetch)
	p.opcode = seen.Data
	switch shapeOf(p.opcode) {
	case unknown:
		panic(Trap{seen})
	case single:
		p.doSingle()
	default:
		p.phase = atOperand
	}
	return seen
}

func (p *Processor) takeOperand(bus Bus) api.Cycle {
	seen := p.advance(bus, api.Operand)
	if shapeOf(p.opcode) == double {
		p.phase = atOpcode
		p.doDouble(seen.Data)
		return seen
	}
	p.phase = atAccess
	p.addr = seen.Data
	if indexed(p.opcode) {
		p.addr += p.X
	}
	return seen
}

func (p *Processor) access(bus Bus) api.Cycle {
	p.phase = atOpcode
	if shapeOf(p.opcode) == writing {
		bus.Write(p.addr, p.A)
		return api.Cycle{Kind: api.Write, Addr: int(p.addr), Data: p.A}
	}
	value := bus.Read(p.addr)
	p.doRead(value)
	return api.Cycle{Kind: api.Read, Addr: int(p.addr), Data: value}
}

// advance reads the byte at PC, and PC goes on.
func (p *Processor) advance(bus Bus, kind int) api.Cycle {
	seen := api.Cycle{Kind: kind, Addr: int(p.PC), Data: bus.Read(p.PC)}
	p.PC++
	return seen
}
