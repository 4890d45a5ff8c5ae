package cpu

import (
	"testing"

	"nightwatch/api"
)

// store is a bus of memory alone.
type store [256]byte

func (s *store) Read(addr byte) byte { return s[addr] }

func (s *store) Write(addr byte, value byte) { s[addr] = value }

// at is a processor with an instruction and its operand ahead.
func at(s *store, opcode byte, operand byte) *Processor {
	var p Processor
	p.Boot()
	s[start], s[start+1] = opcode, operand
	return &p
}

// Every pair of bytes, with each instruction that takes one from the bus.
func TestArithmetic(t *testing.T) {
	var s store
	for opcode := opAdd; opcode <= opExclusive; opcode++ {
		for a := range 256 {
			for b := range 256 {
				p := at(&s, byte(opcode), 0x10)
				p.A, p.Carry, p.Zero = byte(a), b%2 == 0, a%2 == 0
				s[0x10] = byte(b)
				for range 3 {
					p.Cycle(&s, false)
				}
				want, carry := 0, b%2 == 0
				switch opcode {
				case opAdd:
					want, carry = a+b, a+b > 255
				case opSubtract:
					want, carry = a-b+256, a-b < 0
				case opAnd:
					want = a & b
				case opOr:
					want = a | b
				case opExclusive:
					want = a ^ b
				}
				want %= 256
				if int(p.A) != want || p.Carry != carry || p.Zero != (want == 0) || p.X != 0 || p.PC != start+2 {
					t.Fatalf("%#x of %d and %d: %+v, want %d, CARRY %t", opcode, a, b, p, want, carry)
				}
			}
		}
	}
}

// Every operand with each X: the address goes around, and nothing else is touched.
func TestIndexed(t *testing.T) {
	for operand := range 256 {
		for x := range 256 {
			addr := byte(operand + x)
			if addr == start || addr == start+1 {
				continue
			}
			var s store
			p := at(&s, opStoreX, byte(operand))
			p.A, p.X = 0x5A, byte(x)
			want := s
			want[addr] = 0x5A
			p.Cycle(&s, false)
			p.Cycle(&s, false)
			if seen := p.Cycle(&s, false); s != want || seen != (api.Cycle{Kind: api.Write, Addr: int(addr), Data: 0x5A}) {
				t.Fatalf("writing at %d with %d: %+v", operand, x, seen)
			}
			p = at(&s, opLoadX, byte(operand))
			p.X = byte(x)
			p.Cycle(&s, false)
			p.Cycle(&s, false)
			if seen := p.Cycle(&s, false); p.A != 0x5A || seen != (api.Cycle{Kind: api.Read, Addr: int(addr), Data: 0x5A}) {
				t.Fatalf("reading at %d with %d: %+v", operand, x, seen)
			}
		}
	}
}

// trapped does a cycle, and tells what it panicked with.
func trapped(p *Processor, s *store) (fault any) {
	defer func() { fault = recover() }()
	p.Cycle(s, false)
	return nil
}

// A trap is a panic with the Fetch in it; no instruction panics.
func TestTrap(t *testing.T) {
	for b := range 256 {
		var s store
		p := at(&s, byte(b), 0)
		fault := trapped(p, &s)
		if known := b <= 0x0E || b >= 0x10 && b <= 0x14 || b == 0x18; known {
			if fault != nil {
				t.Errorf("%#x: %+v", b, fault)
			}
			continue
		}
		if want := (Trap{api.Cycle{Kind: api.Fetch, Addr: start, Data: byte(b)}}); fault != want {
			t.Errorf("%#x: %+v, want %+v", b, fault, want)
		}
		if p.PC != start+1 {
			t.Errorf("%#x: PC is %#x", b, p.PC)
		}
	}
}

// While it waits the processor goes by the flag as it is when the cycle begins.
func TestWait(t *testing.T) {
	var s store
	p := at(&s, opWait, opXUp)
	if seen := p.Cycle(&s, true); seen.Kind != api.Fetch {
		t.Errorf("the wait: %+v", seen)
	}
	for range 1000 {
		if seen := p.Cycle(&s, false); seen != (api.Cycle{Kind: api.Idle}) {
			t.Fatalf("waiting: %+v", seen)
		}
	}
	for i, flag := range []bool{true, false, false} {
		if seen := p.Cycle(&s, flag); seen.Kind != api.Fetch || seen.Addr != start+1+i {
			t.Errorf("behind the wait: %+v", seen)
		}
	}
}
