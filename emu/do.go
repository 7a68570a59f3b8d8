package emu

import (
	"pairlegal/api"
	"pairlegal/word"
)

// stack is the register that points to the stack.
const stack = 7

const topBit = 15

// do does what an instruction says, when At is already behind it.
func (m *machine) do(i api.Instr) {
	switch i.Op {
	case api.OpHalt:
		m.how = api.RanHalt
	case api.OpTrap:
		m.how, m.trap = api.RanTrap, i.Imm
	case api.OpMov:
		m.Regs[i.D] = m.Regs[i.S]
	case api.OpLdi:
		m.Regs[i.D] = i.Imm
	case api.OpLd:
		m.Regs[i.D] = m.Mem[place(m.Regs[i.S]+i.Imm)]
	case api.OpSt:
		m.Mem[place(m.Regs[i.D]+i.Imm)] = m.Regs[i.S]
	case api.OpAdd, api.OpAdc, api.OpSub, api.OpSbc, api.OpCmp, api.OpCpc:
		m.count(i)
	case api.OpAnd:
		m.become(i.D, m.Regs[i.D]&m.Regs[i.S], false)
	case api.OpOr:
		m.become(i.D, m.Regs[i.D]|m.Regs[i.S], false)
	case api.OpXor:
		m.become(i.D, m.Regs[i.D]^m.Regs[i.S], false)
	case api.OpShl, api.OpRol, api.OpShr, api.OpSar, api.OpRor:
		m.shift(i)
	case api.OpJmp, api.OpJz, api.OpJnz, api.OpJc, api.OpJnc, api.OpJlt, api.OpJge:
		if m.jumps(i.Op) {
			m.At = i.Imm
		}
	case api.OpCall:
		m.push(m.At)
		m.At = i.Imm
	case api.OpRet:
		m.At = m.pop()
	case api.OpPush:
		m.push(m.Regs[i.S])
	case api.OpPop:
		m.Regs[i.D] = m.pop()
	case api.OpOut:
		m.tell(m.Regs[i.S])
	case api.OpIn:
		m.Regs[i.D] = m.take()
	}
}

// count does sums and differences, whose flags come of them.
func (m *machine) count(i api.Instr) {
	a, b, before := m.Regs[i.D], m.Regs[i.S], m.Flags
	switch i.Op {
	case api.OpAdd:
		m.Regs[i.D], m.Flags = word.Sum(a, b, false)
	case api.OpAdc:
		m.Regs[i.D], m.Flags = word.Sum(a, b, before.C)
	case api.OpSub:
		m.Regs[i.D], m.Flags = word.Difference(a, b, false)
	case api.OpSbc:
		m.Regs[i.D], m.Flags = word.Difference(a, b, before.C)
	case api.OpCmp:
		_, m.Flags = word.Difference(a, b, false)
	case api.OpCpc:
		// Of numbers of several words Z is to tell whether all are the same.
		_, m.Flags = word.Difference(a, b, before.C)
		m.Flags.Z = m.Flags.Z && before.Z
	}
}

func (m *machine) shift(i api.Instr) {
	was, in := m.Regs[i.D], 0
	switch i.Op {
	case api.OpRol, api.OpRor:
		if m.Flags.C {
			in = 1
		}
	case api.OpSar:
		in = was >> topBit
	}
	if i.Op == api.OpShl || i.Op == api.OpRol {
		m.become(i.D, was<<1&maxWord|in, was>>topBit == 1)
	} else {
		m.become(i.D, was>>1|in<<topBit, was&1 == 1)
	}
}

// become sets a register to bits that no sum has made: nothing can overflow, and only a shift has a carry.
func (m *machine) become(d, x int, carry bool) {
	m.Regs[d] = x
	m.Flags = api.Flags{C: carry, Z: x == 0, N: x>>topBit == 1}
}

func (m *machine) jumps(op int) bool {
	f := m.Flags
	switch op {
	case api.OpJz:
		return f.Z
	case api.OpJnz:
		return !f.Z
	case api.OpJc:
		return f.C
	case api.OpJnc:
		return !f.C
	case api.OpJlt:
		return f.N != f.V
	case api.OpJge:
		return f.N == f.V
	}
	return true
}

func (m *machine) push(x int) {
	m.Regs[stack] = place(m.Regs[stack] - 1)
	m.Mem[m.Regs[stack]] = x
}

func (m *machine) pop() int {
	x := m.Mem[m.Regs[stack]]
	m.Regs[stack] = place(m.Regs[stack] + 1)
	return x
}

func (m *machine) tell(x int) {
	if len(m.output) == api.MaxTold {
		m.how = api.RanMuch
		return
	}
	m.output = append(m.output, byte(x))
}

func (m *machine) take() int {
	m.Flags.C = m.read == len(m.input)
	if m.Flags.C {
		return 0
	}
	m.read++
	return int(m.input[m.read-1])
}
