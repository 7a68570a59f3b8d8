package rt

// mul doubles what it has for each bit of B, the highest one first, and adds A where that bit is 1.
func (w *writer) mul() {
	w.perBit()
	w.up("shl")
	w.upAt(stack, copyAt)
	w.do("jnc", ".next")
	w.with("add", "adc", placeA, 0)
	w.bitDone()
	w.store()
	w.do("ret")
}

// divide makes A the quotient, and leaves the rest in hand: bit by bit A goes out above into the rest, and the quotient comes in from below. The rest always fits, since it is never above what has gone out of A.
func (w *writer) divide() {
	w.trapZero()
	w.perBit()
	w.upAt(placeA, 0)
	w.up("rol")
	w.with("cmp", "cpc", stack, copyAt)
	w.do("jc", ".next")
	w.with("sub", "sbc", stack, copyAt)
	w.do("ld", spare, placeA, "0")
	w.do("or", spare, one)
	w.do("st", placeA, spare, "0")
	w.bitDone()
}

func (w *writer) udiv() {
	w.divide()
	w.do("ret")
}

func (w *writer) urem() {
	w.divide()
	w.store()
	w.do("ret")
}

// sdiv's quotient is below 0 where the signs of A and B are not the same.
func (w *writer) sdiv() {
	w.trapZero()
	w.do("ld", held(0), placeA, digits(w.words-1))
	w.do("ld", spare, placeB, digits(w.words-1))
	w.do("xor", held(0), spare)
	w.unsigned("udiv")
}

// srem's rest has the sign of A.
func (w *writer) srem() {
	w.trapZero()
	w.do("ld", held(0), placeA, digits(w.words-1))
	w.unsigned("urem")
}

// unsigned lets a routine without signs do what is to be done, and then gives A the sign of the lowest word in hand. B stays as it is: its opposite is made on the stack.
func (w *writer) unsigned(kind string) {
	w.do("push", held(0))
	w.do("push", placeA)
	w.pushB()
	w.unsignAt(stack, ".b")
	w.unsignAt(placeA, ".a")
	w.do("mov", placeB, stack)
	w.do("call", named(kind, w.words))
	w.drop(w.words)
	w.do("pop", placeA)
	w.do("pop", held(0))
	w.do("or", held(0), held(0))
	w.do("jge", ".end")
	w.negateAt(placeA)
	w.label(".end")
	w.do("ret")
}

func (w *writer) shl() { w.shift((*writer).up, "shl") }

func (w *writer) shr() { w.shift((*writer).down, "shr") }

func (w *writer) sar() { w.shift((*writer).down, "sar") }

// shift moves A one bit at a time, as often as B says; more often than A has bits changes nothing more.
func (w *writer) shift(move func(*writer, string), kind string) {
	const count = placeB
	w.do("ld", count, placeB, "0")
	w.do("ldi", spare, digits(w.bits()))
	w.do("cmp", count, spare)
	w.do("jc", ".few")
	w.do("mov", count, spare)
	w.label(".few")
	w.load()
	w.do("ldi", spare, "1")
	w.label(".place")
	w.do("sub", count, spare)
	w.do("jc", ".end")
	move(w, kind)
	w.do("jmp", ".place")
	w.label(".end")
	w.store()
	w.do("ret")
}
