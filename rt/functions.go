package rt

import "patina/api"

// greatestPower is the greatest power of ten in a number of 63 bits and in 2^63.
const greatestPower = 1_000_000_000_000_000_000

func (b *builder) start() *builder {
	return b.begin(labelStart).
		li(stack, StackBase+StackSize).
		li(limit, StackBase+Guard).
		call(labelMain).
		end(api.ExitDone)
}

func (b *builder) stackEnd() *builder { return b.begin(labelStack).end(api.ExitStack) }

// print makes the digits from the first one on, so that it needs no memory.
func (b *builder) print() *builder {
	const (
		rest  = 5 // what is still to be printed, without a sign: the least number too has its digits so
		some  = 7 // the same, but not 0, which has a digit as well; no power of ten lies between the two
		power = 28
		ten   = 29
	)
	return b.begin(labelPrint).
		move(rest, value).
		li(service, servicePrint).
		li(ten, 10).
		li(power, greatestPower).
		branch(api.OpBge, rest, zero, ".digits").
		li(value, '-').
		ecall().
		of(api.OpSub, rest, zero, rest).
		label(".digits").
		with(api.OpOri, some, rest, 1).
		label(".first").
		branch(api.OpBgeu, some, power, ".next").
		of(api.OpDivu, power, power, ten).
		jump(".first").
		label(".next").
		of(api.OpDivu, value, rest, power).
		of(api.OpRemu, rest, rest, power).
		with(api.OpAddi, value, value, '0').
		ecall().
		of(api.OpDivu, power, power, ten).
		branch(api.OpBne, power, zero, ".next").
		li(value, '\n').
		ecall().
		li(value, 0).
		back()
}

func (b *builder) read() *builder {
	return b.begin(labelRead).li(service, serviceRead).ecall().back()
}
