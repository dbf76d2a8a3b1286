// Package money is layer 1: see shared/doc/01-money.md.
package money

import (
	"cmp"

	"haggler/api"
)

// whole is the part that is all of an amount, in hundredths of a percent.
const whole = 10000

// Right tells whether an amount may be.
func Right(a int) bool { return within(a, -api.MaxMoney, api.MaxMoney) }

// Add, Sub and Times are sums, differences and products.
func Add(a, b int) (int, api.Errno) {
	if !Right(a) || !Right(b) {
		return 0, api.ErrRange
	}
	return checked(a + b)
}

func Sub(a, b int) (int, api.Errno) {
	if !Right(a) || !Right(b) {
		return 0, api.ErrRange
	}
	return checked(a - b)
}

func Times(a, n int) (int, api.Errno) {
	if !Right(a) || !Right(n) {
		return 0, api.ErrRange
	}
	// A product of two right numbers may run over 64 bits, so the room that a
	// leaves for n is asked for ahead of it.
	if a != 0 {
		room := api.MaxMoney / size(a)
		if !within(n, -room, room) {
			return 0, api.ErrRange
		}
	}
	return a * n, api.OK
}

// Part is a part of an amount, in hundredths of a percent, rounded down, or up.
func Part(a, bp int, up bool) (int, api.Errno) {
	if !Right(a) || !within(bp, -api.MaxBp, api.MaxBp) {
		return 0, api.ErrRange
	}
	// At most 10^17, which 64 bits hold.
	product := a * bp
	if up {
		return checked(-floor(-product))
	}
	return checked(floor(product))
}

// Clamp is an amount within others.
func Clamp(a, low, high int) int { return max(low, min(a, high)) }

// Later is a tick, so many on.
func Later(tick, by int) int {
	return min(asTick(tick)+asTick(by), api.MaxTick)
}

// within tells whether a number is from low to high, both of them among those.
func within[T cmp.Ordered](a, low, high T) bool { return low <= a && a <= high }

// checked is a number that was reckoned, or the error, if it is not right.
func checked(a int) (int, api.Errno) {
	if !Right(a) {
		return 0, api.ErrRange
	}
	return a, api.OK
}

// size is a right number without its sign.
func size(a int) int { return max(a, -a) }

// floor is a product's wholes. Go's division cuts towards 0, which is above
// what lies below 0.
func floor(product int) int {
	if product%whole < 0 {
		return product/whole - 1
	}
	return product / whole
}

// asTick is a number as the tick that is nearest to it.
func asTick(a int) int { return Clamp(a, 0, api.MaxTick) }
