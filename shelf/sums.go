package shelf

// Programs that tell one thing of all bytes that come in.

const adlerText = decText + `i16 main() {
	u32 a = 1u;
	u32 b = 0u;
	i16 c = get();
	while (c >= 0) {
		a = (a + (u32)c) % 65521u;
		b = (b + a) % 65521u;
		c = get();
	}
	dec(b << 16 | a);
	return 0;
}
`

const countText = decText + `i16 main() {
	u32 n = 0u;
	while (get() >= 0) {
		n = n + 1u;
	}
	dec(n);
	return 0;
}
`

const crcText = decText + `i16 main() {
	u16 r = 65535u;
	i16 c = get();
	while (c >= 0) {
		i16 k;
		r = r ^ (u16)c << 8;
		for (k = 0; k < 8; k = k + 1) {
			if (r & 32768u) {
				r = r << 1 ^ 4129u;
			} else {
				r = r << 1;
			}
		}
		c = get();
	}
	dec(r);
	return 0;
}
`

const digitsText = decText + `i16 main() {
	u64 n = 0u;
	i16 c = get();
	while (c >= 0) {
		if (c >= 48 && c <= 57) {
			n = n + (u64)(c - 48);
		}
		c = get();
	}
	dec(n);
	return 0;
}
`

const luhnText = `u8 a[40];
i16 main() {
	i16 n = 0;
	i16 c = get();
	u16 s = 0u;
	i16 two = 0;
	while (c >= 0) {
		if (c >= 48 && c <= 57 && n < 40) {
			a[n] = c - 48;
			n = n + 1;
		}
		c = get();
	}
	while (n > 0) {
		n = n - 1;
		c = a[n];
		if (two) {
			c = c * 2;
			if (c > 9) {
				c = c - 9;
			}
		}
		two = !two;
		s = s + (u16)c;
	}
	put(48 + (s % 10u == 0u));
	put(10);
	return 0;
}
`

const mirrorText = `u8 a[200];
i16 main() {
	i16 n = 0;
	i16 k = 0;
	i16 c = get();
	while (c >= 0 && n < 200) {
		a[n] = c;
		n = n + 1;
		c = get();
	}
	while (k < n && a[k] == a[n - 1 - k]) {
		k = k + 1;
	}
	put(48 + (k == n));
	put(10);
	return 0;
}
`

const onesText = decText + `i16 main() {
	u32 n = 0u;
	i16 c = get();
	while (c >= 0) {
		while (c != 0) {
			n = n + (u32)(c & 1);
			c = c >> 1;
		}
		c = get();
	}
	dec(n);
	return 0;
}
`

const sumText = decText + `i16 main() {
	u64 s = 0u;
	u64 n = 0u;
	i16 c = get();
	while (c >= 0) {
		if (c >= 48 && c <= 57) {
			n = n * 10u + (u64)(c - 48);
		} else {
			s = s + n;
			n = 0u;
		}
		c = get();
	}
	dec(s + n);
	return 0;
}
`

const wordsText = decText + `i16 main() {
	u32 n = 0u;
	i16 in = 0;
	i16 c = get();
	while (c >= 0) {
		if (c <= 32) {
			in = 0;
		} else {
			if (in == 0) {
				n = n + 1u;
			}
			in = 1;
		}
		c = get();
	}
	dec(n);
	return 0;
}
`
