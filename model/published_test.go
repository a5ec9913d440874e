package model_test

// published are the six texts of chapter 19.
var published = []string{
	`policy fifo {
	queue q resident;
	on miss {
		if full(q) {
			evict q back;
		}
		insert q front;
	}
}
`,
	`policy lru {
	queue q resident;
	on hit q {
		move q front;
	}
	on miss {
		if full(q) {
			evict q back;
		}
		insert q front;
	}
}
`,
	`policy clock {
	queue q resident;
	tag ref in 1;
	on hit q {
		mark x ref = 1;
	}
	on miss {
		if full(q) {
			loop cap(q) while ref(back(q)) == 1 {
				mark back(q) ref = 0;
				shift q back q front;
			}
			evict q back;
		}
		insert q front;
	}
}
`,
	`policy twoq {
	queue fresh resident;
	queue out ghost;
	queue main resident;
	require size >= 2;
	require cap(fresh) == size && cap(main) == size;
	rule reclaim {
		if total == size {
			if len(fresh) > max(1, size / 4) {
				if full(out) {
					drop out back;
				}
				evict fresh back to out front;
			} else {
				evict main back;
			}
		}
	}
	on hit main {
		move main front;
	}
	on ghost out {
		call reclaim;
		if at(out) {
			move main front;
		} else {
			insert main front;
		}
	}
	on miss {
		call reclaim;
		insert fresh front;
	}
}
`,
	`policy s3fifo {
	queue small resident;
	queue main resident;
	queue gone ghost;
	tag freq in 3;
	var done = 0 in 0 .. 1;
	require size >= 10;
	require cap(small) == size;
	rule evictmain {
		loop 3 * cap(main) while !empty(main) && freq(back(main)) > 0 {
			mark back(main) freq = freq(back(main)) - 1;
			shift main back main front;
		}
		if !empty(main) {
			evict main back;
		}
	}
	rule evictsmall {
		set done = 0;
		loop cap(small) while done == 0 && !empty(small) {
			if freq(back(small)) > 1 {
				if full(main) {
					call evictmain;
				}
				mark back(small) freq = 0;
				shift small back main front;
			} else {
				if full(gone) {
					drop gone back;
				}
				evict small back to gone front;
				set done = 1;
			}
		}
	}
	rule reclaim {
		loop 2 while total == size {
			if len(small) >= size / 10 {
				call evictsmall;
			} else {
				call evictmain;
			}
		}
	}
	on hit small {
		mark x freq = freq(x) + 1;
	}
	on hit main {
		mark x freq = freq(x) + 1;
	}
	on ghost gone {
		call reclaim;
		if total < size {
			if at(gone) {
				if full(main) {
					call evictmain;
				}
				move main front;
				mark x freq = 0;
			} else {
				insert small front;
			}
		}
	}
	on miss {
		call reclaim;
		if total < size {
			insert small front;
		}
	}
}
`,
	`policy arc {
	queue t1 resident;
	queue t2 resident;
	queue b1 ghost;
	queue b2 ghost;
	var p = 0 in 0 .. size;
	var second = 0 in 0 .. 1;
	require cap(t1) == size && cap(t2) == size;
	rule replace {
		if total == size {
			if !empty(t1) && (len(t1) > p || second == 1 && len(t1) == p) || empty(t2) {
				if full(b1) {
					drop b1 back;
				}
				evict t1 back to b1 front;
			} else {
				if full(b2) {
					drop b2 back;
				}
				evict t2 back to b2 front;
			}
		}
	}
	on hit t1 {
		move t2 front;
	}
	on hit t2 {
		move t2 front;
	}
	on ghost b1 {
		set p = p + max(1, len(b2) / len(b1));
		set second = 0;
		forget;
		call replace;
		insert t2 front;
	}
	on ghost b2 {
		set p = p - max(1, len(b1) / len(b2));
		set second = 1;
		forget;
		call replace;
		insert t2 front;
	}
	on miss {
		if len(t1) == size {
			evict t1 back;
		} else {
			if len(t1) + len(b1) == size {
				if !empty(b1) {
					drop b1 back;
				}
			} else if total + len(b1) + len(b2) == 2 * size {
				if !empty(b2) {
					drop b2 back;
				}
			}
			set second = 0;
			call replace;
		}
		insert t1 front;
	}
}
`,
}
